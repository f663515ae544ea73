/- What Touches returns, on both sides. -/
import Derived.Test.YtbajpnbodhhmjaaGreatPs02
import Derived.Maps.OwnSet
import Derived.StringKeys
import Derived.Deep.RegionHeld3
import Derived.Test.YtbajpnbodhhmjaaGreatProg
import Derived.WalkKit
import Derived.Test.YtbajpnbodhhmjaaGreatPs01
import Derived.WalkSpells
import Derived.WalkLawsBesides
import Derived.Deep.QuietTactic
import Derived.BigQuiet
import Derived.Deep.DrawnRows
import Derived.Deep.AppendLies
import Derived.Shelf.Small.Strs
import Derived.Shelf.Small.Wraps
import Derived.Shelf.LaysM
import Derived.Shelf.Strconv.Clone
namespace Go.Proofs.YtbajpnbodhhmjaaGreat
open Go.RowKit
open KM
attribute [local go_sem ↓] Go.wp_at_zero Go.wp_at_succ

def NoT (rs : List Rg) (ws : List Wt) (k : Nat) : Prop := ∀ j (hj : j < rs.length), j < k → ∀ i (hi : i < ws.length), inB rs[j] ws[i].1 = false
def NoI (r : Rg) (ws : List Wt) (k : Nat) : Prop := ∀ i (hi : i < ws.length), i < k → inB r ws[i].1 = false
theorem touch_yes {rs : List Rg} {ws : List Wt} (k m : Nat) (hk : k < rs.length) (hm : m < ws.length) (h : inB rs[k] ws[m].1 = true) : touchB rs ws = true := by
 unfold touchB
 rw [List.any_eq_true]
 exact ⟨rs[k], List.getElem_mem hk, by rw [List.any_eq_true]; exact ⟨ws[m], List.getElem_mem hm, h⟩⟩
theorem touch_no {rs : List Rg} {ws : List Wt} {k : Nat} (h : NoT rs ws k) (hk : rs.length ≤ k) : touchB rs ws = false := by
 unfold touchB
 rw [List.any_eq_false]
 intro r hr
 obtain ⟨j, hj, rfl⟩ := List.getElem_of_mem hr
 rw [Bool.not_eq_true, List.any_eq_false]
 intro x hx
 obtain ⟨i, hi, rfl⟩ := List.getElem_of_mem hx
 rw [h j hj (by omega) i hi]
 simp
theorem not_more {rs : List Rg} {ws : List Wt} {k m : Nat} (h : NoT rs ws k) (hk : k < rs.length) (h2 : NoI rs[k] ws m) (hm : ws.length ≤ m) : NoT rs ws (k + 1) := fun j hj hjk i hi => by
 by_cases e : j = k
 ·subst e; exact h2 i hi (by omega)
 ·exact h j hj (by omega) i hi
theorem noi_more {r : Rg} {ws : List Wt} {m : Nat} (h : NoI r ws m) (hm : m < ws.length) (h2 : inB r ws[m].1 = false) : NoI r ws (m + 1) := fun i hi him => by
 by_cases e : i = m
 ·subst e; exact h2
 ·exact h i hi (by omega)

set_option maxRecDepth 100000 in
set_option maxHeartbeats 4000000 in
theorem itouch (rs : List Rg) (ws : List Wt) (a1 a2 : Option Addr) (c1 c2 : Nat) (hn : rs.length ≤ 100000000) (hm : ws.length ≤ 100000000) (w : World) (hr : GRow encR w a1 rs) (hw : GRow encW w a2 ws) :
  Calls Tryz.prog 44 #[.slice a1 rs.length c1, .slice a2 ws.length c2] w fun e w' => e = .returned (.bool (touchB rs ws)) ∧ Below w.heap.size w w' := by
 have HR : Hid (GRow encR w a1 rs) := hr
 have HW : Hid (GRow encW w a2 ws) := hw
 clear hr hw
 go_enter Tryz.func44, Tryz.ntmps44
 go_wp2
 go_loopw [11] (fun t wr => ∃ k : Nat, k ≤ rs.length ∧ t = .int .i64 k ∧ Hid (NoT rs ws k) ∧ Hid (Below w.heap.size w wr)) (fun t _ => rs.length - (intOf t).toNat)
 case atStart => exact ⟨0, Nat.zero_le _, rfl, fun j hj h => by omega, belowRefl w⟩
 case round =>
  obtain ⟨k, hk, rfl, HG, HB⟩ := hrel
  by_cases hlt : k < rs.length
  ·have hlt' : (k : Int) < (rs.length : Int) := by omega
   have hk0 : (0 : Int) ≤ (k : Int) := by omega
   obtain ⟨b, off, rfl, hbl, hc⟩ := (HR.out.below HB.out) (by omega)
   have r0 := (rat hc k hlt).1
   have r1 := (rat hc k hlt).2
   clear hc
   have HX : Hid (Box (wr.alloc (.cells #[.string rs[k].1, .string rs[k].2] 35)) wr.heap.size [.string rs[k].1, .string rs[k].2]) := Box.new wr [.string rs[k].1, .string rs[k].2] 35
   have HB1 : Hid (Below w.heap.size w (wr.alloc (.cells #[.string rs[k].1, .string rs[k].2] 35))) := HB.out.alloc HB.out.size _
   go_wp2
   go_loopw [17] (fun t wr2 => ∃ m : Nat, m ≤ ws.length ∧ t = .int .i64 m ∧ Hid (NoI rs[k] ws m) ∧ Hid (Below w.heap.size w wr2) ∧ Hid (Box wr2 wr.heap.size [.string rs[k].1, .string rs[k].2])) (fun t _ => ws.length - (intOf t).toNat)
   case atStart => exact ⟨0, Nat.zero_le _, rfl, fun j hj h => by omega, HB1, HX⟩
   case round =>
    clear HX HB1 r0 r1
    obtain ⟨m, hmk, rfl, HI, HB2, HX2⟩ := hrel
    by_cases hlm : m < ws.length
    ·have hlm' : (m : Int) < (ws.length : Int) := by omega
     have hm0 : (0 : Int) ≤ (m : Int) := by omega
     obtain ⟨b2, off2, rfl, hbl2, hc2⟩ := (HW.out.below HB2.out) (by omega)
     have q0 := (wat hc2 m hlm).1
     have q1 := (wat hc2 m hlm).2.1
     have q2 := (wat hc2 m hlm).2.2
     clear hc2
     have x0 := HX2.out.c0
     have x1 := HX2.out.c1
     have xl := HX2.out.lt
     have HX3 : Hid (Box (wr.alloc (.cells #[.string ws[m].1, .string ws[m].2.1, .bool ws[m].2.2] 55)) _ [.string rs[k].1, .string rs[k].2]) := HX2.out.below ((belowRefl wr).alloc (Nat.le_refl _) _)
     have HB3 : Hid (Below w.heap.size w (wr.alloc (.cells #[.string ws[m].1, .string ws[m].2.1, .bool ws[m].2.2] 55))) := HB2.out.alloc HB2.out.size _
     cases hin : inB rs[k] ws[m].1
     ·have C1 : Hid (∀ w, Calls Tryz.prog 39 #[.agg #[.string rs[k].1, .string rs[k].2], .string ws[m].1] w fun e w' => e = .returned (.bool false) ∧ Below w.heap.size w w') := fun w => by
       have h := iin rs[k].1 rs[k].2 ws[m].1 w
       rw [show inB (rs[k].1, rs[k].2) ws[m].1 = false from hin] at h
       exact h
      have HI2 : Hid (NoI rs[k] ws (m + 1)) := noi_more HI.out hlm hin
      clear hin
      go_wp2_with fail
      refine (C1.out _).mono ?_
      rintro e w3 ⟨rfl, hb3⟩
      have HX4 : Hid (Box w3 _ [.string rs[k].1, .string rs[k].2]) := HX3.out.below hb3
      have HB4 : Hid (Below w.heap.size w w3) := HB3.out.trans (hb3.mono HB3.out.size)
      clear hb3 x0 x1 q0 q1 q2
      go_wp2
      go_roundw
      case rel => exact ⟨m + 1, by omega, by go_num, HI2, HB4, HX4⟩
      case measure => simp [intOf]; omega
     ·have C1 : Hid (∀ w, Calls Tryz.prog 39 #[.agg #[.string rs[k].1, .string rs[k].2], .string ws[m].1] w fun e w' => e = .returned (.bool true) ∧ Below w.heap.size w w') := fun w => by
       have h := iin rs[k].1 rs[k].2 ws[m].1 w
       rw [show inB (rs[k].1, rs[k].2) ws[m].1 = true from hin] at h
       exact h
      have HT : Hid (touchB rs ws = true) := touch_yes k m hlt hlm hin
      clear hin
      go_wp2_with fail
      refine (C1.out _).mono ?_
      rintro e w3 ⟨rfl, hb3⟩
      have HB4 : Hid (Below w.heap.size w w3) := HB3.out.trans (hb3.mono HB3.out.size)
      clear hb3 x0 x1 q0 q1 q2
      go_wp2
      go_ret
      exact ⟨ret_bool HT.out.symm, HB4.out⟩
    ·have hlm' : ¬ (m : Int) < (ws.length : Int) := by omega
     have HG2 : Hid (NoT rs ws (k + 1)) := not_more HG.out hlt HI.out (by omega)
     go_wp2
     go_roundw
     case rel => exact ⟨k + 1, by omega, by go_num, HG2, HB2⟩
     case measure => simp [intOf]; omega
  ·have hlt' : ¬ (k : Int) < (rs.length : Int) := by omega
   have HN : Hid (touchB rs ws = false) := touch_no HG.out (by omega)
   go_wp2
   go_ret
   exact ⟨ret_bool HN.out.symm, HB.out⟩

set_option maxRecDepth 100000 in
set_option maxHeartbeats 4000000 in
theorem stouch (rs : List Rg) (ws : List Wt) (a1 a2 : Option Addr) (c1 c2 : Nat) (hn : rs.length ≤ 100000000) (hm : ws.length ≤ 100000000) (w : World) (hr : GRow encR w a1 rs) (hw : GRow encW w a2 ws) :
  Calls Tryz.prog 46 #[.slice a1 rs.length c1, .slice a2 ws.length c2] w fun e w' => e = .returned (.bool (touchB rs ws)) ∧ Below w.heap.size w w' := by
 have HR : Hid (GRow encR w a1 rs) := hr
 have HW : Hid (GRow encW w a2 ws) := hw
 clear hr hw
 go_enter Tryz.func46, Tryz.ntmps46
 go_wp2
 go_loopw [5] (fun t wr => ∃ k : Nat, k ≤ rs.length ∧ t = .int .i64 k ∧ Hid (NoT rs ws k) ∧ Hid (Below w.heap.size w wr)) (fun t _ => rs.length - (intOf t).toNat)
 case atStart => exact ⟨0, Nat.zero_le _, rfl, fun j hj h => by omega, belowRefl w⟩
 case round =>
  obtain ⟨k, hk, rfl, HG, HB⟩ := hrel
  by_cases hlt : k < rs.length
  ·have hlt' : (k : Int) < (rs.length : Int) := by omega
   have hk0 : (0 : Int) ≤ (k : Int) := by omega
   go_wp2
   go_loopw [6] (fun t wr2 => ∃ m : Nat, m ≤ ws.length ∧ t = .int .i64 m ∧ Hid (NoI rs[k] ws m) ∧ Hid (Below w.heap.size w wr2)) (fun t _ => ws.length - (intOf t).toNat)
   case atStart => exact ⟨0, Nat.zero_le _, rfl, fun j hj h => by omega, HB⟩
   case round =>
    obtain ⟨m, hmk, rfl, HI, HB2⟩ := hrel
    by_cases hlm : m < ws.length
    ·have hlm' : (m : Int) < (ws.length : Int) := by omega
     have hm0 : (0 : Int) ≤ (m : Int) := by omega
     obtain ⟨b, off, rfl, hbl, hc⟩ := (HR.out.below HB2.out) (by omega)
     have r0 := (rat hc k hlt).1
     have r1 := (rat hc k hlt).2
     clear hc
     obtain ⟨b2, off2, rfl, hbl2, hc2⟩ := (HW.out.below HB2.out) (by omega)
     have q0 := (wat hc2 m hlm).1
     clear hc2
     cases hin : inB rs[k] ws[m].1
     ·have C1 : Hid (∀ w, Calls Tryz.prog 42 #[.agg #[.string rs[k].1, .string rs[k].2], .string ws[m].1] w fun e w' => e = .returned (.bool false) ∧ Below w.heap.size w w') := fun w => by
       have h := sin rs[k].1 rs[k].2 ws[m].1 w
       rw [show inB (rs[k].1, rs[k].2) ws[m].1 = false from hin] at h
       exact h
      have HI2 : Hid (NoI rs[k] ws (m + 1)) := noi_more HI.out hlm hin
      clear hin
      go_wp2
      go_region_held3 (fun w' => w'.cell? ⟨b, off + k * 2, none⟩ = some (.string rs[k].1) ∧ w'.cell? ⟨b, off + k * 2 + 1, none⟩ = some (.string rs[k].2) ∧ w'.cell? ⟨b2, off2 + m * 3, none⟩ = some (.string ws[m].1)) (first | go_keep | exact ⟨(hb3.cell (p := ⟨b, off + k * 2, none⟩) hbl).trans r0, (hb3.cell (p := ⟨b, off + k * 2 + 1, none⟩) hbl).trans r1, (hb3.cell (p := ⟨b2, off2 + m * 3, none⟩) hbl2).trans q0⟩) ((go_at_call 42; refine (C1.out _).mono ?_; rintro e w3 ⟨rfl, hb3⟩))
      all_goals
       go_wp2
       go_roundw
       case rel => exact ⟨m + 1, by omega, by go_num, HI2, HB2.out.drew.trans (hb3.mono HB2.out.size)⟩
       case measure => simp [intOf]; omega
     ·have C1 : Hid (∀ w, Calls Tryz.prog 42 #[.agg #[.string rs[k].1, .string rs[k].2], .string ws[m].1] w fun e w' => e = .returned (.bool true) ∧ Below w.heap.size w w') := fun w => by
       have h := sin rs[k].1 rs[k].2 ws[m].1 w
       rw [show inB (rs[k].1, rs[k].2) ws[m].1 = true from hin] at h
       exact h
      have HT : Hid (touchB rs ws = true) := touch_yes k m hlt hlm hin
      clear hin
      go_wp2
      go_region_held3 (fun w' => w'.cell? ⟨b, off + k * 2, none⟩ = some (.string rs[k].1) ∧ w'.cell? ⟨b, off + k * 2 + 1, none⟩ = some (.string rs[k].2) ∧ w'.cell? ⟨b2, off2 + m * 3, none⟩ = some (.string ws[m].1)) (first | go_keep | exact ⟨(hb3.cell (p := ⟨b, off + k * 2, none⟩) hbl).trans r0, (hb3.cell (p := ⟨b, off + k * 2 + 1, none⟩) hbl).trans r1, (hb3.cell (p := ⟨b2, off2 + m * 3, none⟩) hbl2).trans q0⟩) ((go_at_call 42; refine (C1.out _).mono ?_; rintro e w3 ⟨rfl, hb3⟩))
      all_goals
       go_wp2
       go_ret
       exact ⟨ret_bool HT.out.symm, HB2.out.drew.trans (hb3.mono HB2.out.size)⟩
    ·have hlm' : ¬ (m : Int) < (ws.length : Int) := by omega
     have HG2 : Hid (NoT rs ws (k + 1)) := not_more HG.out hlt HI.out (by omega)
     go_wp2
     go_roundw
     case rel => exact ⟨k + 1, by omega, by go_num, HG2, HB2⟩
     case measure => simp [intOf]; omega
  ·have hlt' : ¬ (k : Int) < (rs.length : Int) := by omega
   have HN : Hid (touchB rs ws = false) := touch_no HG.out (by omega)
   go_wp2
   go_ret
   exact ⟨ret_bool HN.out.symm, HB.out⟩
end Go.Proofs.YtbajpnbodhhmjaaGreat

namespace Go.Proofs.YtbajpnbodhhmjaaGreat
open Go.RowKit Go.WideMaps Go.Maps
open KM
attribute [local go_sem ↓] Go.wp_at_zero Go.wp_at_succ

theorem lawK : Keyed Tryz.prog 9 := string_keyed Tryz.underlying9
def kl (s : ByteArray) : Lit := .string s.data.toList
theorem kl_inj {s t : ByteArray} (h : kl s = kl t) : s = t := by
 unfold kl at h
 simp only [Lit.string.injEq] at h
 obtain ⟨⟨x⟩⟩ := s
 obtain ⟨⟨y⟩⟩ := t
 simp only at h
 subst h
 rfl
theorem toList_inj {s t : ByteArray} (h : s.toList = t.toList) : s = t := by
 rw [ByteArray.toList_eq, ByteArray.toList_eq] at h
 exact kl_inj (by unfold kl; rw [h])
theorem kl_key (s : ByteArray) : WideAt.IsKeyLit (kl s) := by unfold kl WideAt.IsKeyLit; trivial
theorem keyOk {s : ByteArray} (h : s.size ≤ 1048576) : keyOf Tryz.prog 9 (.string s) = some (kl s) := keyOf_string_mk Tryz.underlying9 (by unfold maxLen; omega)

def plc : List Wt → Nat → DataW Unit
 | [], _ => .map []
 | x :: xs, i => (plc xs (i + 1)).put (kl x.1) (.lit (.int .i64 (i : Int)))
theorem plc_isMap : ∀ (xs : List Wt) (i : Nat), IsMap (plc xs i)
 | [], _ => isMap_empty
 | _ :: xs, i => (plc_isMap xs (i + 1)).put _ _
theorem plc_tidy : ∀ (xs : List Wt) (i : Nat), Tidy (plc xs i)
 | [], _ => tidy_empty
 | _ :: xs, i => (plc_tidy xs (i + 1)).put (kl_key _) _
theorem plc_has : ∀ (xs : List Wt) (i : Nat) (s : ByteArray), Maps.has (plc xs i) (kl s) = true ↔ ∃ x ∈ xs, x.1 = s
 | [], _, s => by simp [plc, Maps.has]
 | x :: xs, i, s => by
  have ih := plc_has xs (i + 1) s
  by_cases e : s = x.1
  ·subst e
   simp only [plc]
   rw [has_put_same (plc_isMap _ _) (kl_key _)]
   simp
  ·simp only [plc]
   rw [has_put_other (fun h => e (kl_inj h)), ih]
   constructor
   ·rintro ⟨y, hy, rfl⟩
    exact ⟨y, List.mem_cons_of_mem _ hy, rfl⟩
   ·rintro ⟨y, hy, rfl⟩
    rcases List.mem_cons.1 hy with rfl | hy
    ·exact absurd rfl e
    ·exact ⟨y, hy, rfl⟩
theorem plc_step (xs : List Wt) (m : Nat) (h : m < xs.length) : plc (xs.drop m) m = (plc (xs.drop (m + 1)) (m + 1)).put (kl xs[m].1) (.lit (.int .i64 (m : Int))) := by
 rw [List.drop_eq_getElem_cons h]
 rfl

set_option maxRecDepth 100000 in
set_option maxHeartbeats 2000000 in
theorem places (xs : List Wt) (a : Option Addr) (c : Nat) (hn : xs.length ≤ 1048576) (hf : WFit xs) (w : World) (hp : GRow encW w a xs) :
  Calls Tryz.prog 69 #[.slice a xs.length c] w fun e w' => e = .returned (.map (some w.heap.size)) ∧ w'.ownsMap Tryz.prog 9 (plainElem Tryz.prog 3) w.heap.size xs.length (plc xs 0) ∧ Below w.heap.size w w' := by
 have HP : Hid (GRow encW w a xs) := hp
 have HF : Hid (WFit xs) := hf
 clear hp hf
 have hmm := @run_makeMap Tryz.prog
 go_enter Tryz.func69, Tryz.ntmps69
 go_wp2
 clear hmm
 go_loopw [4] (fun t wr => ∃ m : Nat, m ≤ xs.length ∧ t = .int .i64 ((m : Int) - 1) ∧ Hid (wr.ownsMap Tryz.prog 9 (plainElem Tryz.prog 3) w.heap.size (xs.length - m) (plc (xs.drop m) m)) ∧ Hid (Below w.heap.size w wr)) (fun t _ => (intOf t + 1).toNat)
 case atStart => exact ⟨xs.length, Nat.le_refl _, by go_num, by
  show World.ownsMap _ _ _ _ _ _ _
  rw [List.drop_of_length_le (Nat.le_refl _), Nat.sub_self]
  exact World.ownsMap_made _ _ _ _, (belowRefl w).alloc (Nat.le_refl _) _⟩
 case round =>
  obtain ⟨m1, hm1, rfl, HO, HB⟩ := hrel
  by_cases h0 : m1 = 0
  ·have h0' : ¬ (0 : Int) ≤ (m1 : Int) - 1 := by omega
   have HO2 : Hid (wr.ownsMap Tryz.prog 9 (plainElem Tryz.prog 3) w.heap.size xs.length (plc xs 0)) := by
    have h := HO.out
    rw [h0] at h
    show World.ownsMap _ _ _ _ _ _ _
    simpa using h
   clear h0
   go_wp2
   go_ret
   exact ⟨rfl, HO2.out, HB.out⟩
  ·obtain ⟨m, rfl⟩ : ∃ m, m1 = m + 1 := ⟨m1 - 1, by omega⟩
   have hlt : m < xs.length := by omega
   have hlt' : (m : Int) < (xs.length : Int) := by omega
   have hm0 : (0 : Int) ≤ (m : Int) := by omega
   have hme : ((m + 1 : Nat) : Int) - 1 = (m : Int) := by omega
   rw [hme]
   have HME : Hid (((m + 1 : Nat) : Int) - 1 = (m : Int)) := hme
   clear hme h0
   obtain ⟨b, off, rfl, hbl, hc⟩ := (HP.out.below HB.out) (by omega)
   have r0 := (wat hc m hlt).1
   clear hc
   have hkey := keyOk ((HF.out _ (List.getElem_mem hlt)).1)
   have HK : Hid (keyOf Tryz.prog 9 (.string xs[m].1) = some (kl xs[m].1)) := hkey
   clear hkey
   go_wp2_with (first
    | (at_mapUpdate; refine wpList_mapUpdate_own _ rfl _ _ _ 101 rfl 9 3 lawK Tryz.underlying101 _ w.heap.size (xs.length - (m + 1)) _ rfl HO.out (by unfold maxLen; omega) _ _ _ rfl rfl HK.out _ [] (plainElem_int Tryz.underlying3 (WalkArith.wf_i64 (by omega))) ?_; intro w1 hown1 hgrow1)
    | go_in)
   have R1 : Hid (w1.ownsMap Tryz.prog 9 (plainElem Tryz.prog 3) w.heap.size (xs.length - m) (plc (xs.drop m) m)) := by
    show World.ownsMap _ _ _ _ _ _ _
    rw [plc_step xs m hlt, show xs.length - m = xs.length - (m + 1) + 1 by omega]
    exact hown1
   have R2 : Hid (Below w.heap.size w w1) := HB.out.grown hgrow1 HB.out.size (fun j hj => by cases hj; exact Nat.le_refl _)
   clear hown1 hgrow1 HO
   go_wp2
   go_roundw
   case rel => exact ⟨m, by omega, by go_num, R1, R2⟩
   case measure => simp [intOf]

structure Inv (D0 : DataW Unit) (ys : List Wt) (k : Nat) (D : DataW Unit) : Prop where
 tidy : Tidy D
 has : ∀ s, Maps.has D (kl s) = true ↔ Maps.has D0 (kl s) = true ∧ ∀ j (hj : j < ys.length), j < k → ys[j].1 ≠ s
 le : Maps.size D ≤ Maps.size D0
 lt : Maps.size D < Maps.size D0 ↔ ∃ j, ∃ hj : j < ys.length, j < k ∧ Maps.has D0 (kl ys[j].1) = true
theorem Inv.start {D0 : DataW Unit} {ys : List Wt} (h : Tidy D0) : Inv D0 ys 0 D0 :=
 ⟨h, fun s => ⟨fun h => ⟨h, fun j hj h0 => by omega⟩, fun h => h.1⟩, Nat.le_refl _, ⟨fun h => by omega, fun ⟨j, hj, h0, _⟩ => by omega⟩⟩
theorem Inv.step {D0 D : DataW Unit} {ys : List Wt} {k : Nat} (h : Inv D0 ys k D) (hk : k < ys.length) : Inv D0 ys (k + 1) (D.del (kl ys[k].1)) := by
 have hs := size_del (k := kl ys[k].1) h.tidy
 have hh := h.has ys[k].1
 refine ⟨h.tidy.del _, fun s => ?_, ?_, ?_⟩
 ·by_cases e : s = ys[k].1
  ·subst e
   rw [has_del_same]
   simp only [Bool.false_eq_true, false_iff, not_and]
   exact fun _ h2 => h2 k hk (by omega) rfl
  ·rw [has_del_other (fun h => e (kl_inj h)), h.has s]
   constructor
   ·rintro ⟨h1, h2⟩
    refine ⟨h1, fun j hj hjk => ?_⟩
    by_cases ej : j = k
    ·subst ej; exact fun e' => e e'.symm
    ·exact h2 j hj (by omega)
   ·rintro ⟨h1, h2⟩
    exact ⟨h1, fun j hj hjk => h2 j hj (by omega)⟩
 ·have := h.le; split at hs <;> omega
 ·by_cases hd : Maps.has D (kl ys[k].1) = true
  ·rw [if_pos hd] at hs
   have := h.le
   constructor
   ·intro _
    exact ⟨k, hk, by omega, (hh.1 hd).1⟩
   ·intro _; omega
  ·rw [if_neg hd] at hs
   rw [show Maps.size (D.del (kl ys[k].1)) = Maps.size D by omega, h.lt]
   constructor
   ·rintro ⟨j, hj, hjk, hx⟩
    exact ⟨j, hj, by omega, hx⟩
   ·rintro ⟨j, hj, hjk, hx⟩
    by_cases ej : j = k
    ·subst ej
     apply Classical.byContradiction
     intro hno
     exact hd (hh.2 ⟨hx, fun i hi hij e => hno ⟨i, hi, hij, by rw [e]; exact hx⟩⟩)
    ·exact ⟨j, hj, by omega, hx⟩
theorem Inv.end' {xs ys : List Wt} {k : Nat} {D : DataW Unit} (h : Inv (plc xs 0) ys k D) (hk : ys.length ≤ k) : decide (Maps.size D < Maps.size (plc xs 0)) = meetB xs ys := by
 have e : (Maps.size D < Maps.size (plc xs 0)) ↔ meetB xs ys = true := by
  rw [h.lt]
  unfold meetB
  rw [List.any_eq_true]
  constructor
  ·rintro ⟨j, hj, _, hx⟩
   obtain ⟨x, hx, e⟩ := (plc_has xs 0 _).1 hx
   exact ⟨x, hx, by rw [List.any_eq_true]; exact ⟨ys[j], List.getElem_mem hj, by simpa using e⟩⟩
  ·rintro ⟨x, hx, hy⟩
   rw [List.any_eq_true] at hy
   obtain ⟨y, hy, e⟩ := hy
   obtain ⟨j, hj, rfl⟩ := List.getElem_of_mem hy
   exact ⟨j, hj, by omega, (plc_has xs 0 _).2 ⟨x, hx, by simpa using e⟩⟩
 cases hm : meetB xs ys
 ·rw [hm] at e; simpa using e
 ·rw [hm] at e; simpa using e

set_option maxRecDepth 100000 in
set_option maxHeartbeats 2000000 in
theorem imeets (xs ys : List Wt) (a1 a2 : Option Addr) (c1 c2 : Nat) (hn : xs.length ≤ 1048576) (hm : ys.length ≤ 1048576) (hf : WFit xs) (hg : WFit ys) (w : World) (hp : GRow encW w a1 xs) (hq : GRow encW w a2 ys) :
  Calls Tryz.prog 45 #[.slice a1 xs.length c1, .slice a2 ys.length c2] w fun e w' => e = .returned (.bool (meetB xs ys)) ∧ Below w.heap.size w w' := by
 have HQ : Hid (GRow encW w a2 ys) := hq
 have HF : Hid (WFit ys) := hg
 have HP : Hid (GRow encW w a1 xs) := hp
 have HG : Hid (WFit xs) := hf
 clear hp hf hq hg
 go_enter Tryz.func45, Tryz.ntmps45
 go_wp2_with fail
 refine (places xs a1 c1 hn HG.out _ HP.out).mono ?_
 rintro e w1 ⟨rfl, ho1, hb1⟩
 have HO1 : Hid (w1.ownsMap Tryz.prog 9 (plainElem Tryz.prog 3) w.heap.size xs.length (plc xs 0)) := ho1
 have HB1 : Hid (Below w.heap.size w w1) := hb1
 clear ho1 hb1
 go_wp2_with (first
  | (at_len; refine wpList_len_own _ rfl _ 101 rfl 9 3 Tryz.underlying101 _ w.heap.size xs.length _ rfl HO1.out ?_)
  | go_in)
 go_loopw [15] (fun t wr => ∃ (k : Nat) (D : DataW Unit), k ≤ ys.length ∧ t = .int .i64 k ∧ Hid (wr.ownsMap Tryz.prog 9 (plainElem Tryz.prog 3) w.heap.size xs.length D) ∧ Hid (Inv (plc xs 0) ys k D) ∧ Hid (Below w.heap.size w wr)) (fun t _ => ys.length - (intOf t).toNat)
 case atStart => exact ⟨0, _, Nat.zero_le _, rfl, HO1, Inv.start (plc_tidy _ _), HB1⟩
 case round =>
  clear HO1 HB1
  obtain ⟨k, D, hk, rfl, HO, HI, HB⟩ := hrel
  by_cases hlt : k < ys.length
  ·have hlt' : (k : Int) < (ys.length : Int) := by omega
   have hk0 : (0 : Int) ≤ (k : Int) := by omega
   obtain ⟨b, off, rfl, hbl, hc⟩ := (HQ.out.below HB.out) (by omega)
   have r0 := (wat hc k hlt).1
   have r1 := (wat hc k hlt).2.1
   have r2 := (wat hc k hlt).2.2
   clear hc
   have HK : Hid (keyOf Tryz.prog 9 (.string ys[k].1) = some (kl ys[k].1)) := keyOk ((HF.out _ (List.getElem_mem hlt)).1)
   have HI2 : Hid (Inv (plc xs 0) ys (k + 1) (D.del (kl ys[k].1))) := HI.out.step hlt
   have HO2 : Hid ((wr.alloc (.cells #[.string ys[k].1, .string ys[k].2.1, .bool ys[k].2.2] 55)).ownsMap Tryz.prog 9 (plainElem Tryz.prog 3) w.heap.size xs.length D) := HO.out.alloc _
   have HB2 : Hid (Below w.heap.size w (wr.alloc (.cells #[.string ys[k].1, .string ys[k].2.1, .bool ys[k].2.2] 55))) := HB.out.alloc HB.out.size _
   go_wp2_with (first
    | (at_delete; refine wpList_delete_own _ rfl _ _ 101 9 rfl 3 lawK Tryz.underlying101 _ w.heap.size xs.length D rfl HO2.out _ _ rfl HK.out ?_; intro w3 hown3 hturn3)
    | go_in)
   have HO3 : Hid (w3.ownsMap Tryz.prog 9 (plainElem Tryz.prog 3) w.heap.size xs.length (D.del (kl ys[k].1))) := hown3
   have HB3 : Hid (Below w.heap.size w w3) := HB2.out.grown hturn3.grown HB2.out.size (fun j hj => by cases hj; exact Nat.le_refl _)
   clear hown3 hturn3
   go_wp2
   go_roundw
   case rel => exact ⟨k + 1, _, by omega, by go_num, HO3, HI2, HB3⟩
   case measure => simp [intOf]; omega
  ·have hlt' : ¬ (k : Int) < (ys.length : Int) := by omega
   have HE : Hid (decide (Maps.size D < Maps.size (plc xs 0)) = meetB xs ys) := HI.out.end' (by omega)
   go_wp2_with (first
    | (at_len; refine wpList_len_own _ rfl _ 101 rfl 9 3 Tryz.underlying101 _ w.heap.size xs.length D rfl HO.out ?_)
    | go_in)
   go_ret
   exact ⟨ret_bool (by rw [← HE.out, decide_eq_decide]), HB.out⟩

def NoM (xs ys : List Wt) (k : Nat) : Prop := ∀ j (hj : j < xs.length), j < k → ∀ i (hi : i < ys.length), xs[j].1 ≠ ys[i].1
def NoN (s : ByteArray) (ys : List Wt) (k : Nat) : Prop := ∀ i (hi : i < ys.length), i < k → s ≠ ys[i].1
theorem meet_yes {xs ys : List Wt} (k m : Nat) (hk : k < xs.length) (hm : m < ys.length) (h : xs[k].1 = ys[m].1) : meetB xs ys = true := by
 unfold meetB
 rw [List.any_eq_true]
 exact ⟨xs[k], List.getElem_mem hk, by rw [List.any_eq_true]; exact ⟨ys[m], List.getElem_mem hm, by simpa using h⟩⟩
theorem meet_no {xs ys : List Wt} {k : Nat} (h : NoM xs ys k) (hk : xs.length ≤ k) : meetB xs ys = false := by
 unfold meetB
 rw [List.any_eq_false]
 intro r hr
 obtain ⟨j, hj, rfl⟩ := List.getElem_of_mem hr
 rw [Bool.not_eq_true, List.any_eq_false]
 intro x hx
 obtain ⟨i, hi, rfl⟩ := List.getElem_of_mem hx
 simpa using h j hj (by omega) i hi
theorem nom_more {xs ys : List Wt} {k m : Nat} (h : NoM xs ys k) (hk : k < xs.length) (h2 : NoN xs[k].1 ys m) (hm : ys.length ≤ m) : NoM xs ys (k + 1) := fun j hj hjk i hi => by
 by_cases e : j = k
 ·subst e; exact h2 i hi (by omega)
 ·exact h j hj (by omega) i hi
theorem non_more {s : ByteArray} {ys : List Wt} {m : Nat} (h : NoN s ys m) (hm : m < ys.length) (h2 : s ≠ ys[m].1) : NoN s ys (m + 1) := fun i hi him => by
 by_cases e : i = m
 ·subst e; exact h2
 ·exact h i hi (by omega)

set_option maxRecDepth 100000 in
set_option maxHeartbeats 4000000 in
theorem smeets (xs ys : List Wt) (a1 a2 : Option Addr) (c1 c2 : Nat) (hn : xs.length ≤ 100000000) (hm : ys.length ≤ 100000000) (w : World) (hr : GRow encW w a1 xs) (hw : GRow encW w a2 ys) :
  Calls Tryz.prog 47 #[.slice a1 xs.length c1, .slice a2 ys.length c2] w fun e w' => e = .returned (.bool (meetB xs ys)) ∧ Below w.heap.size w w' := by
 have HR : Hid (GRow encW w a1 xs) := hr
 have HW : Hid (GRow encW w a2 ys) := hw
 clear hr hw
 go_enter Tryz.func47, Tryz.ntmps47
 go_wp2
 go_loopw [5] (fun t wr => ∃ k : Nat, k ≤ xs.length ∧ t = .int .i64 k ∧ Hid (NoM xs ys k) ∧ Hid (Below w.heap.size w wr)) (fun t _ => xs.length - (intOf t).toNat)
 case atStart => exact ⟨0, Nat.zero_le _, rfl, fun j hj h => by omega, belowRefl w⟩
 case round =>
  obtain ⟨k, hk, rfl, HG, HB⟩ := hrel
  by_cases hlt : k < xs.length
  ·have hlt' : (k : Int) < (xs.length : Int) := by omega
   have hk0 : (0 : Int) ≤ (k : Int) := by omega
   go_wp2
   go_loopw [6] (fun t wr2 => ∃ m : Nat, m ≤ ys.length ∧ t = .int .i64 m ∧ Hid (NoN xs[k].1 ys m) ∧ Hid (Below w.heap.size w wr2)) (fun t _ => ys.length - (intOf t).toNat)
   case atStart => exact ⟨0, Nat.zero_le _, rfl, fun j hj h => by omega, HB⟩
   case round =>
    obtain ⟨m, hmk, rfl, HI, HB2⟩ := hrel
    by_cases hlm : m < ys.length
    ·have hlm' : (m : Int) < (ys.length : Int) := by omega
     have hm0 : (0 : Int) ≤ (m : Int) := by omega
     obtain ⟨b, off, rfl, hbl, hc⟩ := (HR.out.below HB2.out) (by omega)
     have r0 := (wat hc k hlt).1
     clear hc
     obtain ⟨b2, off2, rfl, hbl2, hc2⟩ := (HW.out.below HB2.out) (by omega)
     have q0 := (wat hc2 m hlm).1
     clear hc2
     by_cases hin : xs[k].1 = ys[m].1
     ·have HT : Hid (meetB xs ys = true) := meet_yes k m hlt hlm hin
      rw [hin] at r0
      clear hin
      go_wp2
      go_quiet (fail)
      go_wp2
      go_ret
      exact ⟨ret_bool HT.out.symm, below_drewN HB2.out _⟩
     ·have hin' : (xs[k].1.toList == ys[m].1.toList) = false := by rw [beq_eq_false_iff_ne]; exact fun e => hin (toList_inj e)
      have HI2 : Hid (NoN xs[k].1 ys (m + 1)) := non_more HI.out hlm hin
      clear hin
      go_wp2
      go_quiet (fail)
      go_wp2
      go_roundw
      case rel => exact ⟨m + 1, by omega, by go_num, HI2, below_drewN HB2.out _⟩
      case measure => simp [intOf]; omega
    ·have hlm' : ¬ (m : Int) < (ys.length : Int) := by omega
     have HG2 : Hid (NoM xs ys (k + 1)) := nom_more HG.out hlt HI.out (by omega)
     go_wp2
     go_roundw
     case rel => exact ⟨k + 1, by omega, by go_num, HG2, HB2⟩
     case measure => simp [intOf]; omega
  ·have hlt' : ¬ (k : Int) < (xs.length : Int) := by omega
   have HN : Hid (meetB xs ys = false) := meet_no HG.out (by omega)
   go_wp2
   go_ret
   exact ⟨ret_bool HN.out.symm, HB.out⟩
end Go.Proofs.YtbajpnbodhhmjaaGreat

namespace Go.Proofs.YtbajpnbodhhmjaaGreat
open Go.RowKit
open KM
attribute [local go_sem ↓] Go.wp_at_zero Go.wp_at_succ

def seesB (a b : Tx) : Bool := decide (b.st = 3) && decide (b.cs ≤ a.snap)
set_option maxRecDepth 100000 in
set_option maxHeartbeats 2000000 in
theorem isees (a b : Tx) (ra wa : Option Addr) (rc wc : Nat) (ra2 wa2 : Option Addr) (rc2 wc2 : Nat) (w : World) :
  Calls Tryz.prog 43 #[.agg #[.int .i64 a.id, .int .i64 a.st, .int .i64 a.snap, .int .i64 a.cs, .slice ra a.rs.length rc, .slice wa a.ws.length wc, .bool a.out, .string a.nm], .agg #[.int .i64 b.id, .int .i64 b.st, .int .i64 b.snap, .int .i64 b.cs, .slice ra2 b.rs.length rc2, .slice wa2 b.ws.length wc2, .bool b.out, .string b.nm]] w fun e w' => e = .returned (.bool (seesB a b)) ∧ Below w.heap.size w w' := by
 by_cases h1 : b.st = 3
 ·by_cases h2 : b.cs ≤ a.snap
  ·have HR : Hid (seesB a b = true) := by show _ = _; simp [seesB, h1, h2]
   go_enter Tryz.func43, Tryz.ntmps43
   go_wp2
   go_ret
   exact ⟨ret_bool HR.out.symm, ((belowRefl w).alloc (Nat.le_refl _) _).alloc (by simp) _⟩
  ·have HR : Hid (seesB a b = false) := by show _ = _; simp [seesB, h1, h2]
   go_enter Tryz.func43, Tryz.ntmps43
   go_wp2
   go_ret
   exact ⟨ret_bool HR.out.symm, ((belowRefl w).alloc (Nat.le_refl _) _).alloc (by simp) _⟩
 ·have HR : Hid (seesB a b = false) := by show _ = _; simp [seesB, h1]
  go_enter Tryz.func43, Tryz.ntmps43
  go_wp2
  go_ret
  exact ⟨ret_bool HR.out.symm, ((belowRefl w).alloc (Nat.le_refl _) _).alloc (by simp) _⟩

end Go.Proofs.YtbajpnbodhhmjaaGreat

namespace Go.Proofs.YtbajpnbodhhmjaaGreat
open Go.RowKit
open KM
attribute [local go_sem ↓] Go.wp_at_zero Go.wp_at_succ

theorem undrew {w w' : World} (h : Below w.drew.heap.size w.drew w') : Below w.heap.size w w' := (belowRefl w).drew.trans h

end Go.Proofs.YtbajpnbodhhmjaaGreat

namespace Go.Proofs.YtbajpnbodhhmjaaGreat
open Go.RowKit
open KM
attribute [local go_sem ↓] Go.wp_at_zero Go.wp_at_succ

end Go.Proofs.YtbajpnbodhhmjaaGreat

namespace Go.Proofs.YtbajpnbodhhmjaaGreat
open Go.RowKit
open KM

theorem Tryz.info69 : (Tryz.prog.info? 69).map (fun i => (i.zero, i.size, i.bytes)) = some (some (.agg #[.string ByteArray.empty, .string ByteArray.empty, .bool false, .int .i64 0]), 4, 48) := by kernel_rfl
theorem Tryz.info75 : (Tryz.prog.info? 75).map (fun i => (i.zero, i.size, i.bytes)) = some (some (.agg #[.string ByteArray.empty, .string ByteArray.empty]), 2, 32) := by kernel_rfl
end Go.Proofs.YtbajpnbodhhmjaaGreat

namespace Go.Proofs.YtbajpnbodhhmjaaGreat
open Go.RowKit
open KM
attribute [local go_sem ↓] Go.wp_at_zero Go.wp_at_succ

theorem Tryz.info62 : (Tryz.prog.info? 62).map (fun i => (i.zero, i.size, i.bytes)) = some (some (.agg #[.string ByteArray.empty, .string ByteArray.empty]), 2, 32) := by kernel_rfl
end Go.Proofs.YtbajpnbodhhmjaaGreat

namespace Go.Proofs
open Go.Shelf
open Go.RowKit in
def Tryz.lays106_ren : Go.Shelf.Ren := ⟨fun | 106 => 91 | 213 => 95 | 265 => 99 | n => n, fun | 9 => 9 | 3 => 3 | n => n, fun | n => n⟩
theorem Tryz.lays106 : Go.Proofs.Lays.n106 Tryz.prog Tryz.lays106_ren := {
 mixed := by kernel_rfl
 f106 := Tryz.func91.trans (congrArg some (by kernel_rfl))
 f213 := Tryz.func95.trans (congrArg some (by kernel_rfl))
 f265 := Tryz.func99.trans (congrArg some (by kernel_rfl))
 t3 := Tryz.underlying3
 a3 := Tryz.isAgg3
 z3 := Tryz.sizeOf3
 v3 := Tryz.zeroValue3
 t9 := Tryz.underlying9
 a9 := Tryz.isAgg9
 z9 := Tryz.sizeOf9
 v9 := Tryz.zeroValue9 }
open Go.RowKit in
theorem Tryz.strings_Compare (a b : ByteArray) (w : World) :
  Calls Tryz.prog 91 #[.string a, .string b] w fun e w' => e = .returned (.int .i64 (Lib.compareBytes a.data.toList b.data.toList)) ∧ w' = w := Any.strings_Compare Tryz.lays106 a b w
open Go.RowKit in
def Tryz.lays122_ren : Go.Shelf.Ren := ⟨fun | 122 => 92 | 215 => 96 | n => n, fun | 3 => 3 | 4 => 4 | n => n, fun | n => n⟩
theorem Tryz.lays122 : Go.Proofs.Lays.n122 Tryz.prog Tryz.lays122_ren := {
 mixed := by kernel_rfl
 f122 := Tryz.func92.trans (congrArg some (by kernel_rfl))
 f215 := Tryz.func96.trans (congrArg some (by kernel_rfl))
 t3 := Tryz.underlying3
 a3 := Tryz.isAgg3
 z3 := Tryz.sizeOf3
 v3 := Tryz.zeroValue3
 t4 := Tryz.underlying4
 a4 := Tryz.isAgg4
 z4 := Tryz.sizeOf4
 v4 := Tryz.zeroValue4 }
open Go.RowKit in
theorem Tryz.cmp_Compare_int (x y : Int) (w : World) :
  Calls Tryz.prog 92 #[.int .i64 x, .int .i64 y] w fun e w' => e = .returned (.int .i64 (Lib.compareInt x y)) ∧ w' = w := Any.cmp_Compare_int Tryz.lays122 x y w
def Tryz.laysM316_ren : Go.Shelf.Ren := ⟨fun | 316 => 59 | n => n, fun | 9 => 9 | 3 => 3 | 4 => 4 | 37 => 22 | 0 => 0 | 127 => 109 | 5 => 5 | n => n, fun | n => n⟩
theorem Tryz.laysM316 : Go.Proofs.LaysM.n316 Tryz.prog Tryz.laysM316_ren := {
 mixed := by kernel_rfl
 f316 := Tryz.func59.trans (congrArg some (by kernel_rfl))
 t0 := Tryz.underlying0
 a0 := Tryz.isAgg0
 z0 := Tryz.sizeOf0
 v0 := Tryz.zeroValue0
 t3 := Tryz.underlying3
 a3 := Tryz.isAgg3
 z3 := Tryz.sizeOf3
 v3 := Tryz.zeroValue3
 t4 := Tryz.underlying4
 a4 := Tryz.isAgg4
 z4 := Tryz.sizeOf4
 v4 := Tryz.zeroValue4
 t9 := Tryz.underlying9
 a9 := Tryz.isAgg9
 z9 := Tryz.sizeOf9
 v9 := Tryz.zeroValue9
 t37 := Tryz.underlying22
 a37 := Tryz.isAgg22
 z37 := Tryz.sizeOf22
 v37 := Tryz.zeroValue22
 t127 := Tryz.underlying109
 a127 := Tryz.isAgg109
 z127 := Tryz.sizeOf109
 v127 := Tryz.zeroValue109
 t5 := Tryz.underlying5
 a5 := Tryz.isAgg5
 z5 := Tryz.sizeOf5
 v5 := Tryz.zeroValue5
 i0 := by kernel_rfl
 i3 := by kernel_rfl
 i4 := by kernel_rfl
 i5 := by kernel_rfl
 i9 := by kernel_rfl
 i37 := by kernel_rfl
 i127 := by kernel_rfl }
open Go.RowKit in
theorem Tryz.stringslite_Clone (s : ByteArray) (w : World) (hlim : s.size ≤ 281474976710656) :
  Calls Tryz.prog 59 #[.string s] w fun e w' => e = .returned (.string s) ∧ Below w.heap.size w w' := Any.stringslite_Clone Tryz.laysM316 s w hlim
end Go.Proofs

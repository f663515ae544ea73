/- What keys, scan and impl.ScanAt do. -/
import Derived.Test.YtjieojfcmigcdaaGreatDoorPw01
import Derived.Test.YtjieojfcmigcdaaGreatDoorPw09
import Derived.Test.YtjieojfcmigcdaaGreatDoorPw10
import Derived.Test.YtjieojfcmigcdaaGreatDoorPw05
import Derived.Deep.AppendLies
import Derived.Test.YtjieojfcmigcdaaGreatDoorPw02
import Derived.Test.YtjieojfcmigcdaaGreatDoorPw03
import Derived.Sort.OwnSorted
import Derived.Lib.RowBridge
namespace Go.Proofs.YtjieojfcmigcdaaGreatDoor
open Go.RowKit
open KM
open VM
attribute [local go_sem ↓] Go.wp_at_zero Go.wp_at_succ

set_option maxRecDepth 100000 in
set_option maxHeartbeats 2000000 in
theorem keys87 (base c : Nat) (r : Nd) (ns : List Nd) (hn : ns.length ≤ 100000000) (w : World) (hc : Chn w base c (r :: ns)) :
  Calls Tryz.prog 83 #[.pointer (some ⟨c, 0, none⟩)] w fun e w' => ∃ ao cap, e = .returned (.slice ao (keysB (ns.map (·.2.1))).length cap) ∧ GRow encS w' ao (keysB (ns.map (·.2.1))) ∧ Below w.heap.size w w' := by
 have HC : Hid (Chn w base c (r :: ns)) := hc
 have b0 := hc.bx.c0
 have r4 := (Chn.at' (A := []) hc).c4
 simp only [ptq_cons] at b0
 clear hc
 obtain ⟨u0, hu0⟩ : ∃ u, u = ptq ns none := ⟨_, rfl⟩
 rw [← hu0] at r4
 have HU : Hid (u0 = ptq ns none) := hu0
 clear hu0
 go_enter Tryz.func83, Tryz.ntmps83
 go_wp2
 clear b0 r4
 go_loopg [3, 4] ns.length (fun g v t wr => ∃ A B : List Nd, Hid (ns = A ++ B) ∧ Hid (B.length = g) ∧ t = .pointer (ptq B none) ∧ Hid (GOwn encS 9 wr w.heap.size v (A.map (·.2.1))) ∧ Hid (Below w.heap.size w wr))
 case atStart => exact ⟨[], ns, rfl, rfl, by rw [HU.out], GOwn.nil _ _, belowRefl w⟩
 case round =>
  obtain ⟨A, B, HE, HG, h8, HO, HB⟩ := hrel
  cases B with
  | nil =>
   rw [ptq_nil] at h8
   have ho := HO.out
   rw [show A = ns by rw [HE.out, List.append_nil]] at ho
   have HO1 := hide ho
   clear ho HO
   have hl : (ns.map (·.2.1)).length ≤ 100000000 := by rw [List.length_map]; exact hn
   subst h8
   have HSz : Hid (w.heap.size ≤ wr.heap.size) := HB.out.size
   go_wp2_with fail
   refine (sort95 _ w.heap.size _ _ hl HO1.out).mono ?_
   rintro e w1 ⟨rfl, ho1, hb1⟩
   have HO2 := hide ho1
   have HB2 : Hid (Below w.heap.size w w1) := HB.out.trans hb1
   clear ho1 hb1
   go_wp2_with fail
   refine (comp96 _ w.heap.size _ _ (by rw [sortB_len]; exact hl) HO2.out).mono ?_
   rintro e w2 ⟨ao, cap, rfl, hr, hb2⟩
   have HR : Hid (GRow encS w2 ao (keysB (ns.map (·.2.1)))) := hr
   have HB3 : Hid (Below w.heap.size w w2) := HB2.out.trans hb2
   have HL : Hid ((compB (sortB (ns.map (·.2.1)))).length = (keysB (ns.map (·.2.1))).length) := rfl
   clear hr hb2
   generalize (compB (sortB (ns.map (·.2.1)))).length = L at *
   go_wp2
   go_ret
   exact ⟨ao, cap, by rw [← HL.out]; rfl, HR.out, HB3.out⟩
  | cons n B =>
   rw [ptq_cons] at h8
   have hx := seg_at (HC.out.below HB.out) HE.out
   have n0 := hx.c0
   have n4 := hx.c4
   clear hx
   have HX : Hid (Bx wr n.1 (ndc n.2 (ptq B none))) := seg_at (HC.out.below HB.out) HE.out
   have HLt : Hid (n.1 < w.heap.size) := HC.out.lt n.1 (by rw [HE.out]; simp)
   obtain ⟨q, hq⟩ : ∃ q, q = ptq B none := ⟨_, rfl⟩
   rw [← hq] at n4 HX
   have HQ : Hid (Value.pointer q = .pointer (ptq B none)) := by show _ = _; rw [hq]
   clear hq
   have HE2 : Hid (ns = (A ++ [n]) ++ B) := by show _ = _; rw [HE.out]; simp
   have HG2 : Hid (B.length < gk) := by show _ < _; rw [← HG.out]; simp
   have hl : (A.map (·.2.1)).length ≤ 100000000 := by
    rw [List.length_map]
    have h := congrArg List.length HE.out
    rw [List.length_append] at h
    omega
   subst h8
   go_wp2_with (at_builtin; refine wpAppS rfl _ _ rfl n.2.1 rfl HO.out rfl hl HB.out.size ?_)
   intro v' w' ho' hb'
   have HO2 : Hid (GOwn encS 9 w' w.heap.size v' ((A ++ [n]).map (·.2.1))) := by
    show GOwn _ _ _ _ _ _
    rw [List.map_append]; exact ho'
   have HB2 : Hid (Below w.heap.size w w') := HB.out.trans hb'
   have n4' := (HX.out.belowB hb' HLt.out).c4
   clear ho' hb' n0 n4 HO HX
   go_wp2
   go_roundg B.length
   case measure => exact HG2.out
   case rel => exact ⟨A ++ [n], B, HE2, rfl, HQ.out, HO2, HB2⟩

theorem scan_no {vs : List Vr} {r : Rg} {s : Int} {l : List ByteArray} {i : Nat} (h : i < l.length) (hf : scanF vs r s l[i] = none) : (l.take (i + 1)).filterMap (scanF vs r s) = (l.take i).filterMap (scanF vs r s) := by
 rw [List.take_succ_eq_append_getElem h, List.filterMap_append]
 simp [hf]
theorem scan_yes {vs : List Vr} {r : Rg} {s : Int} {l : List ByteArray} {i : Nat} {p : Rg} (h : i < l.length) (hf : scanF vs r s l[i] = some p) : (l.take (i + 1)).filterMap (scanF vs r s) = (l.take i).filterMap (scanF vs r s) ++ [p] := by
 rw [List.take_succ_eq_append_getElem h, List.filterMap_append]
 simp [hf]
theorem fmap_len {α β : Type} (f : α → Option β) (l : List α) : (l.filterMap f).length ≤ l.length := List.length_filterMap_le f l
theorem keys_len (ks : List ByteArray) : (keysB ks).length ≤ ks.length := by
 have e : (keysB ks).length = (Lib.compact ((sortB ks).map (·.data.toList))).length := by simp [keysB, compB]
 rw [e]
 refine Nat.le_trans (Lib.compact_length_le _) ?_
 rw [List.length_map, sortB_len]; exact Nat.le_refl _

set_option maxRecDepth 100000 in
set_option maxHeartbeats 4000000 in
theorem scan56 (base c : Nat) (r : Nd) (ns : List Nd) (vs : List Vr) (rg : Rg) (s : Int) (hn : ns.length ≤ 100000000) (hv : ns.map (·.2) = vs) (hf : VFit vs) (w : World) (hc : Chn w base c (r :: ns)) :
  Calls Tryz.prog 69 #[.pointer (some ⟨c, 0, none⟩), .agg #[.string rg.1, .string rg.2], .int .i64 s] w fun e w' => ∃ a1 c1, e = .returned (.slice a1 (scanB vs rg s).length c1) ∧ GOwn encR 97 w' w.heap.size (.slice a1 (scanB vs rg s).length c1) (scanB vs rg s) ∧ Below w.heap.size w w' := by
 have HV : Hid (ns.map (·.2) = vs) := hv
 have HF : Hid (VFit vs) := hf
 have HC : Hid (Chn w base c (r :: ns)) := hc
 have HK0 : Hid (ns.map (·.2.1) = vs.map (·.1)) := by show _ = _; rw [← hv, List.map_map]; rfl
 clear hv hf hc
 have X0 : Hid (Bx (w.alloc (.cells #[.string rg.1, .string rg.2] 67)) w.heap.size [.string rg.1, .string rg.2]) := Bx.new w [.string rg.1, .string rg.2] 67
 have HB0 : Hid (Below w.heap.size w (w.alloc (.cells #[.string rg.1, .string rg.2] 67))) := (belowRefl w).alloc (Nat.le_refl _) _
 go_enter Tryz.func69, Tryz.ntmps69
 go_wp2_with fail
 refine (keys87 base c r ns hn _ (HC.out.below HB0.out)).mono ?_
 rintro e w1 ⟨ao, cap, rfl, hr, hb1⟩
 rw [HK0.out] at hr ⊢
 have HL : Hid (scanB vs rg s = (keysB (vs.map (·.1))).filterMap (scanF vs rg s)) := rfl
 have HM : Hid (∀ k ∈ keysB (vs.map (·.1)), k.size ≤ 281474976710656) := fun k hk => by
  have := ((keys_spec _).1 k).1 hk
  obtain ⟨v, hv, rfl⟩ := List.mem_map.1 this
  have := (HF.out v hv).1
  omega
 have hkl : (keysB (vs.map (·.1))).length ≤ 100000000 := by
  refine Nat.le_trans (keys_len _) ?_
  rw [List.length_map, ← HV.out, List.length_map]; exact hn
 obtain ⟨ks, hks⟩ : ∃ ks, ks = keysB (vs.map (·.1)) := ⟨_, rfl⟩
 rw [← hks] at hr hkl HL HM ⊢
 clear hks
 have HR : Hid (GRow encS w1 ao ks) := hr
 have X1 : Hid (Bx w1 w.heap.size [.string rg.1, .string rg.2]) := X0.out.below hb1
 have HB1 : Hid (Below w.heap.size w w1) := HB0.out.trans (hb1.mono HB0.out.size)
 have HS1 : Hid (w.heap.size + 1 ≤ w1.heap.size) := X1.out.lt
 clear hr hb1 X0 HB0
 go_wp2
 go_loopw [7, 14] (fun v t wr => ∃ i : Nat, i ≤ ks.length ∧ t = .int .i64 i ∧ Hid (GOwn encR 97 wr w1.heap.size v ((ks.take i).filterMap (scanF vs rg s))) ∧ Hid (Below w1.heap.size w1 wr)) (fun _ t _ => ks.length - (intOf t).toNat)
 case atStart => exact ⟨0, Nat.zero_le _, rfl, GOwn.nil _ _, belowRefl w1⟩
 case round =>
  obtain ⟨i, hi, rfl, HO, HB⟩ := hrel
  by_cases hlt : i < ks.length
  ·have hlt' : (i : Int) < (ks.length : Int) := by omega
   have hi0 : (0 : Int) ≤ (i : Int) := by omega
   obtain ⟨b, off, rfl, hbl, hc⟩ := (HR.out.below HB.out) (by omega)
   have k0 := sat hc i hlt
   clear hc
   have X : Hid (Bx wr w.heap.size [.string rg.1, .string rg.2]) := X1.out.below HB.out
   have x0 := X.out.c0
   have x1 := X.out.c1
   have HCr : Hid (Chn wr base c (r :: ns)) := HC.out.below (HB1.out.trans (HB.out.mono HB1.out.size))
   have HZ : Hid (ks[i].size ≤ 281474976710656) := HM.out _ (List.getElem_mem hlt)
   have hll : ((ks.take i).filterMap (scanF vs rg s)).length ≤ 100000000 := Nat.le_trans (fmap_len _ _) (by rw [List.length_take]; omega)
   cases hin : inB rg ks[i]
   ·have C1 : Hid (∀ w, Calls Tryz.prog 84 #[.agg #[.string rg.1, .string rg.2], .string ks[i]] w fun e w' => e = .returned (.bool false) ∧ Below w.heap.size w w') := fun w => hin ▸ iin rg.1 rg.2 ks[i] w
    have ho2 := HO.out
    rw [← scan_no hlt (show scanF vs rg s ks[i] = none by unfold scanF; rw [hin]; rfl)] at ho2
    have HO2 := hide ho2
    clear ho2 hin
    go_wp2_with fail
    refine (C1.out _).mono ?_
    rintro e w2 ⟨rfl, hb2⟩
    have HO3 := hide (HO2.out.below hb2)
    have HB3 : Hid (Below w1.heap.size w1 w2) := HB.out.trans (hb2.mono HB.out.size)
    clear hb2
    go_wp2
    go_roundw
    case rel => exact ⟨i + 1, by omega, by go_num, HO3, HB3⟩
    case measure => simp [intOf]; omega
   ·have C1 : Hid (∀ w, Calls Tryz.prog 84 #[.agg #[.string rg.1, .string rg.2], .string ks[i]] w fun e w' => e = .returned (.bool true) ∧ Below w.heap.size w w') := fun w => hin ▸ iin rg.1 rg.2 ks[i] w
    have HIn : Hid (inB rg ks[i] = true) := hin
    clear hin
    go_wp2_with fail
    refine (C1.out _).mono ?_
    rintro e w2 ⟨rfl, hb2⟩
    have HC2 : Hid (Chn w2 base c (r :: ns)) := HCr.out.below hb2
    have HO2 := hide (HO.out.below hb2)
    have HB2 : Hid (Below w1.heap.size w1 w2) := HB.out.trans (hb2.mono HB.out.size)
    clear hb2 k0 x0 x1
    go_wp2_with fail
    refine (last48 ks[i] s base c r ns _ HC2.out).mono ?_
    rintro e w3 ⟨rfl, hb3⟩
    have HC3 : Hid (Chn w3 base c (r :: ns)) := HC2.out.below hb3
    have HO3 := hide (HO2.out.below hb3)
    have HB3 : Hid (Below w1.heap.size w1 w3) := HB2.out.trans (hb3.mono HB2.out.size)
    clear hb3 HC2 HO2 HB2
    cases hl : lst ks[i] s ns with
    | none =>
     rw [ptO_none]
     have ho2 := HO3.out
     rw [← scan_no hlt (show scanF vs rg s ks[i] = none by unfold scanF; rw [HIn.out, seen_none HV.out hl]; rfl)] at ho2
     have HO4 := hide ho2
     clear ho2 hl
     go_wp2
     go_roundw
     case rel => exact ⟨i + 1, by omega, by go_num, HO4, HB3⟩
     case measure => simp [intOf]; omega
    | some m =>
     rw [ptO_some]
     have hm := (lst_mem hl).1
     obtain ⟨q, hx⟩ := HC3.out.mem (List.mem_cons_of_mem r hm)
     have XM : Hid (Bx w3 m.1 (ndc m.2 q)) := hx
     have HLm : Hid (m.1 < w1.heap.size) := Nat.lt_of_lt_of_le (HC.out.lt m.1 (List.mem_cons_of_mem _ (List.mem_cons_of_mem _ (List.mem_map.2 ⟨m, hm, rfl⟩)))) (by have := HS1.out; omega)
     have m1 := hx.c1
     have m2 := hx.c2
     clear hx
     have HZ2 : Hid (m.2.2.1.size ≤ 281474976710656) := by
      have h := (HF.out m.2 (by rw [← HV.out]; exact List.mem_map.2 ⟨m, hm, rfl⟩)).2
      show _ ≤ _
      omega
     cases hg : m.2.2.2.1
     ·have ho2 : scanF vs rg s ks[i] = some (ks[i], m.2.2.1) := by unfold scanF; rw [HIn.out, seen_some HV.out hl hg]; rfl
      have HP : Hid ((ks.take (i + 1)).filterMap (scanF vs rg s) = (ks.take i).filterMap (scanF vs rg s) ++ [(ks[i], m.2.2.1)]) := scan_yes hlt ho2
      rw [hg] at m2
      clear ho2 hl hg hm
      have D1 : Hid (∀ w, Calls Tryz.prog 86 #[.string ks[i]] w fun e w' => e = .returned (.string ks[i]) ∧ Below w.heap.size w w') := fun w => clone49 _ HZ.out w
      have D2 : Hid (∀ w, Calls Tryz.prog 86 #[.string m.2.2.1] w fun e w' => e = .returned (.string m.2.2.1) ∧ Below w.heap.size w w') := fun w => clone49 _ HZ2.out w
      go_wp2
      refine wp_region_held_drew (S := fun w' => w'.cell? ⟨m.1, 1, none⟩ = some (.string m.2.2.1)) (by kernel_rfl) m1 (fun hHeld => ?_)
      (refine ti 0 ?_; simp only [Act.put, tA, tB, tD, tE, tF])
      (refine ti 1 ?_; simp only [Act.put, tA, tB, tC, tD, tE, tF])
      (refine ti 3 ?_; simp only [Act.put, tA, tB, tC, tD, tE, tF])
      (refine ti 4 ?_; simp only [Act.put, tA, tB, tC, tD, tE, tF])
      (refine ti 5 ?_; simp only [Act.put, tA, tB, tC, tD, tE, tF])
      (refine ti 6 ?_; simp only [Act.put, tA, tB, tC, tD, tE, tF])
      (refine ti 7 ?_; simp only [Act.put, tA, tB, tC, tD, tE, tF])
      refine wpAnyH_ready (rs := [2]) (by kernel_rfl) (by simp) ?_
      refine AllReadyH.cons rfl (fun K hK => ?_) AllReadyH.nil
      go_simp
      go_wp2_with fail
      refine (D1.out _).mono ?_
      rintro e w4 ⟨rfl, hb4⟩
      have XM4 : Hid (Bx w4 m.1 (ndc m.2 q)) := XM.out.below (undrew hb4)
      have HO4 := hide (HO3.out.below (undrew hb4))
      have HB4 : Hid (Below w1.heap.size w1 w4) := HB3.out.trans (((undrew hb4)).mono HB3.out.size)
      clear hb4 XM HO3 HB3
      go_wp2_with fail
      refine hK.out _ _ XM4.out.c1 (fun hHeld4 => ?_)
      clear hK K
      refine wpAnyH_ready (rs := [8]) (by kernel_rfl) (by simp) ?_
      refine AllReadyH.cons rfl (fun K hK => ?_) AllReadyH.nil
      go_simp
      go_wp2_with fail
      refine (D2.out _).mono ?_
      rintro e w5 ⟨rfl, hb5⟩
      have XM5 : Hid (Bx w5 m.1 (ndc m.2 q)) := XM4.out.below hb5
      have HO5 := hide (HO4.out.below hb5)
      have HB5 : Hid (Below w1.heap.size w1 w5) := HB4.out.trans ((hb5).mono HB4.out.size)
      clear hb5 XM4 HO4 HB4
      go_wp2_with fail
      refine hK.out _ _ XM5.out.c1 (fun hHeld5 => ?_)
      clear hK K
      (refine ti 9 ?_; simp only [Act.put, tA, tB, tC, tD, tE, tF])
      refine wpAnyH_ready (rs := [10]) (by kernel_rfl) (by simp) ?_
      refine AllReadyH.cons rfl (fun K hK => ?_) AllReadyH.nil
      go_simp
      have XM6 : Hid (Bx (w5.alloc (.cells #[.string ks[i], .string m.2.2.1] 97)) m.1 (ndc m.2 q)) := XM5.out.alloc _
      go_wp2_with fail
      refine hK.out _ _ XM6.out.c1 (fun hHeld6 => ?_)
      clear hK K
      refine wpAnyH_ready (rs := [11]) (by kernel_rfl) (by simp) ?_
      refine AllReadyH.cons rfl (fun K hK => ?_) AllReadyH.nil
      refine stepAppP (by rfl) _ _ (by rfl) (ks[i], m.2.2.1) (by rfl) (HO5.out.alloc _) (by rfl) (heapAllocNew w5 [.string ks[i], .string m.2.2.1] 97) hll (Nat.le_trans HB5.out.size (by rw [World.size_alloc]; omega)) ?_
      intro v7 w7 ho7 hb7
      have HO7 : Hid (GOwn encR 97 w7 w1.heap.size v7 ((ks.take (i + 1)).filterMap (scanF vs rg s))) := by
       show GOwn _ _ _ _ _ _
       rw [HP.out]; exact ho7
      have HB7 : Hid (Below w1.heap.size w1 w7) := (HB5.out.alloc HB5.out.size _).trans hb7
      have XM7 : Hid (Bx w7 m.1 (ndc m.2 q)) := XM6.out.belowB hb7 HLm.out
      clear ho7 hb7
      go_wp2_with fail
      refine hK.out _ _ XM7.out.c1 (fun hHeld7 => ?_)
      clear hK K
      (refine ti 12 ?_; simp only [Act.put, tA, tB, tC, tD, tE, tF])
      refine wpAnyH_done (by kernel_rfl) ?_ _
      go_wp2
      go_roundw
      case rel => exact ⟨i + 1, by omega, by go_num, HO7, HB7⟩
      case measure => simp [intOf]; omega
     ·have ho2 := HO3.out
      rw [← scan_no hlt (show scanF vs rg s ks[i] = none by unfold scanF; rw [HIn.out, seen_gone HV.out hl hg]; rfl)] at ho2
      have HO4 := hide ho2
      rw [hg] at m2
      clear ho2 hl hg hm
      go_wp2
      go_roundw
      case rel => exact ⟨i + 1, by omega, by go_num, HO4, HB3⟩
      case measure => simp [intOf]; omega
  ·have hlt' : ¬ (i : Int) < (ks.length : Int) := by omega
   have ho := HO.out
   rw [List.take_of_length_le (by omega), ← HL.out] at ho
   obtain ⟨a1, c1, rfl, _⟩ := ho.row
   have HO1 : Hid (GOwn encR 97 wr w.heap.size (.slice a1 (scanB vs rg s).length c1) (scanB vs rg s)) := ho.mono HB1.out.size
   have HB2 : Hid (Below w.heap.size w wr) := HB1.out.trans (HB.out.mono HB1.out.size)
   clear ho HO
   go_wp2
   go_ret
   exact ⟨a1, c1, rfl, HO1.out, HB2.out⟩
end Go.Proofs.YtjieojfcmigcdaaGreatDoor

namespace Go.Proofs.YtjieojfcmigcdaaGreatDoor
open Go.RowKit
open KM
open VM
attribute [local go_sem ↓] Go.wp_at_zero Go.wp_at_succ

set_option maxRecDepth 100000 in
set_option maxHeartbeats 2000000 in
theorem iscan (vs : List Vr) (a : Option Addr) (c : Nat) (rg : Rg) (s : Int) (hn : vs.length ≤ 100000000) (hf : VFit vs) (w : World) (hp : GRow encV w a vs) :
  Calls Tryz.prog 50 #[.slice a vs.length c, .agg #[.string rg.1, .string rg.2], .int .i64 s] w fun e w' => ∃ a1 c1, e = .returned (.slice a1 (scanB vs rg s).length c1) ∧ GOwn encR 97 w' w.heap.size (.slice a1 (scanB vs rg s).length c1) (scanB vs rg s) ∧ Below w.heap.size w w' := by
 have HP : Hid (GRow encV w a vs) := hp
 have HF : Hid (VFit vs) := hf
 clear hp hf
 have X0 : Hid (Bx (w.alloc (.cells #[.string rg.1, .string rg.2] 67)) w.heap.size [.string rg.1, .string rg.2]) := Bx.new w [.string rg.1, .string rg.2] 67
 have HB0 : Hid (Below w.heap.size w (w.alloc (.cells #[.string rg.1, .string rg.2] 67))) := (belowRefl w).alloc (Nat.le_refl _) _
 have HS0 : Hid ((w.alloc (.cells #[.string rg.1, .string rg.2] 67)).heap.size = w.heap.size + 1) := World.size_alloc _ _
 go_enter Tryz.func50, Tryz.ntmps50
 go_wp2
 generalize (w.alloc (.cells #[.string rg.1, .string rg.2] 67)) = W at *
 refine wp_region_held_drew (S := fun w' => w'.cell? ⟨w.heap.size, 0, none⟩ = some (.string rg.1) ∧ w'.cell? ⟨w.heap.size, 1, none⟩ = some (.string rg.2)) (by kernel_rfl) ⟨X0.out.c0, X0.out.c1⟩ (fun hHeld => ?_)
 (refine ti 0 ?_; simp only [Act.put, tA, tB, tD, tE, tF])
 (refine ti 2 ?_; simp only [Act.put, tA, tB, tC, tD, tE, tF])
 (refine ti 3 ?_; simp only [Act.put, tA, tB, tC, tD, tE, tF])
 refine wpAnyH_ready (rs := [1]) (by kernel_rfl) (by simp) ?_
 refine AllReadyH.cons rfl (fun K hK => ?_) AllReadyH.nil
 go_simp
 go_wp2_with fail
 refine (chain45 vs a c hn _ (HP.out.below HB0.out.drew)).mono ?_
 rintro e w1 ⟨rfl, ⟨r, ns, hc, hv⟩, hb1⟩
 have HC : Hid (Chn w1 W.heap.size (W.heap.size + 1) ((r, zV) :: ns)) := hc
 have HV : Hid (ns.map (·.2) = vs) := hv
 have X1 : Hid (Bx w1 w.heap.size [.string rg.1, .string rg.2]) := X0.out.below (undrew hb1)
 have HB1 : Hid (Below w.heap.size w w1) := HB0.out.trans ((undrew hb1).mono HB0.out.size)
 clear hc hv hb1
 go_wp2_with fail
 refine hK.out _ _ ⟨X1.out.c0, X1.out.c1⟩ (fun hHeld2 => ?_)
 clear hK K
 refine wpAnyH_ready (rs := [4]) (by kernel_rfl) (by simp) ?_
 refine AllReadyH.cons rfl (fun K hK => ?_) AllReadyH.nil
 go_simp
 have hnl : ns.length ≤ 100000000 := by rw [← List.length_map (f := fun x : Nd => x.2), HV.out]; exact hn
 go_wp2_with fail
 refine (scan56 W.heap.size (W.heap.size + 1) (r, zV) ns vs rg s hnl HV.out HF.out _ HC.out).mono ?_
 rintro e w2 ⟨a1, c1, rfl, ho, hb2⟩
 have HO : Hid (GOwn encR 97 w2 w.heap.size (.slice a1 (scanB vs rg s).length c1) (scanB vs rg s)) := ho.mono HB1.out.size
 have X2 : Hid (Bx w2 w.heap.size [.string rg.1, .string rg.2]) := X1.out.below hb2
 have HB2 : Hid (Below w.heap.size w w2) := HB1.out.trans (hb2.mono HB1.out.size)
 clear ho hb2
 go_wp2_with fail
 refine hK.out _ _ ⟨X2.out.c0, X2.out.c1⟩ (fun hHeld3 => ?_)
 clear hK K
 (refine ti 5 ?_; simp only [Act.put, tA, tB, tC, tD, tE, tF])
 refine wpAnyH_done (by kernel_rfl) ?_ _
 go_wp2
 go_ret
 exact ⟨a1, c1, rfl, HO.out, HB2.out⟩

theorem filt_len {α : Type} (p : α → Bool) (xs : List α) (k n : Nat) (h : xs.length ≤ n) : ((xs.take k).filter p).length ≤ n := Nat.le_trans (List.length_filter_le _ _) (by rw [List.length_take]; omega)
structure KI (vs : List Vr) (rg : Rg) (i : Nat) (ks : List ByteArray) : Prop where
 up : ks.Pairwise (fun a b => lt a b = true)
 mem : ∀ x, x ∈ ks ↔ x ∈ (vs.take i).map (·.1) ∧ inB rg x = true
 len : ks.length ≤ i
theorem KI.no {vs : List Vr} {rg : Rg} {i : Nat} {ks : List ByteArray} (h : KI vs rg i ks) (hi : i < vs.length) (hn : inB rg vs[i].1 = false) : KI vs rg (i + 1) ks := by
 refine ⟨h.up, fun x => ?_, by have := h.len; omega⟩
 rw [h.mem, List.take_succ_eq_append_getElem hi, List.map_append, List.mem_append]
 constructor
 ·exact fun ⟨h1, h2⟩ => ⟨Or.inl h1, h2⟩
 ·rintro ⟨h1 | h1, h2⟩
  ·exact ⟨h1, h2⟩
  ·rw [List.map_singleton, List.mem_singleton] at h1
   rw [h1, hn] at h2; cases h2
theorem KI.yes {vs : List Vr} {rg : Rg} {i : Nat} {ks : List ByteArray} (h : KI vs rg i ks) (hi : i < vs.length) (hn : inB rg vs[i].1 = true) : KI vs rg (i + 1) (insK ks vs[i].1) := by
 obtain ⟨h1, h2⟩ := ins_spec (k := vs[i].1) h.up
 refine ⟨h1, fun x => ?_, ?_⟩
 ·rw [h2, h.mem, List.take_succ_eq_append_getElem hi, List.map_append, List.mem_append, List.map_singleton, List.mem_singleton]
  constructor
  ·rintro (rfl | ⟨h1, h2⟩)
   ·exact ⟨Or.inr rfl, hn⟩
   ·exact ⟨Or.inl h1, h2⟩
  ·rintro ⟨h1 | h1, h2⟩
   ·exact Or.inr ⟨h1, h2⟩
   ·exact Or.inl h1
 ·have e : (insK ks vs[i].1).length ≤ ks.length + 1 := by
   unfold insK
   simp only [List.length_append, List.length_singleton]
   have : (ks.filter fun y => lt y vs[i].1).length + (ks.filter fun y => lt vs[i].1 y).length ≤ ks.length := by
    clear h1 h2 h hn
    induction ks with
    | nil => simp
    | cons a l ih =>
     simp only [List.filter_cons]
     cases h3 : lt a vs[i].1
     ·cases h4 : lt vs[i].1 a <;> simp <;> omega
     ·have h4 : lt vs[i].1 a = false := less_asymm _ _ h3
      rw [h4]
      simp; omega
   omega
  have := h.len
  omega
theorem KI.whole {vs : List Vr} {rg : Rg} {ks : List ByteArray} (h : KI vs rg vs.length ks) : ks = (keysB (vs.map (·.1))).filter (inB rg) :=
 keys_of h.up (inB rg) (fun x => by rw [h.mem, List.take_length])

end Go.Proofs.YtjieojfcmigcdaaGreatDoor

/- What spec.VersionsOk returns. -/
import Derived.Test.YtpnnncfbodfnhaaGreatDoorPr01
import Derived.Test.YtpnnncfbodfnhaaGreatDoorPr04
namespace Go.Proofs.YtpnnncfbodfnhaaGreatDoor
open Go.RowKit
open KM
attribute [local go_sem ↓] Go.wp_at_zero Go.wp_at_succ

theorem asc_lt {a b : Vr} (h : Op.bytesLess a.1.toList b.1.toList = true) : asc a b = true := by
 unfold asc lt
 rw [h]; rfl
theorem asc_no {a b : Vr} (h1 : Op.bytesLess a.1.toList b.1.toList = false) (h2 : (a.1.toList == b.1.toList) = false) : asc a b = false := by
 unfold asc lt
 rw [beq_text] at h2
 rw [h1, h2]; rfl
theorem asc_eq {a b : Vr} (h2 : (a.1.toList == b.1.toList) = true) : asc a b = decide (a.2.2.2 < b.2.2.2) := by
 have e : a.1 = b.1 := by rw [beq_text] at h2; simpa using h2
 unfold asc lt
 rw [e, less_irrefl]
 simp

set_option maxRecDepth 100000 in
set_option maxHeartbeats 4000000 in
theorem svers (xs : List Vr) (a : Option Addr) (c : Nat) (hn : xs.length ≤ 100000000) (hf : VFit xs) (w : World) (hp : GRow encV w a xs) :
  Calls Tryz.prog 95 #[.slice a xs.length c] w fun e w' => e = .returned (.bool (versB xs)) ∧ Below w.heap.size w w' := by
 have HP : Hid (GRow encV w a xs) := hp
 have HF : Hid (VFit xs) := hf
 clear hp hf
 go_enter Tryz.func95, Tryz.ntmps95
 go_wp2
 go_loopw [3] (fun t wr => ∃ k : Nat, k ≤ xs.length ∧ t = .int .i64 k ∧ Hid (GoodV xs k) ∧ Hid (Below w.heap.size w wr)) (fun t _ => xs.length - (intOf t).toNat)
 case atStart => exact ⟨0, Nat.zero_le _, rfl, fun j hj h => by omega, belowRefl w⟩
 case round =>
  obtain ⟨k, hk, rfl, HG, HB⟩ := hrel
  by_cases hlt : k < xs.length
  ·have hlt' : (k : Int) < (xs.length : Int) := by omega
   have hk0 : (0 : Int) ≤ (k : Int) := by omega
   have HR : Hid (GRow encV wr a xs) := HP.out.below HB.out
   obtain ⟨b, off, rfl, hbl, hc⟩ := HR.out (by omega)
   have c0 := (vat hc k hlt).1
   have c1 := (vat hc k hlt).2.1
   have c2 := (vat hc k hlt).2.2.1
   have c3 := (vat hc k hlt).2.2.2
   have HC : Hid (∀ j (hj : j < xs.length), pcells wr b (off + j * 4) xs[j]) := fun j hj => vat hc j hj
   clear hc
   have HB1 : Hid (Below w.heap.size w (wr.alloc (.cells #[.string xs[k].1, .string xs[k].2.1, .bool xs[k].2.2.1, .int .i64 xs[k].2.2.2] 106))) := HB.out.alloc HB.out.size _
   have HX : Hid (Box (wr.alloc (.cells #[.string xs[k].1, .string xs[k].2.1, .bool xs[k].2.2.1, .int .i64 xs[k].2.2.2] 106)) wr.heap.size [.string xs[k].1, .string xs[k].2.1, .bool xs[k].2.2.1, .int .i64 xs[k].2.2.2]) := Box.new wr [.string xs[k].1, .string xs[k].2.1, .bool xs[k].2.2.1, .int .i64 xs[k].2.2.2] 106
   have hbl' : b < (wr.alloc (.cells #[.string xs[k].1, .string xs[k].2.1, .bool xs[k].2.2.1, .int .i64 xs[k].2.2.2] 106)).heap.size := by simp; omega
   obtain ⟨m, HM, hml⟩ : ∃ m, Hid (m = k - 1) ∧ m < xs.length := ⟨k - 1, rfl, by omega⟩
   have EM : Hid (xs[m] = xs[k - 1]'(by omega)) := by show _ = _; simp only [HM.out]
   have HPM : Hid (pcells (wr.alloc (.cells #[.string xs[k].1, .string xs[k].2.1, .bool xs[k].2.2.1, .int .i64 xs[k].2.2.2] 106)) b (off + m * 4) xs[m]) := (HC.out m hml).below' hbl ((belowRefl wr).alloc (Nat.le_refl _) _)
   have HZ : Hid (xs[k].1.size ≤ 1048576) := (HF.out _ (List.getElem_mem hlt)).1
   have SK : Hid (∀ w, Calls Tryz.prog 50 #[.string xs[k].1] w fun e w' => e = .returned (.bool (keyB xs[k].1)) ∧ w' = w) := fun w => skey xs[k].1 HZ.out w
   have SI : Hid (∀ w, Calls Tryz.prog 47 #[.int .i64 xs[k].2.2.2, .int .i64 1, .int .i64 9999] w fun e w' => e = .returned (.bool (decide (1 ≤ xs[k].2.2.2 ∧ xs[k].2.2.2 ≤ 9999))) ∧ w' = w) := fun w => in57 _ _ _ _ rfl w
   have HV : Hid (verB xs[k] = (keyB xs[k].1 && decide (xs[k].2.1.size ≤ 12) && (!xs[k].2.2.1 || xs[k].2.1.toList.isEmpty) && decide (1 ≤ xs[k].2.2.2) && decide (xs[k].2.2.2 ≤ 9999))) := rfl
   have hw7 : ∀ ok : Bool, verB xs[k] = false → Hid (versB xs = false) := fun _ h => goodv_no k hlt (fun h2 => by rw [h] at h2; cases h2.1)
   obtain ⟨kb, hkb⟩ : ∃ kb, kb = keyB xs[k].1 := ⟨_, rfl⟩
   obtain ⟨ib, hib⟩ : ∃ ib, ib = decide (1 ≤ xs[k].2.2.2 ∧ xs[k].2.2.2 ≤ 9999) := ⟨_, rfl⟩
   rw [← hkb] at SK HV
   rw [← hib] at SI
   have HI : Hid (decide (1 ≤ xs[k].2.2.2 ∧ xs[k].2.2.2 ≤ 9999) = ib) := hib.symm
   clear hkb hib
   obtain ⟨g, hg⟩ : ∃ g, xs[k].2.2.1 = g := ⟨_, rfl⟩
   simp only [hg] at HB1 HX HPM c2 HV hbl'
   clear hg
   cases kb
   ·have HN : Hid (versB xs = false) := hw7 true (by rw [HV.out]; simp)
    clear hw7
    go_wp2_with (first | (go_at_call 50; refine (SK.out _).mono ?_; rintro e w2 ⟨rfl, rfl⟩) | (go_at_call 47; refine (SI.out _).mono ?_; rintro e w2 ⟨rfl, rfl⟩))
    go_ret
    exact ⟨ret_bool HN.out.symm, HB1.out⟩
   ·by_cases hs : xs[k].2.1.size ≤ 12
    ·have hs' : decide ((12 : Int) < (xs[k].2.1.size : Int)) = false := by simp; omega
     have HS : Hid (xs[k].2.1.size ≤ 12) := hs
     clear hs
     cases g
     ·have HE : Hid ((!false || xs[k].2.1.toList.isEmpty) = true) := by show _ = _; rfl
      cases ib
      ·have hi9 : ¬ (1 ≤ xs[k].2.2.2 ∧ xs[k].2.2.2 ≤ 9999) := by simpa using HI.out
       have HJ : Hid ((decide (1 ≤ xs[k].2.2.2) && decide (xs[k].2.2.2 ≤ 9999)) = false) := by show _ = _; simp; omega
       clear hi9
       have HN : Hid (versB xs = false) := hw7 true (by rw [HV.out, Bool.and_assoc, HJ.out, Bool.and_false])
       clear hw7
       go_wp2_with (first | (go_at_call 50; refine (SK.out _).mono ?_; rintro e w2 ⟨rfl, rfl⟩) | (go_at_call 47; refine (SI.out _).mono ?_; rintro e w2 ⟨rfl, rfl⟩))
       go_ret
       exact ⟨ret_bool HN.out.symm, HB1.out⟩
      ·have hi9 : 1 ≤ xs[k].2.2.2 ∧ xs[k].2.2.2 ≤ 9999 := by simpa using HI.out
       have HW : Hid (verB xs[k] = true) := by show _ = _; rw [HV.out, HE.out, decide_eq_true HS.out, decide_eq_true hi9.1, decide_eq_true hi9.2]; rfl
       clear hi9
       by_cases hz : k = 0
       ·clear hw7
        have HG2 : Hid (GoodV xs (k + 1)) := goodv_more HG.out hlt ⟨HW.out, fun h => by omega⟩
        have hz' : ¬ (0 : Int) < (k : Int) := by omega
        clear hz
        go_wp2_with (first | (go_at_call 50; refine (SK.out _).mono ?_; rintro e w2 ⟨rfl, rfl⟩) | (go_at_call 47; refine (SI.out _).mono ?_; rintro e w2 ⟨rfl, rfl⟩))
        generalize (wr.alloc (.cells #[.string xs[k].1, .string xs[k].2.1, .bool false, .int .i64 xs[k].2.2.2] 106)) = W1 at *
        have hzd : decide (0 < k) = false := by simp; omega
        refine wp_region_held_drew (S := fun w' => w'.cell? ⟨wr.heap.size, 0, none⟩ = some (.string xs[k].1) ∧ w'.cell? ⟨wr.heap.size, 3, none⟩ = some (.int .i64 xs[k].2.2.2) ∧ w'.cell? ⟨b, off + m * 4, none⟩ = some (.string xs[m].1) ∧ w'.cell? ⟨b, off + m * 4 + 3, none⟩ = some (.int .i64 xs[m].2.2.2)) (by kernel_rfl) ⟨HX.out.c0, HX.out.c3, HPM.out.1, HPM.out.2.2.2⟩ (fun hHeld => ?_)
        (refine ti 0 ?_; simp only [Act.put, tA, tB, tD, tE, tF])
        (refine ti 1 ?_; simp only [Act.put, tA, tB, tC, tD, tE, tF])
        (refine ti 2 ?_; simp only [Act.put, tA, tB, tC, tD, tE, tF])
        (refine tu 3 ?_; simp only [Act.put, tA, tB, tC, tD, tE, tF])
        (refine tu 4 ?_; simp only [Act.put, tA, tB, tC, tD, tE, tF])
        (refine tu 5 ?_; simp only [Act.put, tA, tB, tC, tD, tE, tF])
        (refine tu 6 ?_; simp only [Act.put, tA, tB, tC, tD, tE, tF])
        (refine tu 7 ?_; simp only [Act.put, tA, tB, tC, tD, tE, tF])
        (refine tu 8 ?_; simp only [Act.put, tA, tB, tC, tD, tE, tF])
        (refine tu 9 ?_; simp only [Act.put, tA, tB, tC, tD, tE, tF])
        (refine tu 10 ?_; simp only [Act.put, tA, tB, tC, tD, tE, tF])
        (refine tu 11 ?_; simp only [Act.put, tA, tB, tC, tD, tE, tF])
        (refine tu 12 ?_; simp only [Act.put, tA, tB, tC, tD, tE, tF])
        (refine tu 13 ?_; simp only [Act.put, tA, tB, tC, tD, tE, tF])
        (refine tu 14 ?_; simp only [Act.put, tA, tB, tC, tD, tE, tF])
        (refine tu 15 ?_; simp only [Act.put, tA, tB, tC, tD, tE, tF])
        (refine tu 16 ?_; simp only [Act.put, tA, tB, tC, tD, tE, tF])
        (refine tu 17 ?_; simp only [Act.put, tA, tB, tC, tD, tE, tF])
        (refine tu 18 ?_; simp only [Act.put, tA, tB, tC, tD, tE, tF])
        (refine tu 19 ?_; simp only [Act.put, tA, tB, tC, tD, tE, tF])
        (refine tu 20 ?_; simp only [Act.put, tA, tB, tC, tD, tE, tF])
        (refine tu 21 ?_; simp only [Act.put, tA, tB, tC, tD, tE, tF])
        (refine tu 22 ?_; simp only [Act.put, tA, tB, tC, tD, tE, tF])
        (refine tu 23 ?_; simp only [Act.put, tA, tB, tC, tD, tE, tF])
        (refine tu 24 ?_; simp only [Act.put, tA, tB, tC, tD, tE, tF])
        (refine tu 25 ?_; simp only [Act.put, tA, tB, tC, tD, tE, tF])
        (refine tu 26 ?_; simp only [Act.put, tA, tB, tC, tD, tE, tF])
        (refine tu 27 ?_; simp only [Act.put, tA, tB, tC, tD, tE, tF])
        (refine tu 28 ?_; simp only [Act.put, tA, tB, tC, tD, tE, tF])
        (refine tu 29 ?_; simp only [Act.put, tA, tB, tC, tD, tE, tF])
        (refine tu 30 ?_; simp only [Act.put, tA, tB, tC, tD, tE, tF])
        (refine tu 31 ?_; simp only [Act.put, tA, tB, tC, tD, tE, tF])
        (refine tu 32 ?_; simp only [Act.put, tA, tB, tC, tD, tE, tF])
        (refine tu 33 ?_; simp only [Act.put, tA, tB, tC, tD, tE, tF])
        (refine ti 34 ?_; simp only [Act.put, tA, tB, tC, tD, tE, tF])
        refine wpAnyH_done (by kernel_rfl) ?_ _
        go_wp2
        go_roundw
        case rel => exact ⟨k + 1, by omega, by go_num, HG2, HB1.out.drew⟩
        case measure => simp [intOf]; omega
       ·cases hc1 : Op.bytesLess xs[m].1.toList xs[k].1.toList
        ·cases hc2 : (xs[m].1.toList == xs[k].1.toList)
         ·clear hw7
          have HX3 : Hid (0 < k ∧ m = k - 1) := ⟨by omega, HM.out⟩
          have HL : Hid (asc xs[m] xs[k] = false) := asc_no hc1 hc2
          have HN : Hid (versB xs = false) := goodv_no k hlt (fun h => by have h2 := h.2 (by omega); simp only [← EM.out] at h2; rw [HL.out] at h2; cases h2)
          go_wp2_with (first | (go_at_call 50; refine (SK.out _).mono ?_; rintro e w2 ⟨rfl, rfl⟩) | (go_at_call 47; refine (SI.out _).mono ?_; rintro e w2 ⟨rfl, rfl⟩))
          generalize (wr.alloc (.cells #[.string xs[k].1, .string xs[k].2.1, .bool false, .int .i64 xs[k].2.2.2] 106)) = W1 at *
          have hzd : decide (0 < k) = true := by have := HX3.out; simp; omega
          have e9 : IntKind.i64.wrap ((k : Int) - 1) = (m : Int) := by have := HX3.out; rw [IntKind.wrap_i64]; omega
          have e10 : (k : Int) - 1 = (m : Int) := by have := HX3.out; omega
          have e11 : IntKind.i64.wrap (m : Int) = (m : Int) := by rw [IntKind.wrap_i64]; omega
          refine wp_region_held_drew (S := fun w' => w'.cell? ⟨wr.heap.size, 0, none⟩ = some (.string xs[k].1) ∧ w'.cell? ⟨wr.heap.size, 3, none⟩ = some (.int .i64 xs[k].2.2.2) ∧ w'.cell? ⟨b, off + m * 4, none⟩ = some (.string xs[m].1) ∧ w'.cell? ⟨b, off + m * 4 + 3, none⟩ = some (.int .i64 xs[m].2.2.2)) (by kernel_rfl) ⟨HX.out.c0, HX.out.c3, HPM.out.1, HPM.out.2.2.2⟩ (fun hHeld => ?_)
          (refine ti 0 ?_; simp only [Act.put, tA, tB, tD, tE, tF])
          (refine ti 1 ?_; simp only [Act.put, tA, tB, tC, tD, tE, tF])
          (refine ti 2 ?_; simp only [Act.put, tA, tB, tC, tD, tE, tF])
          (refine ti 3 ?_; simp only [Act.put, tA, tB, tC, tD, tE, tF])
          (refine ti 4 ?_; simp only [Act.put, tA, tB, tC, tD, tE, tF])
          (refine ti 5 ?_; simp only [Act.put, tA, tB, tC, tD, tE, tF])
          (refine ti 6 ?_; simp only [Act.put, tA, tB, tC, tD, tE, tF])
          (refine ti 7 ?_; simp only [Act.put, tA, tB, tC, tD, tE, tF])
          (refine ti 8 ?_; simp only [Act.put, tA, tB, tC, tD, tE, tF])
          (refine ti 9 ?_; simp only [Act.put, tA, tB, tC, tD, tE, tF])
          (refine ti 10 ?_; simp only [Act.put, tA, tB, tC, tD, tE, tF])
          (refine ti 11 ?_; simp only [Act.put, tA, tB, tC, tD, tE, tF])
          (refine ti 12 ?_; simp only [Act.put, tA, tB, tC, tD, tE, tF])
          (refine tu 13 ?_; simp only [Act.put, tA, tB, tC, tD, tE, tF])
          (refine tu 14 ?_; simp only [Act.put, tA, tB, tC, tD, tE, tF])
          (refine tu 15 ?_; simp only [Act.put, tA, tB, tC, tD, tE, tF])
          (refine tu 16 ?_; simp only [Act.put, tA, tB, tC, tD, tE, tF])
          (refine tu 17 ?_; simp only [Act.put, tA, tB, tC, tD, tE, tF])
          (refine tu 18 ?_; simp only [Act.put, tA, tB, tC, tD, tE, tF])
          (refine tu 19 ?_; simp only [Act.put, tA, tB, tC, tD, tE, tF])
          (refine tu 20 ?_; simp only [Act.put, tA, tB, tC, tD, tE, tF])
          (refine tu 21 ?_; simp only [Act.put, tA, tB, tC, tD, tE, tF])
          (refine tu 22 ?_; simp only [Act.put, tA, tB, tC, tD, tE, tF])
          (refine tu 23 ?_; simp only [Act.put, tA, tB, tC, tD, tE, tF])
          (refine tu 24 ?_; simp only [Act.put, tA, tB, tC, tD, tE, tF])
          (refine tu 25 ?_; simp only [Act.put, tA, tB, tC, tD, tE, tF])
          (refine tu 26 ?_; simp only [Act.put, tA, tB, tC, tD, tE, tF])
          (refine tu 27 ?_; simp only [Act.put, tA, tB, tC, tD, tE, tF])
          (refine tu 28 ?_; simp only [Act.put, tA, tB, tC, tD, tE, tF])
          (refine tu 29 ?_; simp only [Act.put, tA, tB, tC, tD, tE, tF])
          (refine tu 30 ?_; simp only [Act.put, tA, tB, tC, tD, tE, tF])
          (refine tu 31 ?_; simp only [Act.put, tA, tB, tC, tD, tE, tF])
          (refine tu 32 ?_; simp only [Act.put, tA, tB, tC, tD, tE, tF])
          (refine ti 33 ?_; simp only [Act.put, tA, tB, tC, tD, tE, tF])
          (refine ti 34 ?_; simp only [Act.put, tA, tB, tC, tD, tE, tF])
          refine wpAnyH_done (by kernel_rfl) ?_ _
          go_wp2
          go_ret
          exact ⟨ret_bool HN.out.symm, HB1.out.drew⟩
         ·cases hc3 : decide (xs[k].2.2.2 ≤ xs[m].2.2.2)
          ·clear hw7
           have HX3 : Hid (0 < k ∧ m = k - 1) := ⟨by omega, HM.out⟩
           have HL : Hid (asc xs[m] xs[k] = true) := by show _ = _; rw [asc_eq hc2]; simpa using hc3
           have HG2 : Hid (GoodV xs (k + 1)) := goodv_more HG.out hlt ⟨HW.out, fun h => by simp only [← EM.out]; exact HL.out⟩
           go_wp2_with (first | (go_at_call 50; refine (SK.out _).mono ?_; rintro e w2 ⟨rfl, rfl⟩) | (go_at_call 47; refine (SI.out _).mono ?_; rintro e w2 ⟨rfl, rfl⟩))
           generalize (wr.alloc (.cells #[.string xs[k].1, .string xs[k].2.1, .bool false, .int .i64 xs[k].2.2.2] 106)) = W1 at *
           have hzd : decide (0 < k) = true := by have := HX3.out; simp; omega
           have e9 : IntKind.i64.wrap ((k : Int) - 1) = (m : Int) := by have := HX3.out; rw [IntKind.wrap_i64]; omega
           have e10 : (k : Int) - 1 = (m : Int) := by have := HX3.out; omega
           have e11 : IntKind.i64.wrap (m : Int) = (m : Int) := by rw [IntKind.wrap_i64]; omega
           refine wp_region_held_drew (S := fun w' => w'.cell? ⟨wr.heap.size, 0, none⟩ = some (.string xs[k].1) ∧ w'.cell? ⟨wr.heap.size, 3, none⟩ = some (.int .i64 xs[k].2.2.2) ∧ w'.cell? ⟨b, off + m * 4, none⟩ = some (.string xs[m].1) ∧ w'.cell? ⟨b, off + m * 4 + 3, none⟩ = some (.int .i64 xs[m].2.2.2)) (by kernel_rfl) ⟨HX.out.c0, HX.out.c3, HPM.out.1, HPM.out.2.2.2⟩ (fun hHeld => ?_)
           (refine ti 0 ?_; simp only [Act.put, tA, tB, tD, tE, tF])
           (refine ti 1 ?_; simp only [Act.put, tA, tB, tC, tD, tE, tF])
           (refine ti 2 ?_; simp only [Act.put, tA, tB, tC, tD, tE, tF])
           (refine ti 3 ?_; simp only [Act.put, tA, tB, tC, tD, tE, tF])
           (refine ti 4 ?_; simp only [Act.put, tA, tB, tC, tD, tE, tF])
           (refine ti 5 ?_; simp only [Act.put, tA, tB, tC, tD, tE, tF])
           (refine ti 6 ?_; simp only [Act.put, tA, tB, tC, tD, tE, tF])
           (refine ti 7 ?_; simp only [Act.put, tA, tB, tC, tD, tE, tF])
           (refine ti 8 ?_; simp only [Act.put, tA, tB, tC, tD, tE, tF])
           (refine ti 9 ?_; simp only [Act.put, tA, tB, tC, tD, tE, tF])
           (refine ti 10 ?_; simp only [Act.put, tA, tB, tC, tD, tE, tF])
           (refine ti 11 ?_; simp only [Act.put, tA, tB, tC, tD, tE, tF])
           (refine ti 12 ?_; simp only [Act.put, tA, tB, tC, tD, tE, tF])
           (refine ti 13 ?_; simp only [Act.put, tA, tB, tC, tD, tE, tF])
           (refine ti 14 ?_; simp only [Act.put, tA, tB, tC, tD, tE, tF])
           (refine ti 15 ?_; simp only [Act.put, tA, tB, tC, tD, tE, tF])
           (refine ti 16 ?_; simp only [Act.put, tA, tB, tC, tD, tE, tF])
           (refine ti 17 ?_; simp only [Act.put, tA, tB, tC, tD, tE, tF])
           (refine ti 18 ?_; simp only [Act.put, tA, tB, tC, tD, tE, tF])
           (refine ti 19 ?_; simp only [Act.put, tA, tB, tC, tD, tE, tF])
           (refine ti 20 ?_; simp only [Act.put, tA, tB, tC, tD, tE, tF])
           (refine ti 21 ?_; simp only [Act.put, tA, tB, tC, tD, tE, tF])
           (refine ti 22 ?_; simp only [Act.put, tA, tB, tC, tD, tE, tF])
           (refine ti 23 ?_; simp only [Act.put, tA, tB, tC, tD, tE, tF])
           (refine ti 24 ?_; simp only [Act.put, tA, tB, tC, tD, tE, tF])
           (refine ti 25 ?_; simp only [Act.put, tA, tB, tC, tD, tE, tF])
           (refine ti 26 ?_; simp only [Act.put, tA, tB, tC, tD, tE, tF])
           (refine ti 27 ?_; simp only [Act.put, tA, tB, tC, tD, tE, tF])
           (refine ti 28 ?_; simp only [Act.put, tA, tB, tC, tD, tE, tF])
           (refine ti 29 ?_; simp only [Act.put, tA, tB, tC, tD, tE, tF])
           (refine ti 30 ?_; simp only [Act.put, tA, tB, tC, tD, tE, tF])
           (refine ti 31 ?_; simp only [Act.put, tA, tB, tC, tD, tE, tF])
           (refine ti 32 ?_; simp only [Act.put, tA, tB, tC, tD, tE, tF])
           (refine ti 33 ?_; simp only [Act.put, tA, tB, tC, tD, tE, tF])
           (refine ti 34 ?_; simp only [Act.put, tA, tB, tC, tD, tE, tF])
           refine wpAnyH_done (by kernel_rfl) ?_ _
           go_wp2
           go_roundw
           case rel => exact ⟨k + 1, by omega, by go_num, HG2, HB1.out.drew⟩
           case measure => simp [intOf]; omega
          ·clear hw7
           have HX3 : Hid (0 < k ∧ m = k - 1) := ⟨by omega, HM.out⟩
           have HL : Hid (asc xs[m] xs[k] = false) := by show _ = _; rw [asc_eq hc2]; simpa using hc3
           have HN : Hid (versB xs = false) := goodv_no k hlt (fun h => by have h2 := h.2 (by omega); simp only [← EM.out] at h2; rw [HL.out] at h2; cases h2)
           go_wp2_with (first | (go_at_call 50; refine (SK.out _).mono ?_; rintro e w2 ⟨rfl, rfl⟩) | (go_at_call 47; refine (SI.out _).mono ?_; rintro e w2 ⟨rfl, rfl⟩))
           generalize (wr.alloc (.cells #[.string xs[k].1, .string xs[k].2.1, .bool false, .int .i64 xs[k].2.2.2] 106)) = W1 at *
           have hzd : decide (0 < k) = true := by have := HX3.out; simp; omega
           have e9 : IntKind.i64.wrap ((k : Int) - 1) = (m : Int) := by have := HX3.out; rw [IntKind.wrap_i64]; omega
           have e10 : (k : Int) - 1 = (m : Int) := by have := HX3.out; omega
           have e11 : IntKind.i64.wrap (m : Int) = (m : Int) := by rw [IntKind.wrap_i64]; omega
           refine wp_region_held_drew (S := fun w' => w'.cell? ⟨wr.heap.size, 0, none⟩ = some (.string xs[k].1) ∧ w'.cell? ⟨wr.heap.size, 3, none⟩ = some (.int .i64 xs[k].2.2.2) ∧ w'.cell? ⟨b, off + m * 4, none⟩ = some (.string xs[m].1) ∧ w'.cell? ⟨b, off + m * 4 + 3, none⟩ = some (.int .i64 xs[m].2.2.2)) (by kernel_rfl) ⟨HX.out.c0, HX.out.c3, HPM.out.1, HPM.out.2.2.2⟩ (fun hHeld => ?_)
           (refine ti 0 ?_; simp only [Act.put, tA, tB, tD, tE, tF])
           (refine ti 1 ?_; simp only [Act.put, tA, tB, tC, tD, tE, tF])
           (refine ti 2 ?_; simp only [Act.put, tA, tB, tC, tD, tE, tF])
           (refine ti 3 ?_; simp only [Act.put, tA, tB, tC, tD, tE, tF])
           (refine ti 4 ?_; simp only [Act.put, tA, tB, tC, tD, tE, tF])
           (refine ti 5 ?_; simp only [Act.put, tA, tB, tC, tD, tE, tF])
           (refine ti 6 ?_; simp only [Act.put, tA, tB, tC, tD, tE, tF])
           (refine ti 7 ?_; simp only [Act.put, tA, tB, tC, tD, tE, tF])
           (refine ti 8 ?_; simp only [Act.put, tA, tB, tC, tD, tE, tF])
           (refine ti 9 ?_; simp only [Act.put, tA, tB, tC, tD, tE, tF])
           (refine ti 10 ?_; simp only [Act.put, tA, tB, tC, tD, tE, tF])
           (refine ti 11 ?_; simp only [Act.put, tA, tB, tC, tD, tE, tF])
           (refine ti 12 ?_; simp only [Act.put, tA, tB, tC, tD, tE, tF])
           (refine ti 13 ?_; simp only [Act.put, tA, tB, tC, tD, tE, tF])
           (refine ti 14 ?_; simp only [Act.put, tA, tB, tC, tD, tE, tF])
           (refine ti 15 ?_; simp only [Act.put, tA, tB, tC, tD, tE, tF])
           (refine ti 16 ?_; simp only [Act.put, tA, tB, tC, tD, tE, tF])
           (refine ti 17 ?_; simp only [Act.put, tA, tB, tC, tD, tE, tF])
           (refine ti 18 ?_; simp only [Act.put, tA, tB, tC, tD, tE, tF])
           (refine ti 19 ?_; simp only [Act.put, tA, tB, tC, tD, tE, tF])
           (refine ti 20 ?_; simp only [Act.put, tA, tB, tC, tD, tE, tF])
           (refine ti 21 ?_; simp only [Act.put, tA, tB, tC, tD, tE, tF])
           (refine ti 22 ?_; simp only [Act.put, tA, tB, tC, tD, tE, tF])
           (refine ti 23 ?_; simp only [Act.put, tA, tB, tC, tD, tE, tF])
           (refine ti 24 ?_; simp only [Act.put, tA, tB, tC, tD, tE, tF])
           (refine ti 25 ?_; simp only [Act.put, tA, tB, tC, tD, tE, tF])
           (refine ti 26 ?_; simp only [Act.put, tA, tB, tC, tD, tE, tF])
           (refine ti 27 ?_; simp only [Act.put, tA, tB, tC, tD, tE, tF])
           (refine ti 28 ?_; simp only [Act.put, tA, tB, tC, tD, tE, tF])
           (refine ti 29 ?_; simp only [Act.put, tA, tB, tC, tD, tE, tF])
           (refine ti 30 ?_; simp only [Act.put, tA, tB, tC, tD, tE, tF])
           (refine ti 31 ?_; simp only [Act.put, tA, tB, tC, tD, tE, tF])
           (refine ti 32 ?_; simp only [Act.put, tA, tB, tC, tD, tE, tF])
           (refine ti 33 ?_; simp only [Act.put, tA, tB, tC, tD, tE, tF])
           (refine ti 34 ?_; simp only [Act.put, tA, tB, tC, tD, tE, tF])
           refine wpAnyH_done (by kernel_rfl) ?_ _
           go_wp2
           go_ret
           exact ⟨ret_bool HN.out.symm, HB1.out.drew⟩
        ·have hc2 : (xs[m].1.toList == xs[k].1.toList) = false := by rw [beq_eq_false_iff_ne]; intro e; rw [e, less_irrefl] at hc1; cases hc1
         clear hw7
         have HX3 : Hid (0 < k ∧ m = k - 1) := ⟨by omega, HM.out⟩
         have HL : Hid (asc xs[m] xs[k] = true) := asc_lt hc1
         have HG2 : Hid (GoodV xs (k + 1)) := goodv_more HG.out hlt ⟨HW.out, fun h => by simp only [← EM.out]; exact HL.out⟩
         go_wp2_with (first | (go_at_call 50; refine (SK.out _).mono ?_; rintro e w2 ⟨rfl, rfl⟩) | (go_at_call 47; refine (SI.out _).mono ?_; rintro e w2 ⟨rfl, rfl⟩))
         generalize (wr.alloc (.cells #[.string xs[k].1, .string xs[k].2.1, .bool false, .int .i64 xs[k].2.2.2] 106)) = W1 at *
         have hzd : decide (0 < k) = true := by have := HX3.out; simp; omega
         have e9 : IntKind.i64.wrap ((k : Int) - 1) = (m : Int) := by have := HX3.out; rw [IntKind.wrap_i64]; omega
         have e10 : (k : Int) - 1 = (m : Int) := by have := HX3.out; omega
         have e11 : IntKind.i64.wrap (m : Int) = (m : Int) := by rw [IntKind.wrap_i64]; omega
         refine wp_region_held_drew (S := fun w' => w'.cell? ⟨wr.heap.size, 0, none⟩ = some (.string xs[k].1) ∧ w'.cell? ⟨wr.heap.size, 3, none⟩ = some (.int .i64 xs[k].2.2.2) ∧ w'.cell? ⟨b, off + m * 4, none⟩ = some (.string xs[m].1) ∧ w'.cell? ⟨b, off + m * 4 + 3, none⟩ = some (.int .i64 xs[m].2.2.2)) (by kernel_rfl) ⟨HX.out.c0, HX.out.c3, HPM.out.1, HPM.out.2.2.2⟩ (fun hHeld => ?_)
         (refine ti 0 ?_; simp only [Act.put, tA, tB, tD, tE, tF])
         (refine ti 1 ?_; simp only [Act.put, tA, tB, tC, tD, tE, tF])
         (refine ti 2 ?_; simp only [Act.put, tA, tB, tC, tD, tE, tF])
         (refine ti 3 ?_; simp only [Act.put, tA, tB, tC, tD, tE, tF])
         (refine ti 4 ?_; simp only [Act.put, tA, tB, tC, tD, tE, tF])
         (refine ti 5 ?_; simp only [Act.put, tA, tB, tC, tD, tE, tF])
         (refine ti 6 ?_; simp only [Act.put, tA, tB, tC, tD, tE, tF])
         (refine ti 7 ?_; simp only [Act.put, tA, tB, tC, tD, tE, tF])
         (refine ti 8 ?_; simp only [Act.put, tA, tB, tC, tD, tE, tF])
         (refine ti 9 ?_; simp only [Act.put, tA, tB, tC, tD, tE, tF])
         (refine ti 10 ?_; simp only [Act.put, tA, tB, tC, tD, tE, tF])
         (refine ti 11 ?_; simp only [Act.put, tA, tB, tC, tD, tE, tF])
         (refine ti 12 ?_; simp only [Act.put, tA, tB, tC, tD, tE, tF])
         (refine ti 13 ?_; simp only [Act.put, tA, tB, tC, tD, tE, tF])
         (refine ti 14 ?_; simp only [Act.put, tA, tB, tC, tD, tE, tF])
         (refine ti 15 ?_; simp only [Act.put, tA, tB, tC, tD, tE, tF])
         (refine ti 16 ?_; simp only [Act.put, tA, tB, tC, tD, tE, tF])
         (refine ti 17 ?_; simp only [Act.put, tA, tB, tC, tD, tE, tF])
         (refine ti 18 ?_; simp only [Act.put, tA, tB, tC, tD, tE, tF])
         (refine ti 19 ?_; simp only [Act.put, tA, tB, tC, tD, tE, tF])
         (refine ti 20 ?_; simp only [Act.put, tA, tB, tC, tD, tE, tF])
         (refine ti 21 ?_; simp only [Act.put, tA, tB, tC, tD, tE, tF])
         (refine ti 22 ?_; simp only [Act.put, tA, tB, tC, tD, tE, tF])
         (refine tu 23 ?_; simp only [Act.put, tA, tB, tC, tD, tE, tF])
         (refine tu 24 ?_; simp only [Act.put, tA, tB, tC, tD, tE, tF])
         (refine tu 25 ?_; simp only [Act.put, tA, tB, tC, tD, tE, tF])
         (refine tu 26 ?_; simp only [Act.put, tA, tB, tC, tD, tE, tF])
         (refine tu 27 ?_; simp only [Act.put, tA, tB, tC, tD, tE, tF])
         (refine tu 28 ?_; simp only [Act.put, tA, tB, tC, tD, tE, tF])
         (refine tu 29 ?_; simp only [Act.put, tA, tB, tC, tD, tE, tF])
         (refine tu 30 ?_; simp only [Act.put, tA, tB, tC, tD, tE, tF])
         (refine tu 31 ?_; simp only [Act.put, tA, tB, tC, tD, tE, tF])
         (refine ti 32 ?_; simp only [Act.put, tA, tB, tC, tD, tE, tF])
         (refine ti 33 ?_; simp only [Act.put, tA, tB, tC, tD, tE, tF])
         (refine ti 34 ?_; simp only [Act.put, tA, tB, tC, tD, tE, tF])
         refine wpAnyH_done (by kernel_rfl) ?_ _
         go_wp2
         go_roundw
         case rel => exact ⟨k + 1, by omega, by go_num, HG2, HB1.out.drew⟩
         case measure => simp [intOf]; omega
     ·cases he : xs[k].2.1.toList.isEmpty
      ·have he' : (!xs[k].2.1.toList.isEmpty) = true := by rw [he]; rfl
       have HN : Hid (versB xs = false) := hw7 true (by rw [HV.out, he]; simp)
       clear hw7 he
       go_wp2_with (first | (go_at_call 50; refine (SK.out _).mono ?_; rintro e w2 ⟨rfl, rfl⟩) | (go_at_call 47; refine (SI.out _).mono ?_; rintro e w2 ⟨rfl, rfl⟩))
       go_ret
       exact ⟨ret_bool HN.out.symm, HB1.out⟩
      ·have he' : (!xs[k].2.1.toList.isEmpty) = false := by rw [he]; rfl
       have HE : Hid ((!true || xs[k].2.1.toList.isEmpty) = true) := by show _ = _; rw [he]; rfl
       clear he
       cases ib
       ·have hi9 : ¬ (1 ≤ xs[k].2.2.2 ∧ xs[k].2.2.2 ≤ 9999) := by simpa using HI.out
        have HJ : Hid ((decide (1 ≤ xs[k].2.2.2) && decide (xs[k].2.2.2 ≤ 9999)) = false) := by show _ = _; simp; omega
        clear hi9
        have HN : Hid (versB xs = false) := hw7 true (by rw [HV.out, Bool.and_assoc, HJ.out, Bool.and_false])
        clear hw7
        go_wp2_with (first | (go_at_call 50; refine (SK.out _).mono ?_; rintro e w2 ⟨rfl, rfl⟩) | (go_at_call 47; refine (SI.out _).mono ?_; rintro e w2 ⟨rfl, rfl⟩))
        go_ret
        exact ⟨ret_bool HN.out.symm, HB1.out⟩
       ·have hi9 : 1 ≤ xs[k].2.2.2 ∧ xs[k].2.2.2 ≤ 9999 := by simpa using HI.out
        have HW : Hid (verB xs[k] = true) := by show _ = _; rw [HV.out, HE.out, decide_eq_true HS.out, decide_eq_true hi9.1, decide_eq_true hi9.2]; rfl
        clear hi9
        by_cases hz : k = 0
        ·clear hw7
         have HG2 : Hid (GoodV xs (k + 1)) := goodv_more HG.out hlt ⟨HW.out, fun h => by omega⟩
         have hz' : ¬ (0 : Int) < (k : Int) := by omega
         clear hz
         go_wp2_with (first | (go_at_call 50; refine (SK.out _).mono ?_; rintro e w2 ⟨rfl, rfl⟩) | (go_at_call 47; refine (SI.out _).mono ?_; rintro e w2 ⟨rfl, rfl⟩))
         generalize (wr.alloc (.cells #[.string xs[k].1, .string xs[k].2.1, .bool true, .int .i64 xs[k].2.2.2] 106)) = W1 at *
         have hzd : decide (0 < k) = false := by simp; omega
         refine wp_region_held_drew (S := fun w' => w'.cell? ⟨wr.heap.size, 0, none⟩ = some (.string xs[k].1) ∧ w'.cell? ⟨wr.heap.size, 3, none⟩ = some (.int .i64 xs[k].2.2.2) ∧ w'.cell? ⟨b, off + m * 4, none⟩ = some (.string xs[m].1) ∧ w'.cell? ⟨b, off + m * 4 + 3, none⟩ = some (.int .i64 xs[m].2.2.2)) (by kernel_rfl) ⟨HX.out.c0, HX.out.c3, HPM.out.1, HPM.out.2.2.2⟩ (fun hHeld => ?_)
         (refine ti 0 ?_; simp only [Act.put, tA, tB, tD, tE, tF])
         (refine ti 1 ?_; simp only [Act.put, tA, tB, tC, tD, tE, tF])
         (refine ti 2 ?_; simp only [Act.put, tA, tB, tC, tD, tE, tF])
         (refine tu 3 ?_; simp only [Act.put, tA, tB, tC, tD, tE, tF])
         (refine tu 4 ?_; simp only [Act.put, tA, tB, tC, tD, tE, tF])
         (refine tu 5 ?_; simp only [Act.put, tA, tB, tC, tD, tE, tF])
         (refine tu 6 ?_; simp only [Act.put, tA, tB, tC, tD, tE, tF])
         (refine tu 7 ?_; simp only [Act.put, tA, tB, tC, tD, tE, tF])
         (refine tu 8 ?_; simp only [Act.put, tA, tB, tC, tD, tE, tF])
         (refine tu 9 ?_; simp only [Act.put, tA, tB, tC, tD, tE, tF])
         (refine tu 10 ?_; simp only [Act.put, tA, tB, tC, tD, tE, tF])
         (refine tu 11 ?_; simp only [Act.put, tA, tB, tC, tD, tE, tF])
         (refine tu 12 ?_; simp only [Act.put, tA, tB, tC, tD, tE, tF])
         (refine tu 13 ?_; simp only [Act.put, tA, tB, tC, tD, tE, tF])
         (refine tu 14 ?_; simp only [Act.put, tA, tB, tC, tD, tE, tF])
         (refine tu 15 ?_; simp only [Act.put, tA, tB, tC, tD, tE, tF])
         (refine tu 16 ?_; simp only [Act.put, tA, tB, tC, tD, tE, tF])
         (refine tu 17 ?_; simp only [Act.put, tA, tB, tC, tD, tE, tF])
         (refine tu 18 ?_; simp only [Act.put, tA, tB, tC, tD, tE, tF])
         (refine tu 19 ?_; simp only [Act.put, tA, tB, tC, tD, tE, tF])
         (refine tu 20 ?_; simp only [Act.put, tA, tB, tC, tD, tE, tF])
         (refine tu 21 ?_; simp only [Act.put, tA, tB, tC, tD, tE, tF])
         (refine tu 22 ?_; simp only [Act.put, tA, tB, tC, tD, tE, tF])
         (refine tu 23 ?_; simp only [Act.put, tA, tB, tC, tD, tE, tF])
         (refine tu 24 ?_; simp only [Act.put, tA, tB, tC, tD, tE, tF])
         (refine tu 25 ?_; simp only [Act.put, tA, tB, tC, tD, tE, tF])
         (refine tu 26 ?_; simp only [Act.put, tA, tB, tC, tD, tE, tF])
         (refine tu 27 ?_; simp only [Act.put, tA, tB, tC, tD, tE, tF])
         (refine tu 28 ?_; simp only [Act.put, tA, tB, tC, tD, tE, tF])
         (refine tu 29 ?_; simp only [Act.put, tA, tB, tC, tD, tE, tF])
         (refine tu 30 ?_; simp only [Act.put, tA, tB, tC, tD, tE, tF])
         (refine tu 31 ?_; simp only [Act.put, tA, tB, tC, tD, tE, tF])
         (refine tu 32 ?_; simp only [Act.put, tA, tB, tC, tD, tE, tF])
         (refine tu 33 ?_; simp only [Act.put, tA, tB, tC, tD, tE, tF])
         (refine ti 34 ?_; simp only [Act.put, tA, tB, tC, tD, tE, tF])
         refine wpAnyH_done (by kernel_rfl) ?_ _
         go_wp2
         go_roundw
         case rel => exact ⟨k + 1, by omega, by go_num, HG2, HB1.out.drew⟩
         case measure => simp [intOf]; omega
        ·cases hc1 : Op.bytesLess xs[m].1.toList xs[k].1.toList
         ·cases hc2 : (xs[m].1.toList == xs[k].1.toList)
          ·clear hw7
           have HX3 : Hid (0 < k ∧ m = k - 1) := ⟨by omega, HM.out⟩
           have HL : Hid (asc xs[m] xs[k] = false) := asc_no hc1 hc2
           have HN : Hid (versB xs = false) := goodv_no k hlt (fun h => by have h2 := h.2 (by omega); simp only [← EM.out] at h2; rw [HL.out] at h2; cases h2)
           go_wp2_with (first | (go_at_call 50; refine (SK.out _).mono ?_; rintro e w2 ⟨rfl, rfl⟩) | (go_at_call 47; refine (SI.out _).mono ?_; rintro e w2 ⟨rfl, rfl⟩))
           generalize (wr.alloc (.cells #[.string xs[k].1, .string xs[k].2.1, .bool true, .int .i64 xs[k].2.2.2] 106)) = W1 at *
           have hzd : decide (0 < k) = true := by have := HX3.out; simp; omega
           have e9 : IntKind.i64.wrap ((k : Int) - 1) = (m : Int) := by have := HX3.out; rw [IntKind.wrap_i64]; omega
           have e10 : (k : Int) - 1 = (m : Int) := by have := HX3.out; omega
           have e11 : IntKind.i64.wrap (m : Int) = (m : Int) := by rw [IntKind.wrap_i64]; omega
           refine wp_region_held_drew (S := fun w' => w'.cell? ⟨wr.heap.size, 0, none⟩ = some (.string xs[k].1) ∧ w'.cell? ⟨wr.heap.size, 3, none⟩ = some (.int .i64 xs[k].2.2.2) ∧ w'.cell? ⟨b, off + m * 4, none⟩ = some (.string xs[m].1) ∧ w'.cell? ⟨b, off + m * 4 + 3, none⟩ = some (.int .i64 xs[m].2.2.2)) (by kernel_rfl) ⟨HX.out.c0, HX.out.c3, HPM.out.1, HPM.out.2.2.2⟩ (fun hHeld => ?_)
           (refine ti 0 ?_; simp only [Act.put, tA, tB, tD, tE, tF])
           (refine ti 1 ?_; simp only [Act.put, tA, tB, tC, tD, tE, tF])
           (refine ti 2 ?_; simp only [Act.put, tA, tB, tC, tD, tE, tF])
           (refine ti 3 ?_; simp only [Act.put, tA, tB, tC, tD, tE, tF])
           (refine ti 4 ?_; simp only [Act.put, tA, tB, tC, tD, tE, tF])
           (refine ti 5 ?_; simp only [Act.put, tA, tB, tC, tD, tE, tF])
           (refine ti 6 ?_; simp only [Act.put, tA, tB, tC, tD, tE, tF])
           (refine ti 7 ?_; simp only [Act.put, tA, tB, tC, tD, tE, tF])
           (refine ti 8 ?_; simp only [Act.put, tA, tB, tC, tD, tE, tF])
           (refine ti 9 ?_; simp only [Act.put, tA, tB, tC, tD, tE, tF])
           (refine ti 10 ?_; simp only [Act.put, tA, tB, tC, tD, tE, tF])
           (refine ti 11 ?_; simp only [Act.put, tA, tB, tC, tD, tE, tF])
           (refine ti 12 ?_; simp only [Act.put, tA, tB, tC, tD, tE, tF])
           (refine tu 13 ?_; simp only [Act.put, tA, tB, tC, tD, tE, tF])
           (refine tu 14 ?_; simp only [Act.put, tA, tB, tC, tD, tE, tF])
           (refine tu 15 ?_; simp only [Act.put, tA, tB, tC, tD, tE, tF])
           (refine tu 16 ?_; simp only [Act.put, tA, tB, tC, tD, tE, tF])
           (refine tu 17 ?_; simp only [Act.put, tA, tB, tC, tD, tE, tF])
           (refine tu 18 ?_; simp only [Act.put, tA, tB, tC, tD, tE, tF])
           (refine tu 19 ?_; simp only [Act.put, tA, tB, tC, tD, tE, tF])
           (refine tu 20 ?_; simp only [Act.put, tA, tB, tC, tD, tE, tF])
           (refine tu 21 ?_; simp only [Act.put, tA, tB, tC, tD, tE, tF])
           (refine tu 22 ?_; simp only [Act.put, tA, tB, tC, tD, tE, tF])
           (refine tu 23 ?_; simp only [Act.put, tA, tB, tC, tD, tE, tF])
           (refine tu 24 ?_; simp only [Act.put, tA, tB, tC, tD, tE, tF])
           (refine tu 25 ?_; simp only [Act.put, tA, tB, tC, tD, tE, tF])
           (refine tu 26 ?_; simp only [Act.put, tA, tB, tC, tD, tE, tF])
           (refine tu 27 ?_; simp only [Act.put, tA, tB, tC, tD, tE, tF])
           (refine tu 28 ?_; simp only [Act.put, tA, tB, tC, tD, tE, tF])
           (refine tu 29 ?_; simp only [Act.put, tA, tB, tC, tD, tE, tF])
           (refine tu 30 ?_; simp only [Act.put, tA, tB, tC, tD, tE, tF])
           (refine tu 31 ?_; simp only [Act.put, tA, tB, tC, tD, tE, tF])
           (refine tu 32 ?_; simp only [Act.put, tA, tB, tC, tD, tE, tF])
           (refine ti 33 ?_; simp only [Act.put, tA, tB, tC, tD, tE, tF])
           (refine ti 34 ?_; simp only [Act.put, tA, tB, tC, tD, tE, tF])
           refine wpAnyH_done (by kernel_rfl) ?_ _
           go_wp2
           go_ret
           exact ⟨ret_bool HN.out.symm, HB1.out.drew⟩
          ·cases hc3 : decide (xs[k].2.2.2 ≤ xs[m].2.2.2)
           ·clear hw7
            have HX3 : Hid (0 < k ∧ m = k - 1) := ⟨by omega, HM.out⟩
            have HL : Hid (asc xs[m] xs[k] = true) := by show _ = _; rw [asc_eq hc2]; simpa using hc3
            have HG2 : Hid (GoodV xs (k + 1)) := goodv_more HG.out hlt ⟨HW.out, fun h => by simp only [← EM.out]; exact HL.out⟩
            go_wp2_with (first | (go_at_call 50; refine (SK.out _).mono ?_; rintro e w2 ⟨rfl, rfl⟩) | (go_at_call 47; refine (SI.out _).mono ?_; rintro e w2 ⟨rfl, rfl⟩))
            generalize (wr.alloc (.cells #[.string xs[k].1, .string xs[k].2.1, .bool true, .int .i64 xs[k].2.2.2] 106)) = W1 at *
            have hzd : decide (0 < k) = true := by have := HX3.out; simp; omega
            have e9 : IntKind.i64.wrap ((k : Int) - 1) = (m : Int) := by have := HX3.out; rw [IntKind.wrap_i64]; omega
            have e10 : (k : Int) - 1 = (m : Int) := by have := HX3.out; omega
            have e11 : IntKind.i64.wrap (m : Int) = (m : Int) := by rw [IntKind.wrap_i64]; omega
            refine wp_region_held_drew (S := fun w' => w'.cell? ⟨wr.heap.size, 0, none⟩ = some (.string xs[k].1) ∧ w'.cell? ⟨wr.heap.size, 3, none⟩ = some (.int .i64 xs[k].2.2.2) ∧ w'.cell? ⟨b, off + m * 4, none⟩ = some (.string xs[m].1) ∧ w'.cell? ⟨b, off + m * 4 + 3, none⟩ = some (.int .i64 xs[m].2.2.2)) (by kernel_rfl) ⟨HX.out.c0, HX.out.c3, HPM.out.1, HPM.out.2.2.2⟩ (fun hHeld => ?_)
            (refine ti 0 ?_; simp only [Act.put, tA, tB, tD, tE, tF])
            (refine ti 1 ?_; simp only [Act.put, tA, tB, tC, tD, tE, tF])
            (refine ti 2 ?_; simp only [Act.put, tA, tB, tC, tD, tE, tF])
            (refine ti 3 ?_; simp only [Act.put, tA, tB, tC, tD, tE, tF])
            (refine ti 4 ?_; simp only [Act.put, tA, tB, tC, tD, tE, tF])
            (refine ti 5 ?_; simp only [Act.put, tA, tB, tC, tD, tE, tF])
            (refine ti 6 ?_; simp only [Act.put, tA, tB, tC, tD, tE, tF])
            (refine ti 7 ?_; simp only [Act.put, tA, tB, tC, tD, tE, tF])
            (refine ti 8 ?_; simp only [Act.put, tA, tB, tC, tD, tE, tF])
            (refine ti 9 ?_; simp only [Act.put, tA, tB, tC, tD, tE, tF])
            (refine ti 10 ?_; simp only [Act.put, tA, tB, tC, tD, tE, tF])
            (refine ti 11 ?_; simp only [Act.put, tA, tB, tC, tD, tE, tF])
            (refine ti 12 ?_; simp only [Act.put, tA, tB, tC, tD, tE, tF])
            (refine ti 13 ?_; simp only [Act.put, tA, tB, tC, tD, tE, tF])
            (refine ti 14 ?_; simp only [Act.put, tA, tB, tC, tD, tE, tF])
            (refine ti 15 ?_; simp only [Act.put, tA, tB, tC, tD, tE, tF])
            (refine ti 16 ?_; simp only [Act.put, tA, tB, tC, tD, tE, tF])
            (refine ti 17 ?_; simp only [Act.put, tA, tB, tC, tD, tE, tF])
            (refine ti 18 ?_; simp only [Act.put, tA, tB, tC, tD, tE, tF])
            (refine ti 19 ?_; simp only [Act.put, tA, tB, tC, tD, tE, tF])
            (refine ti 20 ?_; simp only [Act.put, tA, tB, tC, tD, tE, tF])
            (refine ti 21 ?_; simp only [Act.put, tA, tB, tC, tD, tE, tF])
            (refine ti 22 ?_; simp only [Act.put, tA, tB, tC, tD, tE, tF])
            (refine ti 23 ?_; simp only [Act.put, tA, tB, tC, tD, tE, tF])
            (refine ti 24 ?_; simp only [Act.put, tA, tB, tC, tD, tE, tF])
            (refine ti 25 ?_; simp only [Act.put, tA, tB, tC, tD, tE, tF])
            (refine ti 26 ?_; simp only [Act.put, tA, tB, tC, tD, tE, tF])
            (refine ti 27 ?_; simp only [Act.put, tA, tB, tC, tD, tE, tF])
            (refine ti 28 ?_; simp only [Act.put, tA, tB, tC, tD, tE, tF])
            (refine ti 29 ?_; simp only [Act.put, tA, tB, tC, tD, tE, tF])
            (refine ti 30 ?_; simp only [Act.put, tA, tB, tC, tD, tE, tF])
            (refine ti 31 ?_; simp only [Act.put, tA, tB, tC, tD, tE, tF])
            (refine ti 32 ?_; simp only [Act.put, tA, tB, tC, tD, tE, tF])
            (refine ti 33 ?_; simp only [Act.put, tA, tB, tC, tD, tE, tF])
            (refine ti 34 ?_; simp only [Act.put, tA, tB, tC, tD, tE, tF])
            refine wpAnyH_done (by kernel_rfl) ?_ _
            go_wp2
            go_roundw
            case rel => exact ⟨k + 1, by omega, by go_num, HG2, HB1.out.drew⟩
            case measure => simp [intOf]; omega
           ·clear hw7
            have HX3 : Hid (0 < k ∧ m = k - 1) := ⟨by omega, HM.out⟩
            have HL : Hid (asc xs[m] xs[k] = false) := by show _ = _; rw [asc_eq hc2]; simpa using hc3
            have HN : Hid (versB xs = false) := goodv_no k hlt (fun h => by have h2 := h.2 (by omega); simp only [← EM.out] at h2; rw [HL.out] at h2; cases h2)
            go_wp2_with (first | (go_at_call 50; refine (SK.out _).mono ?_; rintro e w2 ⟨rfl, rfl⟩) | (go_at_call 47; refine (SI.out _).mono ?_; rintro e w2 ⟨rfl, rfl⟩))
            generalize (wr.alloc (.cells #[.string xs[k].1, .string xs[k].2.1, .bool true, .int .i64 xs[k].2.2.2] 106)) = W1 at *
            have hzd : decide (0 < k) = true := by have := HX3.out; simp; omega
            have e9 : IntKind.i64.wrap ((k : Int) - 1) = (m : Int) := by have := HX3.out; rw [IntKind.wrap_i64]; omega
            have e10 : (k : Int) - 1 = (m : Int) := by have := HX3.out; omega
            have e11 : IntKind.i64.wrap (m : Int) = (m : Int) := by rw [IntKind.wrap_i64]; omega
            refine wp_region_held_drew (S := fun w' => w'.cell? ⟨wr.heap.size, 0, none⟩ = some (.string xs[k].1) ∧ w'.cell? ⟨wr.heap.size, 3, none⟩ = some (.int .i64 xs[k].2.2.2) ∧ w'.cell? ⟨b, off + m * 4, none⟩ = some (.string xs[m].1) ∧ w'.cell? ⟨b, off + m * 4 + 3, none⟩ = some (.int .i64 xs[m].2.2.2)) (by kernel_rfl) ⟨HX.out.c0, HX.out.c3, HPM.out.1, HPM.out.2.2.2⟩ (fun hHeld => ?_)
            (refine ti 0 ?_; simp only [Act.put, tA, tB, tD, tE, tF])
            (refine ti 1 ?_; simp only [Act.put, tA, tB, tC, tD, tE, tF])
            (refine ti 2 ?_; simp only [Act.put, tA, tB, tC, tD, tE, tF])
            (refine ti 3 ?_; simp only [Act.put, tA, tB, tC, tD, tE, tF])
            (refine ti 4 ?_; simp only [Act.put, tA, tB, tC, tD, tE, tF])
            (refine ti 5 ?_; simp only [Act.put, tA, tB, tC, tD, tE, tF])
            (refine ti 6 ?_; simp only [Act.put, tA, tB, tC, tD, tE, tF])
            (refine ti 7 ?_; simp only [Act.put, tA, tB, tC, tD, tE, tF])
            (refine ti 8 ?_; simp only [Act.put, tA, tB, tC, tD, tE, tF])
            (refine ti 9 ?_; simp only [Act.put, tA, tB, tC, tD, tE, tF])
            (refine ti 10 ?_; simp only [Act.put, tA, tB, tC, tD, tE, tF])
            (refine ti 11 ?_; simp only [Act.put, tA, tB, tC, tD, tE, tF])
            (refine ti 12 ?_; simp only [Act.put, tA, tB, tC, tD, tE, tF])
            (refine ti 13 ?_; simp only [Act.put, tA, tB, tC, tD, tE, tF])
            (refine ti 14 ?_; simp only [Act.put, tA, tB, tC, tD, tE, tF])
            (refine ti 15 ?_; simp only [Act.put, tA, tB, tC, tD, tE, tF])
            (refine ti 16 ?_; simp only [Act.put, tA, tB, tC, tD, tE, tF])
            (refine ti 17 ?_; simp only [Act.put, tA, tB, tC, tD, tE, tF])
            (refine ti 18 ?_; simp only [Act.put, tA, tB, tC, tD, tE, tF])
            (refine ti 19 ?_; simp only [Act.put, tA, tB, tC, tD, tE, tF])
            (refine ti 20 ?_; simp only [Act.put, tA, tB, tC, tD, tE, tF])
            (refine ti 21 ?_; simp only [Act.put, tA, tB, tC, tD, tE, tF])
            (refine ti 22 ?_; simp only [Act.put, tA, tB, tC, tD, tE, tF])
            (refine ti 23 ?_; simp only [Act.put, tA, tB, tC, tD, tE, tF])
            (refine ti 24 ?_; simp only [Act.put, tA, tB, tC, tD, tE, tF])
            (refine ti 25 ?_; simp only [Act.put, tA, tB, tC, tD, tE, tF])
            (refine ti 26 ?_; simp only [Act.put, tA, tB, tC, tD, tE, tF])
            (refine ti 27 ?_; simp only [Act.put, tA, tB, tC, tD, tE, tF])
            (refine ti 28 ?_; simp only [Act.put, tA, tB, tC, tD, tE, tF])
            (refine ti 29 ?_; simp only [Act.put, tA, tB, tC, tD, tE, tF])
            (refine ti 30 ?_; simp only [Act.put, tA, tB, tC, tD, tE, tF])
            (refine ti 31 ?_; simp only [Act.put, tA, tB, tC, tD, tE, tF])
            (refine ti 32 ?_; simp only [Act.put, tA, tB, tC, tD, tE, tF])
            (refine ti 33 ?_; simp only [Act.put, tA, tB, tC, tD, tE, tF])
            (refine ti 34 ?_; simp only [Act.put, tA, tB, tC, tD, tE, tF])
            refine wpAnyH_done (by kernel_rfl) ?_ _
            go_wp2
            go_ret
            exact ⟨ret_bool HN.out.symm, HB1.out.drew⟩
         ·have hc2 : (xs[m].1.toList == xs[k].1.toList) = false := by rw [beq_eq_false_iff_ne]; intro e; rw [e, less_irrefl] at hc1; cases hc1
          clear hw7
          have HX3 : Hid (0 < k ∧ m = k - 1) := ⟨by omega, HM.out⟩
          have HL : Hid (asc xs[m] xs[k] = true) := asc_lt hc1
          have HG2 : Hid (GoodV xs (k + 1)) := goodv_more HG.out hlt ⟨HW.out, fun h => by simp only [← EM.out]; exact HL.out⟩
          go_wp2_with (first | (go_at_call 50; refine (SK.out _).mono ?_; rintro e w2 ⟨rfl, rfl⟩) | (go_at_call 47; refine (SI.out _).mono ?_; rintro e w2 ⟨rfl, rfl⟩))
          generalize (wr.alloc (.cells #[.string xs[k].1, .string xs[k].2.1, .bool true, .int .i64 xs[k].2.2.2] 106)) = W1 at *
          have hzd : decide (0 < k) = true := by have := HX3.out; simp; omega
          have e9 : IntKind.i64.wrap ((k : Int) - 1) = (m : Int) := by have := HX3.out; rw [IntKind.wrap_i64]; omega
          have e10 : (k : Int) - 1 = (m : Int) := by have := HX3.out; omega
          have e11 : IntKind.i64.wrap (m : Int) = (m : Int) := by rw [IntKind.wrap_i64]; omega
          refine wp_region_held_drew (S := fun w' => w'.cell? ⟨wr.heap.size, 0, none⟩ = some (.string xs[k].1) ∧ w'.cell? ⟨wr.heap.size, 3, none⟩ = some (.int .i64 xs[k].2.2.2) ∧ w'.cell? ⟨b, off + m * 4, none⟩ = some (.string xs[m].1) ∧ w'.cell? ⟨b, off + m * 4 + 3, none⟩ = some (.int .i64 xs[m].2.2.2)) (by kernel_rfl) ⟨HX.out.c0, HX.out.c3, HPM.out.1, HPM.out.2.2.2⟩ (fun hHeld => ?_)
          (refine ti 0 ?_; simp only [Act.put, tA, tB, tD, tE, tF])
          (refine ti 1 ?_; simp only [Act.put, tA, tB, tC, tD, tE, tF])
          (refine ti 2 ?_; simp only [Act.put, tA, tB, tC, tD, tE, tF])
          (refine ti 3 ?_; simp only [Act.put, tA, tB, tC, tD, tE, tF])
          (refine ti 4 ?_; simp only [Act.put, tA, tB, tC, tD, tE, tF])
          (refine ti 5 ?_; simp only [Act.put, tA, tB, tC, tD, tE, tF])
          (refine ti 6 ?_; simp only [Act.put, tA, tB, tC, tD, tE, tF])
          (refine ti 7 ?_; simp only [Act.put, tA, tB, tC, tD, tE, tF])
          (refine ti 8 ?_; simp only [Act.put, tA, tB, tC, tD, tE, tF])
          (refine ti 9 ?_; simp only [Act.put, tA, tB, tC, tD, tE, tF])
          (refine ti 10 ?_; simp only [Act.put, tA, tB, tC, tD, tE, tF])
          (refine ti 11 ?_; simp only [Act.put, tA, tB, tC, tD, tE, tF])
          (refine ti 12 ?_; simp only [Act.put, tA, tB, tC, tD, tE, tF])
          (refine ti 13 ?_; simp only [Act.put, tA, tB, tC, tD, tE, tF])
          (refine ti 14 ?_; simp only [Act.put, tA, tB, tC, tD, tE, tF])
          (refine ti 15 ?_; simp only [Act.put, tA, tB, tC, tD, tE, tF])
          (refine ti 16 ?_; simp only [Act.put, tA, tB, tC, tD, tE, tF])
          (refine ti 17 ?_; simp only [Act.put, tA, tB, tC, tD, tE, tF])
          (refine ti 18 ?_; simp only [Act.put, tA, tB, tC, tD, tE, tF])
          (refine ti 19 ?_; simp only [Act.put, tA, tB, tC, tD, tE, tF])
          (refine ti 20 ?_; simp only [Act.put, tA, tB, tC, tD, tE, tF])
          (refine ti 21 ?_; simp only [Act.put, tA, tB, tC, tD, tE, tF])
          (refine ti 22 ?_; simp only [Act.put, tA, tB, tC, tD, tE, tF])
          (refine tu 23 ?_; simp only [Act.put, tA, tB, tC, tD, tE, tF])
          (refine tu 24 ?_; simp only [Act.put, tA, tB, tC, tD, tE, tF])
          (refine tu 25 ?_; simp only [Act.put, tA, tB, tC, tD, tE, tF])
          (refine tu 26 ?_; simp only [Act.put, tA, tB, tC, tD, tE, tF])
          (refine tu 27 ?_; simp only [Act.put, tA, tB, tC, tD, tE, tF])
          (refine tu 28 ?_; simp only [Act.put, tA, tB, tC, tD, tE, tF])
          (refine tu 29 ?_; simp only [Act.put, tA, tB, tC, tD, tE, tF])
          (refine tu 30 ?_; simp only [Act.put, tA, tB, tC, tD, tE, tF])
          (refine tu 31 ?_; simp only [Act.put, tA, tB, tC, tD, tE, tF])
          (refine ti 32 ?_; simp only [Act.put, tA, tB, tC, tD, tE, tF])
          (refine ti 33 ?_; simp only [Act.put, tA, tB, tC, tD, tE, tF])
          (refine ti 34 ?_; simp only [Act.put, tA, tB, tC, tD, tE, tF])
          refine wpAnyH_done (by kernel_rfl) ?_ _
          go_wp2
          go_roundw
          case rel => exact ⟨k + 1, by omega, by go_num, HG2, HB1.out.drew⟩
          case measure => simp [intOf]; omega
    ·have hs' : (12 : Int) < (xs[k].2.1.size : Int) := by omega
     have HN : Hid (versB xs = false) := hw7 true (by rw [HV.out]; simp [hs])
     clear hw7 hs
     go_wp2_with (first | (go_at_call 50; refine (SK.out _).mono ?_; rintro e w2 ⟨rfl, rfl⟩) | (go_at_call 47; refine (SI.out _).mono ?_; rintro e w2 ⟨rfl, rfl⟩))
     go_ret
     exact ⟨ret_bool HN.out.symm, HB1.out⟩
  ·have hlt' : ¬ (k : Int) < (xs.length : Int) := by omega
   have HT : Hid (decide ((xs.length : Int) ≤ 120) = versB xs) := by show _ = _; rw [← goodv_whole HG.out (by omega), decide_eq_decide]; omega
   go_wp2
   go_ret
   exact ⟨ret_bool HT.out, HB.out⟩
end Go.Proofs.YtpnnncfbodfnhaaGreatDoor

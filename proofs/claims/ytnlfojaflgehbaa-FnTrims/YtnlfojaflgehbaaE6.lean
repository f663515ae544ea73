/- The law FnSeen, walked. -/
import Derived.Test.YtnlfojaflgehbaaU5
import Derived.Test.YtnlfojaflgehbaaU6
import Derived.Test.YtnlfojaflgehbaaE2
import Derived.Test.YtnlfojaflgehbaaH3
namespace Go.Proofs.Ytnlfojaflgehbaa
open Go.RowKit
open KM
open VM
attribute [local go_sem ↓] Go.wp_at_zero Go.wp_at_succ

theorem gone_empty {x : Wt} (h : writeB x = true) (hg : x.2.2 = true) : x.2.1 = ⟨#[]⟩ := by
  unfold writeB at h
  simp only [Bool.and_eq_true, hg] at h
  simp at h
  refine toList_inj ?_
  rw [h.2]
  exact (toList_data ⟨#[]⟩).symm
theorem saw_put {xs : List Vr} {ws : List Wt} (h : VsD 8 xs) (hw : WsD ws) {y : Wt} (hy : y ∈ ws) : sawB (seenB (putV xs ws 50) y.1 50) = .tuple #[.string y.2.1, .bool (!y.2.2)] := by
  have e := seen_put h hw (cs := 50) (by omega) (by omega) (by omega) hy
  unfold seenB
  rw [e]
  cases hg : y.2.2
  · show sawB (if y.2.2 = true then none else some y.2.1) = _
    rw [hg]; rfl
  · show sawB (if y.2.2 = true then none else some y.2.1) = _
    rw [hg, gone_empty (hw.1 y hy).1 hg]; rfl
theorem scan_len {xs : List Vr} {r : Rg} {s : Int} : (scanB xs r s).length ≤ xs.length := by
  unfold scanB
  refine Nat.le_trans (List.length_filterMap_le _ _) (Nat.le_trans (keys_len _) ?_)
  rw [List.length_map]
  exact Nat.le_refl _
theorem beq_self_b (b : Bool) : (b == b) = true := by cases b <;> rfl
theorem beq_self_t (t : ByteArray) : (t.toList == t.toList) = true := by simp

set_option maxRecDepth 100000 in
set_option maxHeartbeats 4000000 in
theorem law3 (len cap : Nat) (a : Option Addr) (w : World) (hl0 : len ≤ 9223372036854775807) (hr : CodeRow w a len) :
    Calls Try.prog 3 #[.slice a len cap] w fun e w' => e = .returned (.bool true) ∧ Below w.heap.size w w' := by
  have HBG : Hid (∀ W : World, Calls Try.prog 10 #[.slice a len cap] W fun e w' => e = .returned (.bool (decide ((1048576 : Int) < (len : Int)))) ∧ w' = W) := fun W => big10 len cap a W
  have HR : Hid (CodeRow w a len) := hr
  clear hr
  by_cases hl : len ≤ 1048576
  · rw [decide_eq_false (by omega)] at HBG
    go_enter Try.func3, Try.ntmps3
    go_wp2_with fail
    refine (HBG.out _).mono ?_
    rintro e w ⟨rfl, rfl⟩
    go_wp2_with fail
    refine (dVersions len cap a hl _ HR.out).mono ?_
    rintro e w1 ⟨xs, a1, c1, hv, hxl, rfl, ho1, hb1⟩
    have HV : Hid (VsD 8 xs) := hv
    have X1 : Hid (GRow encV w1 a1 xs) := ho1.grow
    have HB1 : Hid (Below w.heap.size w w1) := hb1
    clear hv ho1 hb1
    go_wp2_with fail
    refine (dWrites len cap a hl _ (HR.out.below HB1.out)).mono ?_
    rintro e w2 ⟨ws, a2, c2, hw, hwl, rfl, ho2, hb2⟩
    have HW : Hid (WsD ws) := hw
    have Y2 : Hid (GRow encW w2 a2 ws) := ho2.grow
    have X2 : Hid (GRow encV w2 a1 xs) := X1.out.below hb2
    have HB2 : Hid (Below w.heap.size w w2) := HB1.out.trans (hb2.mono HB1.out.size)
    clear hw ho2 hb2 X1 HB1
    go_wp2_with fail
    refine (iputv xs ws a1 a2 _ _ 50 (by omega) (by omega) HV.out.fit HW.out.fit (HV.out.ne (by omega)) HW.out.ne _ X2.out Y2.out).mono ?_
    rintro e w3 ⟨a3, c3, rfl, ho3, hb3⟩
    have HVo : Hid (VsD 50 (putV xs ws 50)) := vsd_put HV.out HW.out (by omega) (by omega) (by omega)
    have HOl : Hid ((putV xs ws 50).length = xs.length + ws.length) := put_len xs 50 ws
    have hol : (putV xs ws 50).length ≤ 27 := by have := HOl.out; omega
    have HSo : Hid (∀ y ∈ ws, sawB (seenB (putV xs ws 50) y.1 50) = .tuple #[.string y.2.1, .bool (!y.2.2)]) := fun y hy => saw_put HV.out HW.out hy
    have HSb : Hid (∀ k, seenB (putV xs ws 50) k 49 = seenB xs k 49) := fun k => seenB_of (seen_below (by omega) k)
    have HSc : Hid (scanB (putV xs ws 50) allR 49 = scanB xs allR 49) := scan_below (by omega)
    generalize putV xs ws 50 = o at *
    have Z3 : Hid (GRow encV w3 a3 o) := ho3.grow
    have X3 : Hid (GRow encV w3 a1 xs) := X2.out.below hb3
    have Y3 : Hid (GRow encW w3 a2 ws) := Y2.out.below hb3
    have HB3 : Hid (Below w.heap.size w w3) := HB2.out.trans (hb3.mono HB2.out.size)
    clear ho3 hb3 X2 Y2 HB2
    go_wp2
    go_loopw [6] (fun t wr => ∃ i : Nat, i ≤ ws.length ∧ t = .int .i64 i ∧ Hid (GRow encV wr a1 xs) ∧ Hid (GRow encW wr a2 ws) ∧ Hid (GRow encV wr a3 o) ∧ Hid (Below w.heap.size w wr)) (fun t _ => ws.length - (intOf t).toNat)
    case atStart => exact ⟨0, Nat.zero_le _, rfl, X3, Y3, Z3, HB3⟩
    case round =>
      clear X3 Y3 Z3 HB3
      obtain ⟨i, hi, rfl, X, Y, Z, HB⟩ := hrel
      by_cases hlt : i < ws.length
      · have hlt' : (i : Int) < (ws.length : Int) := by omega
        have hi0 : (0 : Int) ≤ (i : Int) := by omega
        obtain ⟨b, off, rfl, hbl, hc⟩ := Y.out (by omega)
        have d0 := (wat hc i hlt).1
        clear hc
        have HS1 : Hid (sawB (seenB o ws[i].1 50) = .tuple #[.string ws[i].2.1, .bool (!ws[i].2.2)]) := HSo.out _ (List.getElem_mem hlt)
        obtain ⟨t, q, hs⟩ := saw_parts (seenB xs ws[i].1 49)
        have HS2 : Hid (sawB (seenB o ws[i].1 49) = .tuple #[.string t, .bool q]) := by show _ = _; rw [HSb.out, hs]
        have HS3 : Hid (sawB (seenB xs ws[i].1 49) = .tuple #[.string t, .bool q]) := hs
        clear hs
        have hqn := bne_self' q
        have htn := bne_text t
        have hvn := bne_text ws[i].2.1
        go_wp2_with fail
        refine (iseen o a3 _ ws[i].1 50 (by omega) HVo.out.fit _ Z.out).mono ?_
        rintro e w4 ⟨rfl, hb4⟩
        rw [HS1.out]
        have X4 : Hid (GRow encV w4 a1 xs) := X.out.below hb4
        have Y4 : Hid (GRow encW w4 (some ⟨b, off, none⟩) ws) := Y.out.below hb4
        have Z4 : Hid (GRow encV w4 a3 o) := Z.out.below hb4
        have HB4 : Hid (Below w.heap.size w w4) := HB.out.trans (hb4.mono HB.out.size)
        clear hb4 d0 hbl X Y Z HB
        obtain ⟨_, _, e4, _, hc⟩ := Y4.out (by omega)
        cases e4
        have d0 := (wat hc i hlt).1
        clear hc
        go_wp2_with fail
        refine (iseen o a3 _ ws[i].1 49 (by omega) HVo.out.fit _ Z4.out).mono ?_
        rintro e w5 ⟨rfl, hb5⟩
        rw [HS2.out]
        have X5 : Hid (GRow encV w5 a1 xs) := X4.out.below hb5
        have Y5 : Hid (GRow encW w5 (some ⟨b, off, none⟩) ws) := Y4.out.below hb5
        have Z5 : Hid (GRow encV w5 a3 o) := Z4.out.below hb5
        have HB5 : Hid (Below w.heap.size w w5) := HB4.out.trans (hb5.mono HB4.out.size)
        clear hb5 d0 X4 Y4 Z4 HB4
        obtain ⟨_, _, e4, _, hc⟩ := Y5.out (by omega)
        cases e4
        have d0 := (wat hc i hlt).1
        clear hc
        go_wp2_with fail
        refine (iseen xs a1 _ ws[i].1 49 (by omega) HV.out.fit _ X5.out).mono ?_
        rintro e w6 ⟨rfl, hb6⟩
        rw [HS3.out]
        have X6 : Hid (GRow encV w6 a1 xs) := X5.out.below hb6
        have Y6 : Hid (GRow encW w6 (some ⟨b, off, none⟩) ws) := Y5.out.below hb6
        have Z6 : Hid (GRow encV w6 a3 o) := Z5.out.below hb6
        have HB6 : Hid (Below w.heap.size w w6) := HB5.out.trans (hb6.mono HB5.out.size)
        clear hb6 d0 X5 Y5 Z5 HB5
        obtain ⟨_, _, e4, _, hc⟩ := Y6.out (by omega)
        cases e4
        have d1 := (wat hc i hlt).2.1
        have d2 := (wat hc i hlt).2.2
        clear hc
        generalize ws[i].2.2 = gq at *
        cases gq
        · go_wp2
          go_roundw
          case rel => exact ⟨i + 1, by omega, by go_num, X6, Y6, Z6, HB6⟩
          case measure => simp [intOf]; omega
        · go_wp2
          go_roundw
          case rel => exact ⟨i + 1, by omega, by go_num, X6, Y6, Z6, HB6⟩
          case measure => simp [intOf]; omega
      · have hlt' : ¬ (i : Int) < (ws.length : Int) := by omega
        go_wp2_with fail
        refine (dSeenAt len cap a hl _ (HR.out.below HB.out)).mono ?_
        rintro e w4 ⟨ys, a4, c4, k, s, hf, hyl, hks, hsl, rfl, ho4, hb4⟩
        have U4 : Hid (GRow encV w4 a4 ys) := ho4.grow
        have HF : Hid (VFit ys) := hf
        have X4 : Hid (GRow encV w4 a1 xs) := X.out.below hb4
        have Z4 : Hid (GRow encV w4 a3 o) := Z.out.below hb4
        have HB4 : Hid (Below w.heap.size w w4) := HB.out.trans (hb4.mono HB.out.size)
        clear hb4 X Y Z HB hf ho4
        obtain ⟨t, q, hs⟩ := saw_parts (seenB ys k (s : Int))
        have HS : Hid (sawB (seenB ys k (s : Int)) = .tuple #[.string t, .bool q]) := hs
        clear hs
        have hqn := beq_self_b q
        have htn := beq_self_t t
        go_wp2_with fail
        refine (iseen ys a4 _ k (s : Int) (by omega) HF.out _ U4.out).mono ?_
        rintro e w5 ⟨rfl, hb5⟩
        rw [HS.out]
        have U5 : Hid (GRow encV w5 a4 ys) := U4.out.below hb5
        have X5 : Hid (GRow encV w5 a1 xs) := X4.out.below hb5
        have Z5 : Hid (GRow encV w5 a3 o) := Z4.out.below hb5
        have HB5 : Hid (Below w.heap.size w w5) := HB4.out.trans (hb5.mono HB4.out.size)
        clear hb5 X4 Z4 HB4 U4
        go_wp2_with fail
        refine (sseen ys a4 _ k (s : Int) (by omega) _ U5.out).mono ?_
        rintro e w6 ⟨rfl, hb6⟩
        rw [HS.out]
        have X6 : Hid (GRow encV w6 a1 xs) := X5.out.below hb6
        have Z6 : Hid (GRow encV w6 a3 o) := Z5.out.below hb6
        have HB6 : Hid (Below w.heap.size w w6) := HB5.out.trans (hb6.mono HB5.out.size)
        clear hb6 X5 Z5 HB5 U5
        have HVb : Hid (versB o = true) := HVo.out.versB (by omega)
        go_wp2_with fail
        refine (ivers o a3 _ (by omega) _ Z6.out).mono ?_
        rintro e w7 ⟨rfl, hb7⟩
        rw [HVb.out]
        have X7 : Hid (GRow encV w7 a1 xs) := X6.out.below hb7
        have Z7 : Hid (GRow encV w7 a3 o) := Z6.out.below hb7
        have HB7 : Hid (Below w.heap.size w w7) := HB6.out.trans (hb7.mono HB6.out.size)
        clear hb7 X6 Z6 HB6
        have hle : ((o.length : Int) == (xs.length : Int) + (ws.length : Int)) = true := by have := HOl.out; simp; omega
        go_wp2_with fail
        refine (all20 _).mono ?_
        rintro e w8 ⟨rfl, hb8⟩
        have X8 : Hid (GRow encV w8 a1 xs) := X7.out.below hb8
        have Z8 : Hid (GRow encV w8 a3 o) := Z7.out.below hb8
        have HB8 : Hid (Below w.heap.size w w8) := HB7.out.trans (hb8.mono HB7.out.size)
        clear hb8 X7 Z7 HB7
        go_wp2_with fail
        refine (iscan o a3 _ allR 49 (by omega) HVo.out.fit _ Z8.out).mono ?_
        rintro e w9 ⟨a5, c5, rfl, ho5, hb9⟩
        rw [HSc.out] at ho5 ⊢
        have P9 : Hid (GRow encR w9 a5 (scanB xs allR 49)) := ho5.grow
        have X9 : Hid (GRow encV w9 a1 xs) := X8.out.below hb9
        have HB9 : Hid (Below w.heap.size w w9) := HB8.out.trans (hb9.mono HB8.out.size)
        clear hb9 X8 Z8 HB8 ho5
        go_wp2_with fail
        refine (all20 _).mono ?_
        rintro e w10 ⟨rfl, hb10⟩
        have X10 : Hid (GRow encV w10 a1 xs) := X9.out.below hb10
        have P10 : Hid (GRow encR w10 a5 (scanB xs allR 49)) := P9.out.below hb10
        have HB10 : Hid (Below w.heap.size w w10) := HB9.out.trans (hb10.mono HB9.out.size)
        clear hb10 X9 P9 HB9
        go_wp2_with fail
        refine (iscan xs a1 _ allR 49 (by omega) HV.out.fit _ X10.out).mono ?_
        rintro e w11 ⟨a6, c6, rfl, ho6, hb11⟩
        have Q11 : Hid (GRow encR w11 a6 (scanB xs allR 49)) := ho6.grow
        have P11 : Hid (GRow encR w11 a5 (scanB xs allR 49)) := P10.out.below hb11
        have HB11 : Hid (Below w.heap.size w w11) := HB10.out.trans (hb11.mono HB10.out.size)
        have hsl2 : (scanB xs allR 49).length ≤ 100000000 := Nat.le_trans scan_len (by omega)
        clear hb11 X10 P10 HB10 ho6
        go_wp2_with fail
        refine (lpairs _ _ a5 a6 _ _ hsl2 _ P11.out Q11.out).mono ?_
        rintro e w12 ⟨rfl, hb12⟩
        have HB12 : Hid (Below w.heap.size w w12) := HB11.out.trans (hb12.mono HB11.out.size)
        clear hb12
        rw [decide_eq_true rfl]
        go_wp2
        go_ret
        exact ⟨rfl, HB12.out⟩
  · rw [decide_eq_true (by omega)] at HBG
    go_enter Try.func3, Try.ntmps3
    go_wp2_with fail
    refine (HBG.out _).mono ?_
    rintro e w ⟨rfl, rfl⟩
    go_wp2
    go_ret
    exact ⟨rfl, belowRefl _⟩
end Go.Proofs.Ytnlfojaflgehbaa

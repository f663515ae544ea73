/- The law FnTrims, walked. -/
import Derived.Test.YtnlfojaflgehbaaU7
import Derived.Test.YtnlfojaflgehbaaU6
import Derived.Test.YtnlfojaflgehbaaUT
import Derived.Test.YtnlfojaflgehbaaE6
import Derived.Test.YtnlfojaflgehbaaD3
import Derived.Test.YtnlfojaflgehbaaS3
import Derived.Test.YtnlfojaflgehbaaH4
namespace Go.Proofs.Ytnlfojaflgehbaa
open Go.RowKit
open KM
open VM
attribute [local go_sem ↓] Go.wp_at_zero Go.wp_at_succ

set_option maxRecDepth 100000 in
set_option maxHeartbeats 4000000 in
theorem law4 (len cap : Nat) (a : Option Addr) (w : World) (hl0 : len ≤ 9223372036854775807) (hr : CodeRow w a len) :
    Calls Try.prog 4 #[.slice a len cap] w fun e w' => e = .returned (.bool true) ∧ Below w.heap.size w w' := by
  have HBG : Hid (∀ W : World, Calls Try.prog 10 #[.slice a len cap] W fun e w' => e = .returned (.bool (decide ((1048576 : Int) < (len : Int)))) ∧ w' = W) := fun W => big10 len cap a W
  have HR : Hid (CodeRow w a len) := hr
  clear hr
  by_cases hl : len ≤ 1048576
  · rw [decide_eq_false (by omega)] at HBG
    go_enter Try.func4, Try.ntmps4
    go_wp2_with fail
    refine (HBG.out _).mono ?_
    rintro e w ⟨rfl, rfl⟩
    have HB0 : Hid (Below w.heap.size w w) := belowRefl w
    go_wp2_with fail
    refine (dVersions len cap a hl _ (HR.out.below HB0.out)).mono ?_
    rintro e w1 ⟨xs, a1, c1, hv, hxl, rfl, ho, hb⟩
    have HV : Hid (VsD 8 xs) := hv
    have HB1 : Hid (Below w.heap.size w w1) := HB0.out.trans ((hb).mono HB0.out.size)
    clear HB0
    have X1 : Hid (GRow encV w1 a1 xs) := ho.grow
    clear hv ho hb
    go_wp2_with fail
    refine (dPlaces len cap a hl _ (HR.out.below HB1.out)).mono ?_
    rintro e w2 ⟨ps, ap, cp, hpl, rfl, ho, hb⟩
    have hp12 : ps.length = 12 := hpl.2
    obtain ⟨n0, hn0, hn1⟩ := hpl.1 (ps[0]'(by omega)) (List.getElem_mem _)
    obtain ⟨pb, po, rfl, _, hpc⟩ := ho.grow (by omega)
    have pc := iat hpc 0 (by omega)
    rw [hn0] at pc
    simp only [Nat.add_zero] at pc
    rw [hp12]
    clear hpc hpl hn0
    obtain ⟨s, hs⟩ : ∃ s : Nat, s = n0 % 10 := ⟨_, rfl⟩
    have hs1 : (n0 : Int) % 10 = (s : Int) := by omega
    have hs2 : Int.tmod (n0 : Int) 10 = (s : Int) := by rw [hs]; rfl
    have hs10 : s < 10 := by omega
    clear hs
    have X2 : Hid (GRow encV w2 a1 xs) := X1.out.below hb
    have HB2 : Hid (Below w.heap.size w w2) := HB1.out.trans ((hb).mono HB1.out.size)
    clear X1 HB1
    clear ho hb hp12
    go_wp2_with fail
    refine (itrim xs a1 c1 (s : Int) (by omega) HV.out.fit _ X2.out).mono ?_
    rintro e w3 ⟨a3, c3, rfl, ho, hb⟩
    have htl := trim_len (s : Int) xs
    have HVt : Hid (VsD 8 (trimB (s : Int) xs)) := trim_vsd HV.out
    have HSc : Hid (∀ z : Int, (s : Int) ≤ z → scanB (trimB (s : Int) xs) allR z = scanB xs allR z) := fun z hz => scan_trim HV.out.2 hz allR
    have HTT : Hid (trimB (s : Int) (trimB (s : Int) xs) = trimB (s : Int) xs) := trim_trim HV.out.2
    have HSm : Hid (sameB (trimB (s : Int) xs) xs (s : Int) = true) := same_trim HV.out.2
    obtain ⟨T, hT⟩ : ∃ T, T = trimB (s : Int) xs := ⟨_, rfl⟩
    rw [← hT] at htl HVt HSc HTT HSm ho ⊢
    clear hT
    have X3 : Hid (GRow encV w3 a1 xs) := X2.out.below hb
    have HB3 : Hid (Below w.heap.size w w3) := HB2.out.trans ((hb).mono HB2.out.size)
    clear X2 HB2
    have T3 : Hid (GRow encV w3 a3 T) := ho.grow
    clear ho hb pc
    go_wp2
    go_loopw [6] (fun t wr => ∃ k : Nat, s ≤ k ∧ k ≤ 12 ∧ t = .int .i64 k ∧ Hid (GRow encV wr a1 xs) ∧ Hid (GRow encV wr a3 T) ∧ Hid (Below w.heap.size w wr)) (fun t _ => 12 - (intOf t).toNat)
    case atStart => exact ⟨s, Nat.le_refl _, by omega, rfl, X3, T3, HB3⟩
    case round =>
      clear X3 T3 HB3
      obtain ⟨k, hks, hk, rfl, X4, T4, HB4⟩ := hrel
      by_cases hlt : k < 12
      · have hlt' : (k : Int) < 12 := by omega
        have HSk : Hid (scanB T allR (k : Int) = scanB xs allR (k : Int)) := HSc.out _ (by omega)
        go_wp2_with fail
        refine (all20 _).mono ?_
        rintro e w5 ⟨rfl, hb⟩
        have X5 : Hid (GRow encV w5 a1 xs) := X4.out.below hb
        have T5 : Hid (GRow encV w5 a3 T) := T4.out.below hb
        have HB5 : Hid (Below w.heap.size w w5) := HB4.out.trans ((hb).mono HB4.out.size)
        clear X4 T4 HB4
        clear hb
        go_wp2_with fail
        refine (iscan T a3 _ allR (k : Int) (by omega) HVt.out.fit _ T5.out).mono ?_
        rintro e w6 ⟨a5, c5, rfl, ho, hb⟩
        rw [HSk.out] at ho ⊢
        have X6 : Hid (GRow encV w6 a1 xs) := X5.out.below hb
        have T6 : Hid (GRow encV w6 a3 T) := T5.out.below hb
        have HB6 : Hid (Below w.heap.size w w6) := HB5.out.trans ((hb).mono HB5.out.size)
        clear X5 T5 HB5
        have P6 : Hid (GRow encR w6 a5 (scanB xs allR (k : Int))) := ho.grow
        clear ho hb
        go_wp2_with fail
        refine (all20 _).mono ?_
        rintro e w7 ⟨rfl, hb⟩
        have X7 : Hid (GRow encV w7 a1 xs) := X6.out.below hb
        have T7 : Hid (GRow encV w7 a3 T) := T6.out.below hb
        have P7 : Hid (GRow encR w7 a5 (scanB xs allR (k : Int))) := P6.out.below hb
        have HB7 : Hid (Below w.heap.size w w7) := HB6.out.trans ((hb).mono HB6.out.size)
        clear X6 T6 P6 HB6
        clear hb
        go_wp2_with fail
        refine (iscan xs a1 _ allR (k : Int) (by omega) HV.out.fit _ X7.out).mono ?_
        rintro e w8 ⟨a6, c6, rfl, ho, hb⟩
        have X8 : Hid (GRow encV w8 a1 xs) := X7.out.below hb
        have T8 : Hid (GRow encV w8 a3 T) := T7.out.below hb
        have P8 : Hid (GRow encR w8 a5 (scanB xs allR (k : Int))) := P7.out.below hb
        have HB8 : Hid (Below w.heap.size w w8) := HB7.out.trans ((hb).mono HB7.out.size)
        clear X7 T7 P7 HB7
        have Q8 : Hid (GRow encR w8 a6 (scanB xs allR (k : Int))) := ho.grow
        clear ho hb
        have hsl2 : (scanB xs allR (k : Int)).length ≤ 100000000 := Nat.le_trans scan_len (by omega)
        go_wp2_with fail
        refine (lpairs _ _ a5 a6 _ _ hsl2 _ P8.out Q8.out).mono ?_
        rintro e w9 ⟨rfl, hb⟩
        rw [decide_eq_true rfl]
        have X9 : Hid (GRow encV w9 a1 xs) := X8.out.below hb
        have T9 : Hid (GRow encV w9 a3 T) := T8.out.below hb
        have HB9 : Hid (Below w.heap.size w w9) := HB8.out.trans ((hb).mono HB8.out.size)
        clear X8 T8 HB8
        clear hb
        go_wp2
        go_roundw
        case rel => exact ⟨k + 1, by omega, by omega, by go_num, X9, T9, HB9⟩
        case measure => simp [intOf]; omega
      · have hlt' : ¬ (k : Int) < 12 := by omega
        go_wp2_with fail
        refine (dTrimmed len cap a hl _ (HR.out.below HB4.out)).mono ?_
        rintro e w5 ⟨us, au, cu, su, hf, hul, rfl, ho, hb⟩
        have HFu : Hid (VFit us) := hf
        have X5 : Hid (GRow encV w5 a1 xs) := X4.out.below hb
        have T5 : Hid (GRow encV w5 a3 T) := T4.out.below hb
        have HB5 : Hid (Below w.heap.size w w5) := HB4.out.trans ((hb).mono HB4.out.size)
        clear X4 T4 HB4
        have U5 : Hid (GRow encV w5 au us) := ho
        clear hf ho hb
        go_wp2_with fail
        refine (dSameFrom len cap a hl _ (HR.out.below HB5.out)).mono ?_
        rintro e w6 ⟨ys, zs, aa, ab, ca, cb, sk, hfa, hfb, hal, hbl, rfl, hoa, hob, hb⟩
        have HFa : Hid (VFit ys) := hfa
        have HFb : Hid (VFit zs) := hfb
        have X6 : Hid (GRow encV w6 a1 xs) := X5.out.below hb
        have T6 : Hid (GRow encV w6 a3 T) := T5.out.below hb
        have U6 : Hid (GRow encV w6 au us) := U5.out.below hb
        have HB6 : Hid (Below w.heap.size w w6) := HB5.out.trans ((hb).mono HB5.out.size)
        clear X5 T5 U5 HB5
        have A6 : Hid (GRow encV w6 aa ys) := hoa
        have B6 : Hid (GRow encV w6 ab zs) := hob
        clear hfa hfb hoa hob hb
        go_wp2_with fail
        refine (dScanAt len cap a hl _ (HR.out.below HB6.out)).mono ?_
        rintro e w7 ⟨cs, ac, cc, rg, sc, hfc, hcl, rfl, hoc, hb⟩
        have HFc : Hid (VFit cs) := hfc
        have X7 : Hid (GRow encV w7 a1 xs) := X6.out.below hb
        have T7 : Hid (GRow encV w7 a3 T) := T6.out.below hb
        have U7 : Hid (GRow encV w7 au us) := U6.out.below hb
        have A7 : Hid (GRow encV w7 aa ys) := A6.out.below hb
        have B7 : Hid (GRow encV w7 ab zs) := B6.out.below hb
        have HB7 : Hid (Below w.heap.size w w7) := HB6.out.trans ((hb).mono HB6.out.size)
        clear X6 T6 U6 A6 B6 HB6
        have C7 : Hid (GRow encV w7 ac cs) := hoc
        clear hfc hoc hb
        have hba : Below w7.heap.size w7 (w7.alloc (.cells #[.string rg.1, .string rg.2] 40)) := (belowRefl _).alloc (Nat.le_refl _) _
        have BX8 : Hid (Bx (w7.alloc (.cells #[.string rg.1, .string rg.2] 40)) w7.heap.size [.string rg.1, .string rg.2]) := Bx.new w7 [.string rg.1, .string rg.2] 40
        have X8 : Hid (GRow encV (w7.alloc (.cells #[.string rg.1, .string rg.2] 40)) a1 xs) := X7.out.below hba
        have T8 : Hid (GRow encV (w7.alloc (.cells #[.string rg.1, .string rg.2] 40)) a3 T) := T7.out.below hba
        have U8 : Hid (GRow encV (w7.alloc (.cells #[.string rg.1, .string rg.2] 40)) au us) := U7.out.below hba
        have A8 : Hid (GRow encV (w7.alloc (.cells #[.string rg.1, .string rg.2] 40)) aa ys) := A7.out.below hba
        have B8 : Hid (GRow encV (w7.alloc (.cells #[.string rg.1, .string rg.2] 40)) ab zs) := B7.out.below hba
        have C8 : Hid (GRow encV (w7.alloc (.cells #[.string rg.1, .string rg.2] 40)) ac cs) := C7.out.below hba
        have HB8 : Hid (Below w.heap.size w (w7.alloc (.cells #[.string rg.1, .string rg.2] 40))) := HB7.out.trans ((hba).mono HB7.out.size)
        clear X7 T7 U7 A7 B7 C7 HB7
        clear hba
        go_wp2
        generalize (w7.alloc (.cells #[.string rg.1, .string rg.2] 40)) = w8 at *
        have x0 := BX8.out.c0
        have x1 := BX8.out.c1
        refine wp_region_held_drew (S := fun w' => w'.cell? ⟨w7.heap.size, 0, none⟩ = some (.string rg.1) ∧ w'.cell? ⟨w7.heap.size, 1, none⟩ = some (.string rg.2)) (by kernel_rfl) ⟨x0, x1⟩ (fun hHeld => ?_)
        (refine wpAnyH_take (i := 0) (v := ?_) rfl (by kernel_rfl) (by kernel_rfl) (by kernel_rfl) (fun _ _ _ h => h) (Or.inl ⟨by rfl, ?_⟩) (by assumption) ?_; rotate_left; (focus (intro w hSw; (try dsimp only at hSw); go_simp; (try with_reducible rfl); done)); simp only [Act.put, List.getElem_toArray, List.getElem_cons_zero, List.setIfInBounds_toArray, List.set_cons_zero, List.set_cons_succ])
        refine wpAnyH_ready (rs := [1]) (by kernel_rfl) (by simp) ?_
        refine AllReadyH.cons rfl (fun K hK => ?_) AllReadyH.nil
        go_simp
        go_wp2_with fail
        refine (ivers T a3 _ (by omega) _ (T8.out.below (belowRefl _).drew)).mono ?_
        rintro e w9 ⟨rfl, hb⟩
        rw [HVt.out.versB (by omega)]
        have X9 : Hid (GRow encV w9 a1 xs) := X8.out.below (undrew hb)
        have T9 : Hid (GRow encV w9 a3 T) := T8.out.below (undrew hb)
        have U9 : Hid (GRow encV w9 au us) := U8.out.below (undrew hb)
        have A9 : Hid (GRow encV w9 aa ys) := A8.out.below (undrew hb)
        have B9 : Hid (GRow encV w9 ab zs) := B8.out.below (undrew hb)
        have C9 : Hid (GRow encV w9 ac cs) := C8.out.below (undrew hb)
        have BX9 : Hid (Bx w9 w7.heap.size [.string rg.1, .string rg.2]) := BX8.out.below (undrew hb)
        have HB9 : Hid (Below w.heap.size w w9) := HB8.out.trans (((undrew hb)).mono HB8.out.size)
        clear X8 T8 U8 A8 B8 C8 HB8 BX8
        clear hb
        go_wp2_with fail
        refine hK.out _ _ ⟨BX9.out.c0, BX9.out.c1⟩ (fun hHeld9 => ?_)
        clear hK K
        (refine wpAnyH_take (i := 2) (v := ?_) rfl (by kernel_rfl) (by kernel_rfl) (by kernel_rfl) (fun _ _ _ h => h) (Or.inl ⟨by rfl, ?_⟩) (by assumption) ?_; rotate_left; (focus (intro w hSw; (try dsimp only at hSw); go_simp; (try with_reducible rfl); done)); simp only [Act.put, List.getElem_toArray, List.getElem_cons_zero, List.getElem_cons_succ, List.setIfInBounds_toArray, List.set_cons_zero, List.set_cons_succ])
        (refine wpAnyH_take (i := 3) (v := ?_) rfl (by kernel_rfl) (by kernel_rfl) (by kernel_rfl) (fun _ _ _ h => h) (Or.inl ⟨by rfl, ?_⟩) (by assumption) ?_; rotate_left; (focus (intro w hSw; (try dsimp only at hSw); go_simp; (try with_reducible rfl); done)); simp only [Act.put, List.getElem_toArray, List.getElem_cons_zero, List.getElem_cons_succ, List.setIfInBounds_toArray, List.set_cons_zero, List.set_cons_succ])
        (refine wpAnyH_take (i := 4) (v := ?_) rfl (by kernel_rfl) (by kernel_rfl) (by kernel_rfl) (fun _ _ _ h => h) (Or.inl ⟨by rfl, ?_⟩) (by assumption) ?_; rotate_left; (focus (intro w hSw; (try dsimp only at hSw); go_simp; (try with_reducible rfl); done)); simp only [Act.put, List.getElem_toArray, List.getElem_cons_zero, List.getElem_cons_succ, List.setIfInBounds_toArray, List.set_cons_zero, List.set_cons_succ])
        (refine wpAnyH_take (i := 5) (v := ?_) rfl (by kernel_rfl) (by kernel_rfl) (by kernel_rfl) (fun _ _ _ h => h) (Or.inl ⟨by rfl, ?_⟩) (by assumption) ?_; rotate_left; (focus (intro w hSw; (try dsimp only at hSw); go_simp; (try with_reducible rfl); done)); simp only [Act.put, List.getElem_toArray, List.getElem_cons_zero, List.getElem_cons_succ, List.setIfInBounds_toArray, List.set_cons_zero, List.set_cons_succ])
        (refine wpAnyH_take (i := 6) (v := ?_) rfl (by kernel_rfl) (by kernel_rfl) (by kernel_rfl) (fun _ _ _ h => h) (Or.inl ⟨by rfl, ?_⟩) (by assumption) ?_; rotate_left; (focus (intro w hSw; (try dsimp only at hSw); go_simp; (try with_reducible rfl); done)); simp only [Act.put, List.getElem_toArray, List.getElem_cons_zero, List.getElem_cons_succ, List.setIfInBounds_toArray, List.set_cons_zero, List.set_cons_succ])
        (refine wpAnyH_take (i := 7) (v := ?_) rfl (by kernel_rfl) (by kernel_rfl) (by kernel_rfl) (fun _ _ _ h => h) (Or.inl ⟨by rfl, ?_⟩) (by assumption) ?_; rotate_left; (focus (intro w hSw; (try dsimp only at hSw); go_simp; (try with_reducible rfl); done)); simp only [Act.put, List.getElem_toArray, List.getElem_cons_zero, List.getElem_cons_succ, List.setIfInBounds_toArray, List.set_cons_zero, List.set_cons_succ])
        (refine wpAnyH_take (i := 8) (v := ?_) rfl (by kernel_rfl) (by kernel_rfl) (by kernel_rfl) (fun _ _ _ h => h) (Or.inl ⟨by rfl, ?_⟩) (by assumption) ?_; rotate_left; (focus (intro w hSw; (try dsimp only at hSw); go_simp; (try with_reducible rfl); done)); simp only [Act.put, List.getElem_toArray, List.getElem_cons_zero, List.getElem_cons_succ, List.setIfInBounds_toArray, List.set_cons_zero, List.set_cons_succ])
        (refine wpAnyH_take (i := 9) (v := ?_) rfl (by kernel_rfl) (by kernel_rfl) (by kernel_rfl) (fun _ _ _ h => h) (Or.inl ⟨by rfl, ?_⟩) (by assumption) ?_; rotate_left; (focus (intro w hSw; (try dsimp only at hSw); go_simp; (try with_reducible rfl); done)); simp only [Act.put, List.getElem_toArray, List.getElem_cons_zero, List.getElem_cons_succ, List.setIfInBounds_toArray, List.set_cons_zero, List.set_cons_succ])
        (refine wpAnyH_take (i := 10) (v := ?_) rfl (by kernel_rfl) (by kernel_rfl) (by kernel_rfl) (fun _ _ _ h => h) (Or.inl ⟨by rfl, ?_⟩) (by assumption) ?_; rotate_left; (focus (intro w hSw; (try dsimp only at hSw); go_simp; (try with_reducible rfl); done)); simp only [Act.put, List.getElem_toArray, List.getElem_cons_zero, List.getElem_cons_succ, List.setIfInBounds_toArray, List.set_cons_zero, List.set_cons_succ])
        (refine wpAnyH_take (i := 11) (v := ?_) rfl (by kernel_rfl) (by kernel_rfl) (by kernel_rfl) (fun _ _ _ h => h) (Or.inl ⟨by rfl, ?_⟩) (by assumption) ?_; rotate_left; (focus (intro w hSw; (try dsimp only at hSw); go_simp; (try with_reducible rfl); done)); simp only [Act.put, List.getElem_toArray, List.getElem_cons_zero, List.getElem_cons_succ, List.setIfInBounds_toArray, List.set_cons_zero, List.set_cons_succ])
        (refine wpAnyH_take (i := 13) (v := ?_) rfl (by kernel_rfl) (by kernel_rfl) (by kernel_rfl) (fun _ _ _ h => h) (Or.inl ⟨by rfl, ?_⟩) (by assumption) ?_; rotate_left; (focus (intro w hSw; (try dsimp only at hSw); go_simp; (try with_reducible rfl); done)); simp only [Act.put, List.getElem_toArray, List.getElem_cons_zero, List.getElem_cons_succ, List.setIfInBounds_toArray, List.set_cons_zero, List.set_cons_succ])
        refine wpAnyH_ready (rs := [12]) (by kernel_rfl) (by simp) ?_
        refine AllReadyH.cons rfl (fun K hK => ?_) AllReadyH.nil
        go_simp
        go_wp2_with fail
        refine (itrim T a3 _ (s : Int) (by omega) HVt.out.fit _ T9.out).mono ?_
        rintro e w10 ⟨at1, ct1, rfl, ho, hb⟩
        rw [HTT.out] at ho ⊢
        have X10 : Hid (GRow encV w10 a1 xs) := X9.out.below hb
        have T10 : Hid (GRow encV w10 a3 T) := T9.out.below hb
        have U10 : Hid (GRow encV w10 au us) := U9.out.below hb
        have A10 : Hid (GRow encV w10 aa ys) := A9.out.below hb
        have B10 : Hid (GRow encV w10 ab zs) := B9.out.below hb
        have C10 : Hid (GRow encV w10 ac cs) := C9.out.below hb
        have BX10 : Hid (Bx w10 w7.heap.size [.string rg.1, .string rg.2]) := BX9.out.below hb
        have HB10 : Hid (Below w.heap.size w w10) := HB9.out.trans ((hb).mono HB9.out.size)
        clear X9 T9 U9 A9 B9 C9 HB9 BX9
        have V10 : Hid (GRow encV w10 at1 T) := ho.grow
        clear hb
        go_wp2_with fail
        refine hK.out _ _ ⟨BX10.out.c0, BX10.out.c1⟩ (fun hHeld10 => ?_)
        clear hK K
        refine wpAnyH_ready (rs := [14]) (by kernel_rfl) (by simp) ?_
        refine AllReadyH.cons rfl (fun K hK => ?_) AllReadyH.nil
        go_simp
        go_wp2_with fail
        refine (lvers T at1 a3 _ _ (by omega) _ V10.out T10.out).mono ?_
        rintro e w11 ⟨rfl, hb⟩
        have X11 : Hid (GRow encV w11 a1 xs) := X10.out.below hb
        have T11 : Hid (GRow encV w11 a3 T) := T10.out.below hb
        have U11 : Hid (GRow encV w11 au us) := U10.out.below hb
        have A11 : Hid (GRow encV w11 aa ys) := A10.out.below hb
        have B11 : Hid (GRow encV w11 ab zs) := B10.out.below hb
        have C11 : Hid (GRow encV w11 ac cs) := C10.out.below hb
        have BX11 : Hid (Bx w11 w7.heap.size [.string rg.1, .string rg.2]) := BX10.out.below hb
        have HB11 : Hid (Below w.heap.size w w11) := HB10.out.trans ((hb).mono HB10.out.size)
        clear X10 T10 U10 A10 B10 C10 HB10 BX10
        clear hb
        go_wp2_with fail
        refine hK.out _ _ ⟨BX11.out.c0, BX11.out.c1⟩ (fun hHeld11 => ?_)
        clear hK K
        (refine wpAnyH_take (i := 15) (v := ?_) rfl (by kernel_rfl) (by kernel_rfl) (by kernel_rfl) (fun _ _ _ h => h) (Or.inl ⟨by rfl, ?_⟩) (by assumption) ?_; rotate_left; (focus (intro w hSw; (try dsimp only at hSw); go_simp; (try with_reducible rfl); done)); simp only [Act.put, List.getElem_toArray, List.getElem_cons_zero, List.getElem_cons_succ, List.setIfInBounds_toArray, List.set_cons_zero, List.set_cons_succ])
        (refine wpAnyH_take (i := 16) (v := ?_) rfl (by kernel_rfl) (by kernel_rfl) (by kernel_rfl) (fun _ _ _ h => h) (Or.inl ⟨by rfl, ?_⟩) (by assumption) ?_; rotate_left; (focus (intro w hSw; (try dsimp only at hSw); go_simp; (try with_reducible rfl); done)); simp only [Act.put, List.getElem_toArray, List.getElem_cons_zero, List.getElem_cons_succ, List.setIfInBounds_toArray, List.set_cons_zero, List.set_cons_succ])
        (refine wpAnyH_take (i := 17) (v := ?_) rfl (by kernel_rfl) (by kernel_rfl) (by kernel_rfl) (fun _ _ _ h => h) (Or.inl ⟨by rfl, ?_⟩) (by assumption) ?_; rotate_left; (focus (intro w hSw; (try dsimp only at hSw); go_simp; (try with_reducible rfl); done)); simp only [Act.put, List.getElem_toArray, List.getElem_cons_zero, List.getElem_cons_succ, List.setIfInBounds_toArray, List.set_cons_zero, List.set_cons_succ])
        (refine wpAnyH_take (i := 18) (v := ?_) rfl (by kernel_rfl) (by kernel_rfl) (by kernel_rfl) (fun _ _ _ h => h) (Or.inl ⟨by rfl, ?_⟩) (by assumption) ?_; rotate_left; (focus (intro w hSw; (try dsimp only at hSw); go_simp; (try with_reducible rfl); done)); simp only [Act.put, List.getElem_toArray, List.getElem_cons_zero, List.getElem_cons_succ, List.setIfInBounds_toArray, List.set_cons_zero, List.set_cons_succ])
        (refine wpAnyH_take (i := 19) (v := ?_) rfl (by kernel_rfl) (by kernel_rfl) (by kernel_rfl) (fun _ _ _ h => h) (Or.inl ⟨by rfl, ?_⟩) (by assumption) ?_; rotate_left; (focus (intro w hSw; (try dsimp only at hSw); go_simp; (try with_reducible rfl); done)); simp only [Act.put, List.getElem_toArray, List.getElem_cons_zero, List.getElem_cons_succ, List.setIfInBounds_toArray, List.set_cons_zero, List.set_cons_succ])
        refine wpAnyH_ready (rs := [20]) (by kernel_rfl) (by simp) ?_
        refine AllReadyH.cons rfl (fun K hK => ?_) AllReadyH.nil
        go_simp
        go_wp2_with fail
        refine (isame T xs a3 a1 _ _ (s : Int) (by omega) (by omega) HVt.out.fit HV.out.fit _ T11.out X11.out).mono ?_
        rintro e w12 ⟨rfl, hb⟩
        rw [HSm.out]
        have U12 : Hid (GRow encV w12 au us) := U11.out.below hb
        have A12 : Hid (GRow encV w12 aa ys) := A11.out.below hb
        have B12 : Hid (GRow encV w12 ab zs) := B11.out.below hb
        have C12 : Hid (GRow encV w12 ac cs) := C11.out.below hb
        have BX12 : Hid (Bx w12 w7.heap.size [.string rg.1, .string rg.2]) := BX11.out.below hb
        have HB12 : Hid (Below w.heap.size w w12) := HB11.out.trans ((hb).mono HB11.out.size)
        clear U11 A11 B11 C11 HB11 BX11
        clear hb
        go_wp2_with fail
        refine hK.out _ _ ⟨BX12.out.c0, BX12.out.c1⟩ (fun hHeld12 => ?_)
        clear hK K
        (refine wpAnyH_take (i := 21) (v := ?_) rfl (by kernel_rfl) (by kernel_rfl) (by kernel_rfl) (fun _ _ _ h => h) (Or.inl ⟨by rfl, ?_⟩) (by assumption) ?_; rotate_left; (focus (intro w hSw; (try dsimp only at hSw); go_simp; (try with_reducible rfl); done)); simp only [Act.put, List.getElem_toArray, List.getElem_cons_zero, List.getElem_cons_succ, List.setIfInBounds_toArray, List.set_cons_zero, List.set_cons_succ])
        (refine wpAnyH_take (i := 22) (v := ?_) rfl (by kernel_rfl) (by kernel_rfl) (by kernel_rfl) (fun _ _ _ h => h) (Or.inl ⟨by rfl, ?_⟩) (by assumption) ?_; rotate_left; (focus (intro w hSw; (try dsimp only at hSw); go_simp; (try with_reducible rfl); done)); simp only [Act.put, List.getElem_toArray, List.getElem_cons_zero, List.getElem_cons_succ, List.setIfInBounds_toArray, List.set_cons_zero, List.set_cons_succ])
        (refine wpAnyH_take (i := 23) (v := ?_) rfl (by kernel_rfl) (by kernel_rfl) (by kernel_rfl) (fun _ _ _ h => h) (Or.inl ⟨by rfl, ?_⟩) (by assumption) ?_; rotate_left; (focus (intro w hSw; (try dsimp only at hSw); go_simp; (try with_reducible rfl); done)); simp only [Act.put, List.getElem_toArray, List.getElem_cons_zero, List.getElem_cons_succ, List.setIfInBounds_toArray, List.set_cons_zero, List.set_cons_succ])
        (refine wpAnyH_take (i := 24) (v := ?_) rfl (by kernel_rfl) (by kernel_rfl) (by kernel_rfl) (fun _ _ _ h => h) (Or.inl ⟨by rfl, ?_⟩) (by assumption) ?_; rotate_left; (focus (intro w hSw; (try dsimp only at hSw); go_simp; (try with_reducible rfl); done)); simp only [Act.put, List.getElem_toArray, List.getElem_cons_zero, List.getElem_cons_succ, List.setIfInBounds_toArray, List.set_cons_zero, List.set_cons_succ])
        (refine wpAnyH_take (i := 26) (v := ?_) rfl (by kernel_rfl) (by kernel_rfl) (by kernel_rfl) (fun _ _ _ h => h) (Or.inl ⟨by rfl, ?_⟩) (by assumption) ?_; rotate_left; (focus (intro w hSw; (try dsimp only at hSw); go_simp; (try with_reducible rfl); done)); simp only [Act.put, List.getElem_toArray, List.getElem_cons_zero, List.getElem_cons_succ, List.setIfInBounds_toArray, List.set_cons_zero, List.set_cons_succ])
        (refine wpAnyH_take (i := 27) (v := ?_) rfl (by kernel_rfl) (by kernel_rfl) (by kernel_rfl) (fun _ _ _ h => h) (Or.inl ⟨by rfl, ?_⟩) (by assumption) ?_; rotate_left; (focus (intro w hSw; (try dsimp only at hSw); go_simp; (try with_reducible rfl); done)); simp only [Act.put, List.getElem_toArray, List.getElem_cons_zero, List.getElem_cons_succ, List.setIfInBounds_toArray, List.set_cons_zero, List.set_cons_succ])
        refine wpAnyH_ready (rs := [25]) (by kernel_rfl) (by simp) ?_
        refine AllReadyH.cons rfl (fun K hK => ?_) AllReadyH.nil
        go_simp
        go_wp2_with fail
        refine (itrim us au _ (su : Int) (by omega) HFu.out _ U12.out).mono ?_
        rintro e w13 ⟨at2, ct2, rfl, ho, hb⟩
        have htl2 := trim_len (su : Int) us
        obtain ⟨Y, hY⟩ : ∃ Y, Y = trimB (su : Int) us := ⟨_, rfl⟩
        have HY : Hid (Y = trimB (su : Int) us) := hY
        rw [← hY] at ho htl2 ⊢
        clear hY
        have U13 : Hid (GRow encV w13 au us) := U12.out.below hb
        have A13 : Hid (GRow encV w13 aa ys) := A12.out.below hb
        have B13 : Hid (GRow encV w13 ab zs) := B12.out.below hb
        have C13 : Hid (GRow encV w13 ac cs) := C12.out.below hb
        have BX13 : Hid (Bx w13 w7.heap.size [.string rg.1, .string rg.2]) := BX12.out.below hb
        have HB13 : Hid (Below w.heap.size w w13) := HB12.out.trans ((hb).mono HB12.out.size)
        clear U12 A12 B12 C12 HB12 BX12
        have V13 : Hid (GRow encV w13 at2 Y) := ho.grow
        clear hb
        go_wp2_with fail
        refine hK.out _ _ ⟨BX13.out.c0, BX13.out.c1⟩ (fun hHeld13 => ?_)
        clear hK K
        refine wpAnyH_ready (rs := [28]) (by kernel_rfl) (by simp) ?_
        refine AllReadyH.cons rfl (fun K hK => ?_) AllReadyH.nil
        go_simp
        go_wp2_with fail
        refine (strim us au _ (su : Int) (by omega) _ U13.out).mono ?_
        rintro e w14 ⟨at3, ct3, rfl, ho, hb⟩
        rw [← HY.out] at ho ⊢
        have U14 : Hid (GRow encV w14 au us) := U13.out.below hb
        have A14 : Hid (GRow encV w14 aa ys) := A13.out.below hb
        have B14 : Hid (GRow encV w14 ab zs) := B13.out.below hb
        have C14 : Hid (GRow encV w14 ac cs) := C13.out.below hb
        have V14 : Hid (GRow encV w14 at2 Y) := V13.out.below hb
        have BX14 : Hid (Bx w14 w7.heap.size [.string rg.1, .string rg.2]) := BX13.out.below hb
        have HB14 : Hid (Below w.heap.size w w14) := HB13.out.trans ((hb).mono HB13.out.size)
        clear U13 A13 B13 C13 V13 HB13 BX13
        have Z14 : Hid (GRow encV w14 at3 Y) := ho.grow
        clear hb
        go_wp2_with fail
        refine hK.out _ _ ⟨BX14.out.c0, BX14.out.c1⟩ (fun hHeld14 => ?_)
        clear hK K
        refine wpAnyH_ready (rs := [29]) (by kernel_rfl) (by simp) ?_
        refine AllReadyH.cons rfl (fun K hK => ?_) AllReadyH.nil
        go_simp
        go_wp2_with fail
        refine (lvers Y at2 at3 _ _ (by omega) _ V14.out Z14.out).mono ?_
        rintro e w15 ⟨rfl, hb⟩
        have A15 : Hid (GRow encV w15 aa ys) := A14.out.below hb
        have B15 : Hid (GRow encV w15 ab zs) := B14.out.below hb
        have C15 : Hid (GRow encV w15 ac cs) := C14.out.below hb
        have BX15 : Hid (Bx w15 w7.heap.size [.string rg.1, .string rg.2]) := BX14.out.below hb
        have HB15 : Hid (Below w.heap.size w w15) := HB14.out.trans ((hb).mono HB14.out.size)
        clear A14 B14 C14 HB14 BX14
        clear hb
        go_wp2_with fail
        refine hK.out _ _ ⟨BX15.out.c0, BX15.out.c1⟩ (fun hHeld15 => ?_)
        clear hK K
        (refine wpAnyH_take (i := 30) (v := ?_) rfl (by kernel_rfl) (by kernel_rfl) (by kernel_rfl) (fun _ _ _ h => h) (Or.inl ⟨by rfl, ?_⟩) (by assumption) ?_; rotate_left; (focus (intro w hSw; (try dsimp only at hSw); go_simp; (try with_reducible rfl); done)); simp only [Act.put, List.getElem_toArray, List.getElem_cons_zero, List.getElem_cons_succ, List.setIfInBounds_toArray, List.set_cons_zero, List.set_cons_succ])
        (refine wpAnyH_take (i := 31) (v := ?_) rfl (by kernel_rfl) (by kernel_rfl) (by kernel_rfl) (fun _ _ _ h => h) (Or.inl ⟨by rfl, ?_⟩) (by assumption) ?_; rotate_left; (focus (intro w hSw; (try dsimp only at hSw); go_simp; (try with_reducible rfl); done)); simp only [Act.put, List.getElem_toArray, List.getElem_cons_zero, List.getElem_cons_succ, List.setIfInBounds_toArray, List.set_cons_zero, List.set_cons_succ])
        (refine wpAnyH_take (i := 32) (v := ?_) rfl (by kernel_rfl) (by kernel_rfl) (by kernel_rfl) (fun _ _ _ h => h) (Or.inl ⟨by rfl, ?_⟩) (by assumption) ?_; rotate_left; (focus (intro w hSw; (try dsimp only at hSw); go_simp; (try with_reducible rfl); done)); simp only [Act.put, List.getElem_toArray, List.getElem_cons_zero, List.getElem_cons_succ, List.setIfInBounds_toArray, List.set_cons_zero, List.set_cons_succ])
        (refine wpAnyH_take (i := 33) (v := ?_) rfl (by kernel_rfl) (by kernel_rfl) (by kernel_rfl) (fun _ _ _ h => h) (Or.inl ⟨by rfl, ?_⟩) (by assumption) ?_; rotate_left; (focus (intro w hSw; (try dsimp only at hSw); go_simp; (try with_reducible rfl); done)); simp only [Act.put, List.getElem_toArray, List.getElem_cons_zero, List.getElem_cons_succ, List.setIfInBounds_toArray, List.set_cons_zero, List.set_cons_succ])
        (refine wpAnyH_take (i := 34) (v := ?_) rfl (by kernel_rfl) (by kernel_rfl) (by kernel_rfl) (fun _ _ _ h => h) (Or.inl ⟨by rfl, ?_⟩) (by assumption) ?_; rotate_left; (focus (intro w hSw; (try dsimp only at hSw); go_simp; (try with_reducible rfl); done)); simp only [Act.put, List.getElem_toArray, List.getElem_cons_zero, List.getElem_cons_succ, List.setIfInBounds_toArray, List.set_cons_zero, List.set_cons_succ])
        (refine wpAnyH_take (i := 36) (v := ?_) rfl (by kernel_rfl) (by kernel_rfl) (by kernel_rfl) (fun _ _ _ h => h) (Or.inl ⟨by rfl, ?_⟩) (by assumption) ?_; rotate_left; (focus (intro w hSw; (try dsimp only at hSw); go_simp; (try with_reducible rfl); done)); simp only [Act.put, List.getElem_toArray, List.getElem_cons_zero, List.getElem_cons_succ, List.setIfInBounds_toArray, List.set_cons_zero, List.set_cons_succ])
        (refine wpAnyH_take (i := 37) (v := ?_) rfl (by kernel_rfl) (by kernel_rfl) (by kernel_rfl) (fun _ _ _ h => h) (Or.inl ⟨by rfl, ?_⟩) (by assumption) ?_; rotate_left; (focus (intro w hSw; (try dsimp only at hSw); go_simp; (try with_reducible rfl); done)); simp only [Act.put, List.getElem_toArray, List.getElem_cons_zero, List.getElem_cons_succ, List.setIfInBounds_toArray, List.set_cons_zero, List.set_cons_succ])
        (refine wpAnyH_take (i := 38) (v := ?_) rfl (by kernel_rfl) (by kernel_rfl) (by kernel_rfl) (fun _ _ _ h => h) (Or.inl ⟨by rfl, ?_⟩) (by assumption) ?_; rotate_left; (focus (intro w hSw; (try dsimp only at hSw); go_simp; (try with_reducible rfl); done)); simp only [Act.put, List.getElem_toArray, List.getElem_cons_zero, List.getElem_cons_succ, List.setIfInBounds_toArray, List.set_cons_zero, List.set_cons_succ])
        refine wpAnyH_ready (rs := [35]) (by kernel_rfl) (by simp) ?_
        refine AllReadyH.cons rfl (fun K hK => ?_) AllReadyH.nil
        go_simp
        go_wp2_with fail
        refine (isame ys zs aa ab _ _ (sk : Int) (by omega) (by omega) HFa.out HFb.out _ A15.out B15.out).mono ?_
        rintro e w16 ⟨rfl, hb⟩
        obtain ⟨q, hq⟩ : ∃ q, q = sameB ys zs (sk : Int) := ⟨_, rfl⟩
        have HQ : Hid (q = sameB ys zs (sk : Int)) := hq
        rw [← hq]
        clear hq
        have hqq := beq_self_b q
        have A16 : Hid (GRow encV w16 aa ys) := A15.out.below hb
        have B16 : Hid (GRow encV w16 ab zs) := B15.out.below hb
        have C16 : Hid (GRow encV w16 ac cs) := C15.out.below hb
        have BX16 : Hid (Bx w16 w7.heap.size [.string rg.1, .string rg.2]) := BX15.out.below hb
        have HB16 : Hid (Below w.heap.size w w16) := HB15.out.trans ((hb).mono HB15.out.size)
        clear A15 B15 C15 HB15 BX15
        clear hb
        go_wp2_with fail
        refine hK.out _ _ ⟨BX16.out.c0, BX16.out.c1⟩ (fun hHeld16 => ?_)
        clear hK K
        refine wpAnyH_ready (rs := [39]) (by kernel_rfl) (by simp) ?_
        refine AllReadyH.cons rfl (fun K hK => ?_) AllReadyH.nil
        go_simp
        go_wp2_with fail
        refine (ssame ys zs aa ab _ _ (sk : Int) (by omega) (by omega) _ A16.out B16.out).mono ?_
        rintro e w17 ⟨rfl, hb⟩
        rw [← HQ.out]
        have C17 : Hid (GRow encV w17 ac cs) := C16.out.below hb
        have BX17 : Hid (Bx w17 w7.heap.size [.string rg.1, .string rg.2]) := BX16.out.below hb
        have HB17 : Hid (Below w.heap.size w w17) := HB16.out.trans ((hb).mono HB16.out.size)
        clear C16 HB16 BX16
        clear hb
        go_wp2_with fail
        refine hK.out _ _ ⟨BX17.out.c0, BX17.out.c1⟩ (fun hHeld17 => ?_)
        clear hK K
        (refine wpAnyH_take (i := 40) (v := ?_) rfl (by kernel_rfl) (by kernel_rfl) (by kernel_rfl) (fun _ _ _ h => h) (Or.inl ⟨by rfl, ?_⟩) (by assumption) ?_; rotate_left; (focus (intro w hSw; (try dsimp only at hSw); go_simp; (try with_reducible rfl); done)); simp only [Act.put, List.getElem_toArray, List.getElem_cons_zero, List.getElem_cons_succ, List.setIfInBounds_toArray, List.set_cons_zero, List.set_cons_succ])
        (refine wpAnyH_take (i := 41) (v := ?_) rfl (by kernel_rfl) (by kernel_rfl) (by kernel_rfl) (fun _ _ _ h => h) (Or.inl ⟨by rfl, ?_⟩) (by assumption) ?_; rotate_left; (focus (intro w hSw; (try dsimp only at hSw); go_simp; (try with_reducible rfl); done)); simp only [Act.put, List.getElem_toArray, List.getElem_cons_zero, List.getElem_cons_succ, List.setIfInBounds_toArray, List.set_cons_zero, List.set_cons_succ])
        (refine wpAnyH_take (i := 42) (v := ?_) rfl (by kernel_rfl) (by kernel_rfl) (by kernel_rfl) (fun _ _ _ h => h) (Or.inl ⟨by rfl, ?_⟩) (by assumption) ?_; rotate_left; (focus (intro w hSw; (try dsimp only at hSw); go_simp; (try with_reducible rfl); done)); simp only [Act.put, List.getElem_toArray, List.getElem_cons_zero, List.getElem_cons_succ, List.setIfInBounds_toArray, List.set_cons_zero, List.set_cons_succ])
        (refine wpAnyH_take (i := 43) (v := ?_) rfl (by kernel_rfl) (by kernel_rfl) (by kernel_rfl) (fun _ _ _ h => h) (Or.inl ⟨by rfl, ?_⟩) (by assumption) ?_; rotate_left; (focus (intro w hSw; (try dsimp only at hSw); go_simp; (try with_reducible rfl); done)); simp only [Act.put, List.getElem_toArray, List.getElem_cons_zero, List.getElem_cons_succ, List.setIfInBounds_toArray, List.set_cons_zero, List.set_cons_succ])
        (refine wpAnyH_take (i := 44) (v := ?_) rfl (by kernel_rfl) (by kernel_rfl) (by kernel_rfl) (fun _ _ _ h => h) (Or.inl ⟨by rfl, ?_⟩) (by assumption) ?_; rotate_left; (focus (intro w hSw; (try dsimp only at hSw); go_simp; (try with_reducible rfl); done)); simp only [Act.put, List.getElem_toArray, List.getElem_cons_zero, List.getElem_cons_succ, List.setIfInBounds_toArray, List.set_cons_zero, List.set_cons_succ])
        (refine wpAnyH_take (i := 45) (v := ?_) rfl (by kernel_rfl) (by kernel_rfl) (by kernel_rfl) (fun _ _ _ h => h) (Or.inl ⟨by rfl, ?_⟩) (by assumption) ?_; rotate_left; (focus (intro w hSw; (try dsimp only at hSw); go_simp; (try with_reducible rfl); done)); simp only [Act.put, List.getElem_toArray, List.getElem_cons_zero, List.getElem_cons_succ, List.setIfInBounds_toArray, List.set_cons_zero, List.set_cons_succ])
        (refine wpAnyH_take (i := 47) (v := ?_) rfl (by kernel_rfl) (by kernel_rfl) (by kernel_rfl) (fun _ _ _ h => h) (Or.inl ⟨by rfl, ?_⟩) (by assumption) ?_; rotate_left; (focus (intro w hSw; (try dsimp only at hSw); go_simp; (try with_reducible rfl); done)); simp only [Act.put, List.getElem_toArray, List.getElem_cons_zero, List.getElem_cons_succ, List.setIfInBounds_toArray, List.set_cons_zero, List.set_cons_succ])
        (refine wpAnyH_take (i := 48) (v := ?_) rfl (by kernel_rfl) (by kernel_rfl) (by kernel_rfl) (fun _ _ _ h => h) (Or.inl ⟨by rfl, ?_⟩) (by assumption) ?_; rotate_left; (focus (intro w hSw; (try dsimp only at hSw); go_simp; (try with_reducible rfl); done)); simp only [Act.put, List.getElem_toArray, List.getElem_cons_zero, List.getElem_cons_succ, List.setIfInBounds_toArray, List.set_cons_zero, List.set_cons_succ])
        (refine wpAnyH_take (i := 49) (v := ?_) rfl (by kernel_rfl) (by kernel_rfl) (by kernel_rfl) (fun _ _ _ h => h) (Or.inl ⟨by rfl, ?_⟩) (by assumption) ?_; rotate_left; (focus (intro w hSw; (try dsimp only at hSw); go_simp; (try with_reducible rfl); done)); simp only [Act.put, List.getElem_toArray, List.getElem_cons_zero, List.getElem_cons_succ, List.setIfInBounds_toArray, List.set_cons_zero, List.set_cons_succ])
        refine wpAnyH_ready (rs := [46]) (by kernel_rfl) (by simp) ?_
        refine AllReadyH.cons rfl (fun K hK => ?_) AllReadyH.nil
        go_simp
        go_wp2_with fail
        refine (iscan cs ac _ rg (sc : Int) (by omega) HFc.out _ C17.out).mono ?_
        rintro e w18 ⟨at4, ct4, rfl, ho, hb⟩
        obtain ⟨M, hM⟩ : ∃ M, M = scanB cs rg (sc : Int) := ⟨_, rfl⟩
        have HM : Hid (M = scanB cs rg (sc : Int)) := hM
        have hml : M.length ≤ 24 := by rw [hM]; exact Nat.le_trans scan_len hcl
        rw [← hM] at ho ⊢
        clear hM
        have C18 : Hid (GRow encV w18 ac cs) := C17.out.below hb
        have BX18 : Hid (Bx w18 w7.heap.size [.string rg.1, .string rg.2]) := BX17.out.below hb
        have HB18 : Hid (Below w.heap.size w w18) := HB17.out.trans ((hb).mono HB17.out.size)
        clear C17 HB17 BX17
        have V18 : Hid (GRow encR w18 at4 M) := ho.grow
        clear hb
        go_wp2_with fail
        refine hK.out _ _ ⟨BX18.out.c0, BX18.out.c1⟩ (fun hHeld18 => ?_)
        clear hK K
        refine wpAnyH_ready (rs := [50]) (by kernel_rfl) (by simp) ?_
        refine AllReadyH.cons rfl (fun K hK => ?_) AllReadyH.nil
        go_simp
        go_wp2_with fail
        refine (sscan cs ac _ rg (sc : Int) (by omega) _ C18.out).mono ?_
        rintro e w19 ⟨at5, ct5, rfl, ho, hb⟩
        rw [← HM.out] at ho ⊢
        have C19 : Hid (GRow encV w19 ac cs) := C18.out.below hb
        have V19 : Hid (GRow encR w19 at4 M) := V18.out.below hb
        have BX19 : Hid (Bx w19 w7.heap.size [.string rg.1, .string rg.2]) := BX18.out.below hb
        have HB19 : Hid (Below w.heap.size w w19) := HB18.out.trans ((hb).mono HB18.out.size)
        clear C18 V18 HB18 BX18
        have Z19 : Hid (GRow encR w19 at5 M) := ho.grow
        clear hb
        go_wp2_with fail
        refine hK.out _ _ ⟨BX19.out.c0, BX19.out.c1⟩ (fun hHeld19 => ?_)
        clear hK K
        refine wpAnyH_ready (rs := [51]) (by kernel_rfl) (by simp) ?_
        refine AllReadyH.cons rfl (fun K hK => ?_) AllReadyH.nil
        go_simp
        go_wp2_with fail
        refine (lpairs M M at4 at5 _ _ (by omega) _ V19.out Z19.out).mono ?_
        rintro e w20 ⟨rfl, hb⟩
        rw [decide_eq_true rfl]
        have BX20 : Hid (Bx w20 w7.heap.size [.string rg.1, .string rg.2]) := BX19.out.below hb
        have HB20 : Hid (Below w.heap.size w w20) := HB19.out.trans ((hb).mono HB19.out.size)
        clear HB19 BX19
        clear hb
        go_wp2_with fail
        refine hK.out _ _ ⟨BX20.out.c0, BX20.out.c1⟩ (fun hHeld20 => ?_)
        clear hK K
        (refine wpAnyH_take (i := 52) (v := ?_) rfl (by kernel_rfl) (by kernel_rfl) (by kernel_rfl) (fun _ _ _ h => h) (Or.inl ⟨by rfl, ?_⟩) (by assumption) ?_; rotate_left; (focus (intro w hSw; (try dsimp only at hSw); go_simp; (try with_reducible rfl); done)); simp only [Act.put, List.getElem_toArray, List.getElem_cons_zero, List.getElem_cons_succ, List.setIfInBounds_toArray, List.set_cons_zero, List.set_cons_succ])
        (refine wpAnyH_take (i := 53) (v := ?_) rfl (by kernel_rfl) (by kernel_rfl) (by kernel_rfl) (fun _ _ _ h => h) (Or.inl ⟨by rfl, ?_⟩) (by assumption) ?_; rotate_left; (focus (intro w hSw; (try dsimp only at hSw); go_simp; (try with_reducible rfl); done)); simp only [Act.put, List.getElem_toArray, List.getElem_cons_zero, List.getElem_cons_succ, List.setIfInBounds_toArray, List.set_cons_zero, List.set_cons_succ])
        refine wpAnyH_done (by kernel_rfl) ?_ _
        go_wp2
        go_ret
        exact ⟨rfl, HB20.out⟩
  · rw [decide_eq_true (by omega)] at HBG
    go_enter Try.func4, Try.ntmps4
    go_wp2_with fail
    refine (HBG.out _).mono ?_
    rintro e w ⟨rfl, rfl⟩
    go_wp2
    go_ret
    exact ⟨rfl, belowRefl _⟩
end Go.Proofs.Ytnlfojaflgehbaa

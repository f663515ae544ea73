/- What else is drawn for trims; sameVersions of alike lists. -/
import Derived.Test.YtnlfojaflgehbaaU5
import Derived.Test.YtnlfojaflgehbaaD4
import Derived.Test.YtnlfojaflgehbaaS2
namespace Go.Proofs.Ytnlfojaflgehbaa
open Go.RowKit
open KM
open VM
attribute [local go_sem ↓] Go.wp_at_zero Go.wp_at_succ

set_option maxRecDepth 100000 in
set_option maxHeartbeats 1000000 in
theorem lvers (xs : List Vr) (a1 a2 : Option Addr) (c1 c2 : Nat) (hn : xs.length ≤ 100000000) (w : World) (h1 : GRow encV w a1 xs) (h2 : GRow encV w a2 xs) :
    Calls Try.prog 26 #[.slice a1 xs.length c1, .slice a2 xs.length c2] w fun e w' => e = .returned (.bool true) ∧ Below w.heap.size w w' := by
  have H1 : Hid (GRow encV w a1 xs) := h1
  have H2 : Hid (GRow encV w a2 xs) := h2
  clear h1 h2
  go_enter Try.func26, Try.ntmps26
  go_wp2
  go_loopw [5] (fun t wr => ∃ k : Nat, k ≤ xs.length ∧ t = .int .i64 k ∧ Hid (Below w.heap.size w wr)) (fun t _ => xs.length - (intOf t).toNat)
  case atStart => exact ⟨0, Nat.zero_le _, rfl, Below.refl _ _⟩
  case round =>
    obtain ⟨k, hk, rfl, HB⟩ := hrel
    by_cases hlt : k < xs.length
    · have hlt' : (k : Int) < (xs.length : Int) := by omega
      have h0 : (0 : Int) ≤ (k : Int) := by omega
      obtain ⟨b1, o1, rfl, hb1, q1⟩ := (H1.out.below HB.out) (by omega)
      obtain ⟨b2, o2, rfl, hb2, q2⟩ := (H2.out.below HB.out) (by omega)
      obtain ⟨r0, r1, r2, r3⟩ := vat q1 k hlt
      obtain ⟨s0, s1, s2, s3⟩ := vat q2 k hlt
      clear q1 q2
      go_wp2
      refine wp_region_held_drew (S := fun w' => w'.cell? ⟨b1, o1 + k * 4, none⟩ = some (.string xs[k].1) ∧ w'.cell? ⟨b1, o1 + k * 4 + 1, none⟩ = some (.string xs[k].2.1) ∧ w'.cell? ⟨b1, o1 + k * 4 + 2, none⟩ = some (.bool xs[k].2.2.1) ∧ w'.cell? ⟨b1, o1 + k * 4 + 3, none⟩ = some (.int .i64 xs[k].2.2.2) ∧ w'.cell? ⟨b2, o2 + k * 4, none⟩ = some (.string xs[k].1) ∧ w'.cell? ⟨b2, o2 + k * 4 + 1, none⟩ = some (.string xs[k].2.1) ∧ w'.cell? ⟨b2, o2 + k * 4 + 2, none⟩ = some (.bool xs[k].2.2.1) ∧ w'.cell? ⟨b2, o2 + k * 4 + 3, none⟩ = some (.int .i64 xs[k].2.2.2)) (by kernel_rfl) ⟨r0, r1, r2, r3, s0, s1, s2, s3⟩ (fun hHeld => ?_)
      (refine wpAnyH_take (i := 0) (v := ?_) rfl (by kernel_rfl) (by kernel_rfl) (by kernel_rfl) (fun _ _ _ h => h) (Or.inl ⟨by rfl, ?_⟩) (by assumption) ?_; rotate_left; (focus (intro w hSw; (try dsimp only at hSw); go_simp; (try with_reducible rfl); done)); simp only [Act.put, List.getElem_toArray, List.getElem_cons_zero, List.setIfInBounds_toArray, List.set_cons_zero, List.set_cons_succ])
      (refine wpAnyH_take (i := 1) (v := ?_) rfl (by kernel_rfl) (by kernel_rfl) (by kernel_rfl) (fun _ _ _ h => h) (Or.inl ⟨by rfl, ?_⟩) (by assumption) ?_; rotate_left; (focus (intro w hSw; (try dsimp only at hSw); go_simp; (try with_reducible rfl); done)); simp only [Act.put, List.getElem_toArray, List.getElem_cons_zero, List.getElem_cons_succ, List.setIfInBounds_toArray, List.set_cons_zero, List.set_cons_succ])
      (refine wpAnyH_take (i := 2) (v := ?_) rfl (by kernel_rfl) (by kernel_rfl) (by kernel_rfl) (fun _ _ _ h => h) (Or.inl ⟨by rfl, ?_⟩) (by assumption) ?_; rotate_left; (focus (intro w hSw; (try dsimp only at hSw); go_simp; (try with_reducible rfl); done)); simp only [Act.put, List.getElem_toArray, List.getElem_cons_zero, List.getElem_cons_succ, List.setIfInBounds_toArray, List.set_cons_zero, List.set_cons_succ])
      (refine wpAnyH_take (i := 3) (v := ?_) rfl (by kernel_rfl) (by kernel_rfl) (by kernel_rfl) (fun _ _ _ h => h) (Or.inl ⟨by rfl, ?_⟩) (by assumption) ?_; rotate_left; (focus (intro w hSw; (try dsimp only at hSw); go_simp; (try with_reducible rfl); done)); simp only [Act.put, List.getElem_toArray, List.getElem_cons_zero, List.getElem_cons_succ, List.setIfInBounds_toArray, List.set_cons_zero, List.set_cons_succ])
      (refine wpAnyH_take (i := 4) (v := ?_) rfl (by kernel_rfl) (by kernel_rfl) (by kernel_rfl) (fun _ _ _ h => h) (Or.inl ⟨by rfl, ?_⟩) (by assumption) ?_; rotate_left; (focus (intro w hSw; (try dsimp only at hSw); go_simp; (try with_reducible rfl); done)); simp only [Act.put, List.getElem_toArray, List.getElem_cons_zero, List.getElem_cons_succ, List.setIfInBounds_toArray, List.set_cons_zero, List.set_cons_succ])
      (refine wpAnyH_take (i := 5) (v := ?_) rfl (by kernel_rfl) (by kernel_rfl) (by kernel_rfl) (fun _ _ _ h => h) (Or.inl ⟨by rfl, ?_⟩) (by assumption) ?_; rotate_left; (focus (intro w hSw; (try dsimp only at hSw); go_simp; (try with_reducible rfl); done)); simp only [Act.put, List.getElem_toArray, List.getElem_cons_zero, List.getElem_cons_succ, List.setIfInBounds_toArray, List.set_cons_zero, List.set_cons_succ])
      (refine wpAnyH_take (i := 6) (v := ?_) rfl (by kernel_rfl) (by kernel_rfl) (by kernel_rfl) (fun _ _ _ h => h) (Or.inl ⟨by rfl, ?_⟩) (by assumption) ?_; rotate_left; (focus (intro w hSw; (try dsimp only at hSw); go_simp; (try with_reducible rfl); done)); simp only [Act.put, List.getElem_toArray, List.getElem_cons_zero, List.getElem_cons_succ, List.setIfInBounds_toArray, List.set_cons_zero, List.set_cons_succ])
      (refine wpAnyH_take (i := 7) (v := ?_) rfl (by kernel_rfl) (by kernel_rfl) (by kernel_rfl) (fun _ _ _ h => h) (Or.inl ⟨by rfl, ?_⟩) (by assumption) ?_; rotate_left; (focus (intro w hSw; (try dsimp only at hSw); go_simp; (try with_reducible rfl); done)); simp only [Act.put, List.getElem_toArray, List.getElem_cons_zero, List.getElem_cons_succ, List.setIfInBounds_toArray, List.set_cons_zero, List.set_cons_succ])
      (refine wpAnyH_take (i := 8) (v := ?_) rfl (by kernel_rfl) (by kernel_rfl) (by kernel_rfl) (fun _ _ _ h => h) (Or.inl ⟨by rfl, ?_⟩) (by assumption) ?_; rotate_left; (focus (intro w hSw; (try dsimp only at hSw); go_simp; (try with_reducible rfl); done)); simp only [Act.put, List.getElem_toArray, List.getElem_cons_zero, List.getElem_cons_succ, List.setIfInBounds_toArray, List.set_cons_zero, List.set_cons_succ])
      refine wpAnyH_done (by kernel_rfl) ?_ _
      go_wp2
      go_roundw
      case rel => exact ⟨k + 1, by omega, by go_num, HB.out.drew⟩
      case measure => simp [intOf]; omega
    · have hd : ¬ (k : Int) < (xs.length : Int) := by omega
      go_wp2
      go_ret
      exact ⟨rfl, HB.out⟩

/-- twelve numbers below 10000 -/
def Plc (xs : List Int) : Prop := (∀ x ∈ xs, ∃ n : Nat, x = (n : Int) ∧ n < 10000) ∧ xs.length = 12
set_option maxRecDepth 100000 in
set_option maxHeartbeats 1000000 in
theorem dPlaces (len cap : Nat) (a : Option Addr) (hl : len ≤ 1048576) (w : World) (hr : CodeRow w a len) :
    Calls Try.prog 21 #[.slice a len cap] w fun e w' => ∃ (xs : List Int) (a1 : Option Addr) (c1 : Nat), Plc xs ∧ e = .returned (.slice a1 xs.length c1) ∧ GOwn encI 3 w' w.heap.size (.slice a1 xs.length c1) xs ∧ Below w.heap.size w w' := by
  have HR : Hid (CodeRow w a len) := hr
  clear hr
  go_enter Try.func21, Try.ntmps21
  go_wp2_with fail
  refine (drNew len cap a hl _ HR.out).mono ?_
  rintro e w1 ⟨rfl, hc, hb⟩
  have HC : Hid (CurI w1 w.heap.size a len cap) := hc
  have HB : Hid (Below w.heap.size w w1) := hb
  have hgl : w.heap.size < w1.heap.size := hc.lt
  clear hc hb
  go_wp2_with fail
  refine (byteOk w.heap.size len cap a hl _ HC.out.c).mono ?_
  rintro e w2 ⟨x, hx, rfl, hc2, hg2⟩
  have D2 : Hid (Dn w1 w2 w.heap.size a len cap) := ⟨⟨hc2, Nat.lt_of_lt_of_le hgl hg2.size, hl⟩, hg2, HC.out.old⟩
  clear hc2 hg2
  go_wp2
  go_loopw [4, 5] (fun v t wr => ∃ (k : Nat) (xs : List Int), k ≤ 12 ∧ t = .int .i64 k ∧ xs.length = k ∧ Hid (∀ x ∈ xs, ∃ n : Nat, x = (n : Int) ∧ n < 10000) ∧ Hid (GOwn encI 3 wr w1.heap.size v xs) ∧ Hid (Dn w1 wr w.heap.size a len cap)) (fun _ t _ => 12 - (intOf t).toNat)
  case atStart => exact ⟨0, [], by omega, rfl, rfl, (fun x hx => by cases hx), GOwn.empty _ _ D2.out.size, D2.out.alloc _⟩
  case round =>
    obtain ⟨k, xs, hk, rfl, hxl, HX, HO, HD⟩ := hrel
    by_cases hlt : k < 12
    · have hlt' : (k : Int) < 12 := by omega
      go_wp2_with fail
      refine (drBelow w.heap.size len cap a 10000 (by omega) (by omega) _ HD.out.c).mono ?_
      rintro e w3 ⟨n, hn, rfl, d3⟩
      have D3 : Hid (Dn w1 w3 w.heap.size a len cap) := HD.out.step d3
      have O3 := hide (HO.out.keptD d3 hgl)
      clear d3
      go_wp2_with (at_builtin; refine wpAppI rfl _ _ rfl (n : Int) rfl O3.out rfl (by omega) D3.out.size ?_)
      intro v' w' ho' hb'
      have O4 := hide ho'
      have D4 : Hid (Dn w1 w' w.heap.size a len cap) := D3.out.belowB hb'
      have HX2 : Hid (∀ x ∈ xs ++ [(n : Int)], ∃ n : Nat, x = (n : Int) ∧ n < 10000) := fun x hx => by
        rcases List.mem_append.1 hx with h | h
        · exact HX.out x h
        · exact ⟨n, List.mem_singleton.1 h, hn⟩
      clear ho' hb'
      go_wp2
      go_roundw
      case rel => exact ⟨k + 1, xs ++ [(n : Int)], by omega, by go_num, by simp; exact hxl, HX2, O4, D4⟩
      case measure => simp [intOf]; omega
    · have hlt' : ¬ (k : Int) < 12 := by omega
      have ho := HO.out
      obtain ⟨a1, c1, rfl, _⟩ := ho.row
      have HO1 : Hid (GOwn encI 3 wr w.heap.size (.slice a1 xs.length c1) xs) := ho.mono HB.out.size
      have HB2 : Hid (Below w.heap.size w wr) := HD.out.out HB.out (Nat.le_refl _) HB.out.size
      have h12 : xs.length = 12 := by omega
      have H12 : Hid (xs.length = 12) := h12
      clear ho HO h12 hxl
      go_wp2
      go_ret
      exact ⟨xs, ⟨HX.out, H12.out⟩, a1, c1, rfl, HO1.out, HB2.out⟩

set_option maxRecDepth 100000 in
set_option maxHeartbeats 1000000 in
theorem dTrimmed (len cap : Nat) (a : Option Addr) (hl : len ≤ 1048576) (w : World) (hr : CodeRow w a len) :
    Calls Try.prog 23 #[.slice a len cap] w fun e w' => ∃ (xs : List Vr) (a1 : Option Addr) (c1 : Nat) (s : Nat), VFit xs ∧ xs.length ≤ 24 ∧ e = .returned (.tuple #[.slice a1 xs.length c1, .int .i64 (s : Int)]) ∧ GRow encV w' a1 xs ∧ Below w.heap.size w w' := by
  have HR : Hid (CodeRow w a len) := hr
  clear hr
  go_enter Try.func23, Try.ntmps23
  go_wp2_with fail
  refine (drNew len cap a hl _ HR.out).mono ?_
  rintro e w1 ⟨rfl, hc, hb⟩
  have HC : Hid (CurI w1 w.heap.size a len cap) := hc
  have HB : Hid (Below w.heap.size w w1) := hb
  clear hc hb
  go_wp2_with fail
  refine (drBelow w.heap.size len cap a 10 (by omega) (by omega) _ HC.out).mono ?_
  rintro e w3 ⟨s, hs, rfl, d3⟩
  have D3 : Hid (Dn w1 w3 w.heap.size a len cap) := d3
  clear d3
  go_wp2_with fail
  refine (drAnyV w.heap.size len cap a _ D3.out.c).mono ?_
  rintro e w4 ⟨xs, a1, c1, hv, hx, rfl, ho, d4⟩
  have HV : Hid (VFit xs) := hv
  have HO : Hid (GRow encV w4 a1 xs) := ho.grow
  have HB2 : Hid (Below w.heap.size w w4) := (D3.out.step d4).out HB.out (Nat.le_refl _) HB.out.size
  clear hv ho d4
  go_wp2
  go_ret2
  exact ⟨xs, a1, c1, s, HV.out, hx, rfl, HO.out, HB2.out⟩

set_option maxRecDepth 100000 in
set_option maxHeartbeats 1000000 in
theorem dSameFrom (len cap : Nat) (a : Option Addr) (hl : len ≤ 1048576) (w : World) (hr : CodeRow w a len) :
    Calls Try.prog 24 #[.slice a len cap] w fun e w' => ∃ (xs ys : List Vr) (a1 a2 : Option Addr) (c1 c2 : Nat) (s : Nat), VFit xs ∧ VFit ys ∧ xs.length ≤ 24 ∧ ys.length ≤ 24 ∧ e = .returned (.tuple #[.slice a1 xs.length c1, .slice a2 ys.length c2, .int .i64 (s : Int)]) ∧ GRow encV w' a1 xs ∧ GRow encV w' a2 ys ∧ Below w.heap.size w w' := by
  have HR : Hid (CodeRow w a len) := hr
  clear hr
  go_enter Try.func24, Try.ntmps24
  go_wp2_with fail
  refine (drNew len cap a hl _ HR.out).mono ?_
  rintro e w1 ⟨rfl, hc, hb⟩
  have HC : Hid (CurI w1 w.heap.size a len cap) := hc
  have HB : Hid (Below w.heap.size w w1) := hb
  clear hc hb
  go_wp2_with fail
  refine (drBelow w.heap.size len cap a 10 (by omega) (by omega) _ HC.out).mono ?_
  rintro e w3 ⟨s, hs, rfl, d3⟩
  have D3 : Hid (Dn w1 w3 w.heap.size a len cap) := d3
  clear d3
  go_wp2_with fail
  refine (drAnyV w.heap.size len cap a _ D3.out.c).mono ?_
  rintro e w4 ⟨xs, a1, c1, hv, hx, rfl, ho, d4⟩
  have HV : Hid (VFit xs) := hv
  have D4 : Hid (Dn w1 w4 w.heap.size a len cap) := D3.out.step d4
  have O4 : Hid (GOwn encV 74 w4 w3.heap.size (.slice a1 xs.length c1) xs) := ho
  have hg3 : w.heap.size < w3.heap.size := D3.out.c.lt
  clear hv ho d4
  go_wp2_with fail
  refine (drOnce w.heap.size len cap a 2 (by omega) (by omega) _ D4.out.c).mono ?_
  rintro e w5 ⟨b, rfl, d5⟩
  have D5 : Hid (Dn w1 w5 w.heap.size a len cap) := D4.out.step d5
  have O5 : Hid (GOwn encV 74 w5 w3.heap.size (.slice a1 xs.length c1) xs) := O4.out.keptD d5 hg3
  clear d5 O4
  cases b
  · go_wp2_with fail
    refine (drAnyV w.heap.size len cap a _ D5.out.c).mono ?_
    rintro e w6 ⟨ys, a2, c2, hv, hy, rfl, ho, d6⟩
    have HV2 : Hid (VFit ys) := hv
    have O6 : Hid (GRow encV w6 a1 xs) := (O5.out.keptD d6 hg3).grow
    have P6 : Hid (GRow encV w6 a2 ys) := ho.grow
    have HB2 : Hid (Below w.heap.size w w6) := (D5.out.step d6).out HB.out (Nat.le_refl _) HB.out.size
    clear hv ho d6
    go_wp2
    go_ret3
    exact ⟨xs, ys, a1, a2, c1, c2, s, HV.out, HV2.out, hx, hy, rfl, O6.out, P6.out, HB2.out⟩
  · go_wp2_with fail
    refine (strim xs a1 c1 (s : Int) (by omega) _ O5.out.grow).mono ?_
    rintro e w6 ⟨a2, c2, rfl, ho, hb6⟩
    have O6 : Hid (GRow encV w6 a1 xs) := O5.out.grow.below hb6
    have P6 : Hid (GRow encV w6 a2 (trimB (s : Int) xs)) := ho.grow
    have HB2 : Hid (Below w.heap.size w w6) := (D5.out.below hb6).out HB.out (Nat.le_refl _) HB.out.size
    have hy := Nat.le_trans (trim_len (s : Int) xs) hx
    have HV2 : Hid (VFit (trimB (s : Int) xs)) := fun v hv => HV.out v (trim_sub hv)
    clear ho hb6
    go_wp2
    go_ret3
    exact ⟨xs, _, a1, a2, c1, c2, s, HV.out, HV2.out, hx, hy, rfl, O6.out, P6.out, HB2.out⟩

set_option maxRecDepth 100000 in
set_option maxHeartbeats 1000000 in
theorem dScanAt (len cap : Nat) (a : Option Addr) (hl : len ≤ 1048576) (w : World) (hr : CodeRow w a len) :
    Calls Try.prog 25 #[.slice a len cap] w fun e w' => ∃ (xs : List Vr) (a1 : Option Addr) (c1 : Nat) (r : Rg) (s : Nat), VFit xs ∧ xs.length ≤ 24 ∧ e = .returned (.tuple #[.slice a1 xs.length c1, .agg #[.string r.1, .string r.2], .int .i64 (s : Int)]) ∧ GRow encV w' a1 xs ∧ Below w.heap.size w w' := by
  have HB0 : Hid (Below w.heap.size w (w.alloc (.cells #[.string ⟨#[]⟩, .string ⟨#[]⟩] 40))) := (belowRefl w).alloc (Nat.le_refl _) _
  have HR : Hid (CodeRow (w.alloc (.cells #[.string ⟨#[]⟩, .string ⟨#[]⟩] 40)) a len) := hr.below HB0.out
  have BZ0 : Hid (Bx (w.alloc (.cells #[.string ⟨#[]⟩, .string ⟨#[]⟩] 40)) w.heap.size [.string ⟨#[]⟩, .string ⟨#[]⟩]) := Bx.new w [.string ⟨#[]⟩, .string ⟨#[]⟩] 40
  have hz0 : w.heap.size < (w.alloc (.cells #[.string ⟨#[]⟩, .string ⟨#[]⟩] 40)).heap.size := BZ0.out.lt
  clear hr
  go_enter Try.func25, Try.ntmps25
  go_wp2_with fail
  generalize (w.alloc (.cells #[.string ⟨#[]⟩, .string ⟨#[]⟩] 40)) = W at *
  refine (drNew len cap a hl _ HR.out).mono ?_
  rintro e w1 ⟨rfl, hc, hb⟩
  have HC : Hid (CurI w1 W.heap.size a len cap) := hc
  have HB1 : Hid (Below W.heap.size W w1) := hb
  have BZ1 : Hid (Bx w1 w.heap.size [.string ⟨#[]⟩, .string ⟨#[]⟩]) := BZ0.out.below hb
  have hg1 : W.heap.size < w1.heap.size := hc.lt
  clear hc hb
  go_wp2_with fail
  refine (drRange W.heap.size len cap a _ HC.out).mono ?_
  rintro e w2 ⟨r, _, rfl, d2⟩
  have D2 : Hid (Dn w1 w2 W.heap.size a len cap) := d2
  have BZ2 : Hid (Bx w2 w.heap.size [.string ⟨#[]⟩, .string ⟨#[]⟩]) := BZ1.out.keptD d2 (by omega)
  have hg2 : W.heap.size < w2.heap.size := d2.c.lt
  clear d2
  have BR2 : Hid (Bx (w2.alloc (.cells #[.string r.1, .string r.2] 40)) w2.heap.size [.string r.1, .string r.2]) := Bx.new w2 [.string r.1, .string r.2] 40
  go_wp2_with fail
  refine (drBelow W.heap.size len cap a 10 (by omega) (by omega) _ (D2.out.c.alloc _)).mono ?_
  rintro e w3 ⟨s, hs, rfl, d3⟩
  have D3 : Hid (Dn w1 w3 W.heap.size a len cap) := (D2.out.alloc _).step d3
  have BZ3 : Hid (Bx w3 w.heap.size [.string ⟨#[]⟩, .string ⟨#[]⟩]) := (BZ2.out.alloc _).keptD d3 (by omega)
  have BR3 : Hid (Bx w3 w2.heap.size [.string r.1, .string r.2]) := BR2.out.keptD d3 (by omega)
  clear d3
  have x0 := BR3.out.c0
  have x1 := BR3.out.c1
  go_wp2
  refine wp_region_held_drew (S := fun w' => w'.cell? ⟨w2.heap.size, 0, none⟩ = some (.string r.1) ∧ w'.cell? ⟨w2.heap.size, 1, none⟩ = some (.string r.2)) (by kernel_rfl) ⟨x0, x1⟩ (fun hHeld => ?_)
  (refine wpAnyH_take (i := 0) (v := ?_) rfl (by kernel_rfl) (by kernel_rfl) (by kernel_rfl) (fun _ _ _ h => h) (Or.inl ⟨by rfl, ?_⟩) (by assumption) ?_; rotate_left; (focus (intro w hSw; (try dsimp only at hSw); go_simp; (try with_reducible rfl); done)); simp only [Act.put, List.getElem_toArray, List.getElem_cons_zero, List.setIfInBounds_toArray, List.set_cons_zero, List.set_cons_succ])
  (refine wpAnyH_take (i := 2) (v := ?_) rfl (by kernel_rfl) (by kernel_rfl) (by kernel_rfl) (fun _ _ _ h => h) (Or.inl ⟨by rfl, ?_⟩) (by assumption) ?_; rotate_left; (focus (intro w hSw; (try dsimp only at hSw); go_simp; (try with_reducible rfl); done)); simp only [Act.put, List.getElem_toArray, List.getElem_cons_zero, List.getElem_cons_succ, List.setIfInBounds_toArray, List.set_cons_zero, List.set_cons_succ])
  (refine wpAnyH_take (i := 3) (v := ?_) rfl (by kernel_rfl) (by kernel_rfl) (by kernel_rfl) (fun _ _ _ h => h) (Or.inl ⟨by rfl, ?_⟩) (by assumption) ?_; rotate_left; (focus (intro w hSw; (try dsimp only at hSw); go_simp; (try with_reducible rfl); done)); simp only [Act.put, List.getElem_toArray, List.getElem_cons_zero, List.getElem_cons_succ, List.setIfInBounds_toArray, List.set_cons_zero, List.set_cons_succ])
  refine wpAnyH_ready (rs := [1]) (by kernel_rfl) (by simp) ?_
  refine AllReadyH.cons rfl (fun K hK => ?_) AllReadyH.nil
  go_simp
  go_wp2_with fail
  refine (drAnyV W.heap.size len cap a _ D3.out.c.drew).mono ?_
  rintro e w4 ⟨xs, a1, c1, hv, hx, rfl, ho, d4⟩
  have HV : Hid (VFit xs) := hv
  have O4 : Hid (GOwn encV 74 w4 w3.drew.heap.size (.slice a1 xs.length c1) xs) := ho
  have D4 : Hid (Dn w1 w4 W.heap.size a len cap) := D3.out.drew.step d4
  have BZ4 : Hid (Bx w4 w.heap.size [.string ⟨#[]⟩, .string ⟨#[]⟩]) := BZ3.out.drew.keptD d4 (by omega)
  have BR4 : Hid (Bx w4 w2.heap.size [.string r.1, .string r.2]) := BR3.out.drew.keptD d4 (by omega)
  clear hv ho d4
  go_wp2_with fail
  refine hK.out _ _ ⟨BR4.out.c0, BR4.out.c1⟩ (fun hHeld2 => ?_)
  clear hK K
  (refine wpAnyH_take (i := 4) (v := ?_) rfl (by kernel_rfl) (by kernel_rfl) (by kernel_rfl) (fun _ _ _ h => h) (Or.inl ⟨by rfl, ?_⟩) (by assumption) ?_; rotate_left; (focus (intro w hSw; (try dsimp only at hSw); go_simp; (try with_reducible rfl); done)); simp only [Act.put, List.getElem_toArray, List.getElem_cons_zero, List.getElem_cons_succ, List.setIfInBounds_toArray, List.set_cons_zero, List.set_cons_succ])
  refine wpAnyH_ready (rs := [5]) (by kernel_rfl) (by simp) ?_
  refine AllReadyH.cons rfl (fun K hK => ?_) AllReadyH.nil
  have z0 := BZ4.out.c0
  have z1 := BZ4.out.c1
  have zf := BZ4.out.fz
  go_simp
  have BR5 := (BR4.out.setO (p := ⟨w.heap.size, 0, none⟩) (show w.heap.size ≠ w2.heap.size by omega) (.string r.1)).setO (p := ⟨w.heap.size, 1, none⟩) (show w.heap.size ≠ w2.heap.size by omega) (.string r.2)
  refine hK.out _ _ ⟨BR5.c0, BR5.c1⟩ (fun hHeld3 => ?_)
  clear hK K
  (refine wpAnyH_take (i := 6) (v := ?_) rfl (by kernel_rfl) (by kernel_rfl) (by kernel_rfl) (fun _ _ _ h => h) (Or.inl ⟨by rfl, ?_⟩) (by assumption) ?_; rotate_left; (focus (intro w hSw; (try dsimp only at hSw); go_simp; (try with_reducible rfl); done)); simp only [Act.put, List.getElem_toArray, List.getElem_cons_zero, List.getElem_cons_succ, List.setIfInBounds_toArray, List.set_cons_zero, List.set_cons_succ])
  refine wpAnyH_done (by kernel_rfl) ?_ _
  have hw3 : w.heap.size < w3.drew.heap.size := Nat.lt_of_lt_of_le (Nat.lt_trans hz0 hg1) D3.out.size
  have O5 : Hid (GRow encV ((w4.setCell ⟨w.heap.size, 0, none⟩ (.string r.1)).setCell ⟨w.heap.size, 1, none⟩ (.string r.2)) a1 xs) := ((O4.out.set (a := ⟨w.heap.size, 0, none⟩) hw3 (.string r.1)).set (a := ⟨w.heap.size, 1, none⟩) hw3 (.string r.2)).grow
  have HB5 : Hid (Below w.heap.size w ((w4.setCell ⟨w.heap.size, 0, none⟩ (.string r.1)).setCell ⟨w.heap.size, 1, none⟩ (.string r.2))) := by
    have h1 : Below W.heap.size W w4 := D4.out.out HB1.out (Nat.le_refl _) HB1.out.size
    have h2 : Below w.heap.size w w4 := HB0.out.trans (h1.mono HB0.out.size)
    exact (h2.setCell (Nat.le_refl _) _).setCell (Nat.le_refl _) _
  have BF := (BZ4.out.set 0 (.string r.1)).set 1 (.string r.2)
  have e0 := BF.c0
  have e1 := BF.c1
  go_wp2
  exact bodyPost_ret (v := .tuple #[.slice a1 xs.length c1, .agg #[.string r.1, .string r.2], .int .i64 (s : Int)]) (by simp [results, Try.results25, go_sem, e0, e1]) rfl ⟨xs, a1, c1, r, s, HV.out, hx, rfl, O5.out, HB5.out⟩
end Go.Proofs.Ytnlfojaflgehbaa

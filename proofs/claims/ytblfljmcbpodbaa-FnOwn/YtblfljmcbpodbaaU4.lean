/- Versions that are drawn. -/
import Derived.Test.YtblfljmcbpodbaaUM
namespace Go.Proofs.Ytblfljmcbpodbaa
open Go.RowKit
open KM
open VM
attribute [local go_sem ↓] Go.wp_at_zero Go.wp_at_succ

set_option maxRecDepth 100000 in
set_option maxHeartbeats 1000000 in
theorem drVersions (g len cap : Nat) (a : Option Addr) (w : World) (hc : CurI w g a len cap) :
    Calls Try.prog 49 #[.pointer (some ⟨g, 0, none⟩)] w fun e w' => ∃ (xs : List Vr) (a1 : Option Addr) (c1 : Nat), VsD 8 xs ∧ xs.length ≤ 24 ∧ e = .returned (.slice a1 xs.length c1) ∧ GOwn encV 91 w' w.heap.size (.slice a1 xs.length c1) xs ∧ Dn w w' g a len cap := by
  have HC : Hid (CurI w g a len cap) := hc
  have hgl : g < w.heap.size := hc.lt
  clear hc
  go_enter Try.func49, Try.ntmps49
  go_wp2
  go_loopw [3, 4] (fun v t wr => ∃ (k : Nat) (xs : List Vr) (a1 : Option Addr) (c1 : Nat), k ≤ 8 ∧ t = .int .i64 k ∧ v = .slice a1 xs.length c1 ∧ xs.length ≤ 3 * k ∧ Hid (VsD k xs) ∧ Hid (GOwn encV 91 wr w.heap.size (.slice a1 xs.length c1) xs) ∧ Hid (Dn w wr g a len cap)) (fun _ t _ => 9 - (intOf t).toNat)
  case atStart => exact ⟨0, [], _, _, by omega, rfl, rfl, Nat.le_refl _, vsd_nil, GOwn.empty _ _ (Nat.le_refl _), (Dn.start HC.out).alloc _⟩
  case round =>
    obtain ⟨k, xs, a1, c1, hk, rfl, rfl, hxl, HS, HO, HD⟩ := hrel
    go_wp2_with fail
    refine (drBelow g len cap a 8 (by omega) (by omega) _ HD.out.c).mono ?_
    rintro e w1 ⟨n, hn, rfl, d1⟩
    have D1 : Hid (Dn w w1 g a len cap) := HD.out.step d1
    have O1 : Hid (GOwn encV 91 w1 w.heap.size (.slice a1 xs.length c1) xs) := HO.out.keptD d1 hgl
    clear d1
    by_cases hlt : k < n
    · have hlt' : (k : Int) < (n : Int) := by omega
      go_wp2_with fail
      refine (drWrites g len cap a _ D1.out.c).mono ?_
      rintro e w2 ⟨ws, a2, c2, hws, hwl, rfl, ho2, d2⟩
      have D2 : Hid (Dn w w2 g a len cap) := D1.out.step d2
      have O2 : Hid (GOwn encV 91 w2 w.heap.size (.slice a1 xs.length c1) xs) := O1.out.keptD d2 hgl
      have HW : Hid (WsD ws) := hws
      have HR : Hid (GRow encW w2 a2 ws) := ho2.grow
      clear d2 hws ho2
      go_wp2_with fail
      refine (sputv xs ws (.slice a1 xs.length c1) a2 c2 ((k : Int) + 1) w.heap.size (by omega) (by omega) _ O2.out HR.out).mono ?_
      rintro e w3 ⟨a3, c3, rfl, ho3, hb3⟩
      have O3 : Hid (GOwn encV 91 w3 w.heap.size (.slice a3 (putV xs ws ((k : Int) + 1)).length c3) (putV xs ws ((k : Int) + 1))) := ho3.mono D2.out.size
      have D3 : Hid (Dn w w3 g a len cap) := D2.out.below hb3
      have HS2 : Hid (VsD ((k + 1 : Nat) : Int) (putV xs ws ((k : Int) + 1))) := by
        have h := vsd_put (cs := (k : Int) + 1) HS.out HW.out (by omega) (by omega) (by omega)
        show VsD _ _
        rw [Int.natCast_add]
        exact h
      have hl2 : (putV xs ws ((k : Int) + 1)).length ≤ 3 * (k + 1) := by rw [put_len]; omega
      clear ho3 hb3
      go_wp2
      go_roundw
      case rel => exact ⟨k + 1, _, a3, c3, by omega, by go_num, rfl, hl2, HS2, O3, D3⟩
      case measure => simp [intOf]; omega
    · have hlt' : ¬ (k : Int) < (n : Int) := by omega
      have HS8 : Hid (VsD 8 xs) := HS.out.mono (by omega)
      go_wp2
      go_ret
      exact ⟨xs, a1, c1, HS8.out, by omega, rfl, O1.out, D1.out⟩

set_option maxRecDepth 100000 in
set_option maxHeartbeats 1000000 in
theorem dVersions (len cap : Nat) (a : Option Addr) (hl : len ≤ 1048576) (w : World) (hr : CodeRow w a len) :
    Calls Try.prog 13 #[.slice a len cap] w fun e w' => ∃ (xs : List Vr) (a1 : Option Addr) (c1 : Nat), VsD 8 xs ∧ xs.length ≤ 24 ∧ e = .returned (.slice a1 xs.length c1) ∧ GOwn encV 91 w' w.heap.size (.slice a1 xs.length c1) xs ∧ Below w.heap.size w w' := by
  have HR : Hid (CodeRow w a len) := hr
  clear hr
  go_enter Try.func13, Try.ntmps13
  go_wp2_with fail
  refine (drNew len cap a hl _ HR.out).mono ?_
  rintro e w1 ⟨rfl, hc, hb⟩
  have HC : Hid (CurI w1 w.heap.size a len cap) := hc
  have HB : Hid (Below w.heap.size w w1) := hb
  clear hc hb
  go_wp2_with fail
  refine (drVersions w.heap.size len cap a _ HC.out).mono ?_
  rintro e w2 ⟨xs, a1, c1, hv, hx, rfl, ho, d⟩
  have HV : Hid (VsD 8 xs) := hv
  have HO : Hid (GOwn encV 91 w2 w.heap.size (.slice a1 xs.length c1) xs) := ho.mono HB.out.size
  have HB2 : Hid (Below w.heap.size w w2) := d.out HB.out (Nat.le_refl _) HB.out.size
  clear hv ho d
  go_wp2
  go_ret
  exact ⟨xs, a1, c1, HV.out, hx, rfl, HO.out, HB2.out⟩

end Go.Proofs.Ytblfljmcbpodbaa

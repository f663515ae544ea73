/- Writes that are drawn. -/
import Derived.Test.YtbajpnbodhhmjaaNdDk
import Derived.Test.YtbajpnbodhhmjaaNdDp
import Derived.Test.YtbajpnbodhhmjaaProg
import Derived.WalkKit
import Derived.Test.YtbajpnbodhhmjaaMath
import Derived.WalkSpells
import Derived.WalkLawsBesides
import Derived.Deep.QuietTactic
import Derived.BigQuiet
import Derived.Deep.RegionHeld3
import Derived.Deep.DrawnRows
import Derived.Test.YtbajpnbodhhmjaaK1
import Derived.Test.YtbajpnbodhhmjaaK2
import Derived.Deep.AppendLies
import Derived.Test.YtbajpnbodhhmjaaBase
import Derived.Test.YtbajpnbodhhmjaaEnc
import Derived.Test.YtbajpnbodhhmjaaFit
import Derived.Test.YtbajpnbodhhmjaaDw
namespace Go.Proofs.Ytbajpnbodhhmjaa
open Go.RowKit
open KM
attribute [local go_sem ↓] Go.wp_at_zero Go.wp_at_succ

set_option maxRecDepth 100000 in
set_option maxHeartbeats 1000000 in
theorem drWrite (g len cap : Nat) (a : Option Addr) (w : World) (hc : CurI w g a len cap) :
    Calls Try.prog 42 #[.pointer (some ⟨g, 0, none⟩)] w fun e w' => ∃ x : Wt, WtD x ∧ e = .returned (.agg #[.string x.1, .string x.2.1, .bool x.2.2]) ∧ Dn w w' g a len cap := by
  have HC : Hid (CurI w g a len cap) := hc
  have hgl : g < w.heap.size := hc.lt
  have hne : w.heap.size ≠ g := Nat.ne_of_gt hc.lt
  clear hc
  go_enter Try.func42, Try.ntmps42
  go_wp2_with fail
  refine (drKey g len cap a _ (HC.out.alloc _)).mono ?_
  rintro e w1 ⟨k, hk, rfl, d1⟩
  have D1 : Hid (Dn w w1 g a len cap) := ((Dn.start HC.out).alloc _).step d1
  have B1 : Hid (Bx w1 w.heap.size [.string ⟨#[]⟩, .string ⟨#[]⟩, .bool false]) := (Bx.new w [.string ⟨#[]⟩, .string ⟨#[]⟩, .bool false] 58).keptD d1 hne
  have HK : Hid (KeyD k) := hk
  have s1 : w.heap.size < w1.heap.size := B1.out.lt
  clear d1 hk
  go_wp2_with fail
  refine (drPickN g len cap a valL 4 w1.heap.size 4 rfl (by omega) (by omega) _ (D1.out.c.alloc _) (by omega) (Bx.new w1 (valL.map Value.string) 9)).mono ?_
  rintro e w2 ⟨v, hv, rfl, d2⟩
  have D2 : Hid (Dn w w2 g a len cap) := (D1.out.alloc _).step d2
  have B2 : Hid (Bx w2 w.heap.size [.string ⟨#[]⟩, .string ⟨#[]⟩, .bool false]) := (B1.out.alloc _).keptD d2 hne
  have HV : Hid (v.size ≤ 3) := valL_ok v hv
  have s2 : w.heap.size < w2.heap.size := B2.out.lt
  clear d2 hv
  have X2 : Hid (Bx (w2.alloc (.cells #[.string k, .string v, .bool false] 58)) w2.heap.size [.string k, .string v, .bool false]) := Bx.new w2 _ 58
  go_wp2_with fail
  refine (drOnce g len cap a 5 (by omega) (by omega) _ (D2.out.c.alloc _)).mono ?_
  rintro e w3 ⟨b, rfl, d3⟩
  have D3 : Hid (Dn w w3 g a len cap) := (D2.out.alloc _).step d3
  have B3 : Hid (Bx w3 w.heap.size [.string ⟨#[]⟩, .string ⟨#[]⟩, .bool false]) := (B2.out.alloc _).keptD d3 hne
  have X3 : Hid (Bx w3 w2.heap.size [.string k, .string v, .bool false]) := X2.out.keptD d3 (by omega)
  clear d3 X2 B1 B2
  have c0 := B3.out.c0
  have c1 := B3.out.c1
  have c2 := B3.out.c2
  have fz := B3.out.fz
  have x0 := X3.out.c0
  have x1 := X3.out.c1
  have x2 := X3.out.c2
  have xf := X3.out.fz
  cases b
  · go_wp2
    have BF := ((B3.out.set 0 (.string k)).set 1 (.string v)).set 2 (.bool false)
    have e0 := BF.c0
    have e1 := BF.c1
    have e2 := BF.c2
    exact bodyPost_ret (v := .agg #[.string k, .string v, .bool false]) (by simp [results, Try.results42, go_sem, e0, e1, e2]) rfl ⟨(k, v, false), wtd_no HK.out HV.out, rfl, ((D3.out.set (Nat.le_refl _) _).set (Nat.le_refl _) _).set (Nat.le_refl _) _⟩
  · have hX : w2.heap.size ≠ w.heap.size := by omega
    go_wp2
    have BF := ((((B3.out.setO (p := ⟨w2.heap.size, 2, none⟩) (by omega) (.bool true)).setO (p := ⟨w2.heap.size, 1, none⟩) (by omega) (.string ⟨#[]⟩)).set 0 (.string k)).set 1 (.string ⟨#[]⟩)).set 2 (.bool true)
    have e0 := BF.c0
    have e1 := BF.c1
    have e2 := BF.c2
    exact bodyPost_ret (v := .agg #[.string k, .string ⟨#[]⟩, .bool true]) (by simp [results, Try.results42, go_sem, e0, e1, e2]) rfl ⟨(k, ⟨#[]⟩, true), wtd_gone HK.out, rfl, ((((D3.out.set (p := ⟨w2.heap.size, 2, none⟩) (by show _ ≤ w2.heap.size; omega) _).set (p := ⟨w2.heap.size, 1, none⟩) (by show _ ≤ w2.heap.size; omega) _).set (Nat.le_refl _) _).set (Nat.le_refl _) _).set (Nat.le_refl _) _⟩


set_option maxRecDepth 100000 in
set_option maxHeartbeats 1000000 in
theorem drWrites (g len cap : Nat) (a : Option Addr) (w : World) (hc : CurI w g a len cap) :
    Calls Try.prog 25 #[.pointer (some ⟨g, 0, none⟩)] w fun e w' => ∃ (xs : List Wt) (a1 : Option Addr) (c1 : Nat), WsD xs ∧ xs.length ≤ 3 ∧ e = .returned (.slice a1 xs.length c1) ∧ GOwn encW 58 w' w.heap.size (.slice a1 xs.length c1) xs ∧ Dn w w' g a len cap := by
  have HC : Hid (CurI w g a len cap) := hc
  have hgl : g < w.heap.size := hc.lt
  clear hc
  go_enter Try.func25, Try.ntmps25
  go_wp2
  go_loopw [3, 4] (fun v t wr => ∃ (k : Nat) (xs : List Wt) (a1 : Option Addr) (c1 : Nat), k ≤ 3 ∧ t = .int .i64 k ∧ v = .slice a1 xs.length c1 ∧ xs.length ≤ k ∧ Hid (WsD xs) ∧ Hid (GOwn encW 58 wr w.heap.size (.slice a1 xs.length c1) xs) ∧ Hid (Dn w wr g a len cap)) (fun _ t _ => 4 - (intOf t).toNat)
  case atStart => exact ⟨0, [], _, _, by omega, rfl, rfl, Nat.le_refl _, wsd_nil, GOwn.empty _ _ (Nat.le_refl _), (Dn.start HC.out).alloc _⟩
  case round =>
    obtain ⟨k, xs, a1, c1, hk, rfl, rfl, hxl, HS, HO, HD⟩ := hrel
    go_wp2_with fail
    refine (drBelow g len cap a 4 (by omega) (by omega) _ HD.out.c).mono ?_
    rintro e w1 ⟨n, hn, rfl, d1⟩
    have D1 : Hid (Dn w w1 g a len cap) := HD.out.step d1
    have O1 : Hid (GOwn encW 58 w1 w.heap.size (.slice a1 xs.length c1) xs) := HO.out.keptD d1 hgl
    clear d1
    by_cases hlt : k < n
    · have hlt' : (k : Int) < (n : Int) := by omega
      go_wp2_with fail
      refine (drWrite g len cap a _ D1.out.c).mono ?_
      rintro e w2 ⟨x, hx, rfl, d2⟩
      have D2 : Hid (Dn w w2 g a len cap) := D1.out.step d2
      have O2 : Hid (GOwn encW 58 w2 w.heap.size (.slice a1 xs.length c1) xs) := O1.out.keptD d2 hgl
      have HX : Hid (WtD x) := hx
      clear d2 hx
      go_wp2_with fail
      refine (sput xs x a1 c1 (by omega) _ O2.out.grow).mono ?_
      rintro e w3 ⟨a2, c2, rfl, ho3, hb3⟩
      have O3 : Hid (GOwn encW 58 w3 w.heap.size (.slice a2 (putS xs x).length c2) (putS xs x)) := ho3.mono D2.out.size
      have D3 : Hid (Dn w w3 g a len cap) := D2.out.below hb3
      have HS2 : Hid (WsD (putS xs x)) := wsd_put HS.out HX.out
      have hl2 : (putS xs x).length ≤ k + 1 := Nat.le_trans (len_put xs x) (by omega)
      clear ho3 hb3
      go_wp2
      go_roundw
      case rel => exact ⟨k + 1, _, a2, c2, by omega, by go_num, rfl, hl2, HS2, O3, D3⟩
      case measure => simp [intOf]; omega
    · have hlt' : ¬ (k : Int) < (n : Int) := by omega
      go_wp2
      go_ret
      exact ⟨xs, a1, c1, HS.out, by omega, rfl, O1.out, D1.out⟩

end Go.Proofs.Ytbajpnbodhhmjaa

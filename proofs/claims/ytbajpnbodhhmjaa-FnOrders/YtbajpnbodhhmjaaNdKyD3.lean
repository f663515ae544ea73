/- Drawn rows of writes and of ranges; what DrawInRange, DrawTouches, DrawMeets, DrawRangeOk and DrawKeyOk make. -/
import Derived.Test.YtbajpnbodhhmjaaNdDw
import Derived.Test.YtbajpnbodhhmjaaKyD3
namespace Go.Proofs.Ytbajpnbodhhmjaa
open Go.RowKit
open KM
attribute [local go_sem ↓] Go.wp_at_zero Go.wp_at_succ

set_option maxRecDepth 100000 in
set_option maxHeartbeats 1000000 in
theorem drRanges (g len cap : Nat) (a : Option Addr) (w : World) (hc : CurI w g a len cap) :
    Calls Try.prog 24 #[.pointer (some ⟨g, 0, none⟩)] w fun e w' => ∃ (xs : List Rg) (a1 : Option Addr) (c1 : Nat), RsD xs ∧ xs.length ≤ 3 ∧ e = .returned (.slice a1 xs.length c1) ∧ GOwn encR 56 w' w.heap.size (.slice a1 xs.length c1) xs ∧ Dn w w' g a len cap := by
  have HC : Hid (CurI w g a len cap) := hc
  have hgl : g < w.heap.size := hc.lt
  clear hc
  go_enter Try.func24, Try.ntmps24
  go_wp2
  go_loopw [3, 4] (fun v t wr => ∃ (k : Nat) (xs : List Rg), k ≤ 3 ∧ t = .int .i64 k ∧ xs.length ≤ k ∧ Hid (RsD xs) ∧ Hid (GOwn encR 56 wr w.heap.size v xs) ∧ Hid (Dn w wr g a len cap)) (fun _ t _ => 4 - (intOf t).toNat)
  case atStart => exact ⟨0, [], by omega, rfl, Nat.le_refl _, fun x hx => by simp at hx, GOwn.empty _ _ (Nat.le_refl _), (Dn.start HC.out).alloc _⟩
  case round =>
    obtain ⟨k, xs, hk, rfl, hxl, HS, HO, HD⟩ := hrel
    go_wp2_with fail
    refine (drBelow g len cap a 4 (by omega) (by omega) _ HD.out.c).mono ?_
    rintro e w1 ⟨n, hn, rfl, d1⟩
    have D1 : Hid (Dn w w1 g a len cap) := HD.out.step d1
    have O1 := hide (HO.out.keptD d1 hgl)
    clear d1
    by_cases hlt : k < n
    · have hlt' : (k : Int) < (n : Int) := by omega
      go_wp2_with fail
      refine (drRange g len cap a _ D1.out.c).mono ?_
      rintro e w2 ⟨x, hx, rfl, d2⟩
      have D2 : Hid (Dn w w2 g a len cap) := D1.out.step d2
      have O2 := hide (O1.out.keptD d2 hgl)
      have hs2 := D2.out.size
      have HS2 : Hid (RsD (xs ++ [x])) := fun y hy => by
        rcases List.mem_append.1 hy with hy | hy
        · exact HS.out y hy
        · rw [List.mem_singleton.1 hy]; exact hx
      clear d2 hx
      go_wp2_with (at_builtin; refine wpAppR rfl _ _ rfl x rfl O2.out rfl (by omega) hs2 ?_)
      intro v' w3 ho3 hb3
      have O3 : Hid (GOwn encR 56 w3 w.heap.size v' (xs ++ [x])) := ho3
      have D3 : Hid (Dn w w3 g a len cap) := D2.out.belowB hb3
      have hl2 : (xs ++ [x]).length ≤ k + 1 := by simp; omega
      clear ho3 hb3
      go_wp2
      go_roundw
      case rel => exact ⟨k + 1, _, by omega, by go_num, hl2, HS2, O3, D3⟩
      case measure => simp [intOf]; omega
    · have hlt' : ¬ (k : Int) < (n : Int) := by omega
      obtain ⟨a1, c1, rfl, _⟩ := O1.out.row
      go_wp2
      go_ret
      exact ⟨xs, a1, c1, HS.out, by omega, rfl, O1.out, D1.out⟩

end Go.Proofs.Ytbajpnbodhhmjaa

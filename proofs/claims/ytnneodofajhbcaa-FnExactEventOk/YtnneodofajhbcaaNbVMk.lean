/- What laws.markText, the marks of rows and their test do. -/
import Derived.Test.YtnneodofajhbcaaProg
import Derived.WalkKit
import Derived.Test.YtnneodofajhbcaaMath
import Derived.WalkSpells
import Derived.WalkLawsBesides
import Derived.Deep.QuietTactic
import Derived.BigQuiet
import Derived.Deep.RegionHeld3
import Derived.Deep.DrawnRows
import Derived.Test.YtnneodofajhbcaaK1
import Derived.Test.YtnneodofajhbcaaK2
import Derived.Deep.AppendLies
import Derived.Test.YtnneodofajhbcaaBase
import Derived.Test.YtnneodofajhbcaaEnc
import Derived.Test.YtnneodofajhbcaaR1
import Derived.Test.YtnneodofajhbcaaBx
import Derived.Sort.OwnSorted
import Derived.Lib.RowBridge
import Derived.Test.YtnneodofajhbcaaH1
import Derived.Test.YtnneodofajhbcaaNbKyD5
import Derived.Lib.ItoaNum
import Derived.Lib.ItoaLen
import Derived.Test.YtnneodofajhbcaaVMk
namespace Go.Proofs.Ytnneodofajhbcaa
open Go.RowKit
open KM
attribute [local go_sem ↓] Go.wp_at_zero Go.wp_at_succ

theorem conv1 (wr : World) (b : UInt8) (x : Int) (hx : x = (b.toNat : Int)) : (convert 88 9 (.slice (some ⟨wr.heap.size, 0, none⟩) 1 1)).run Try.prog (wr.alloc (.cells #[.int .u8 x] 5)) = .ok (.string ⟨#[b]⟩) (wr.alloc (.cells #[.int .u8 x] 5)) := by
  subst hx
  have h : Own (wr.alloc (.cells #[.int .u8 (b.toNat : Int)] 5)) wr.heap.size (.slice (some ⟨wr.heap.size, 0, none⟩) 1 1) [b] :=
    World.ownsRow_lit (size := 1) wr #[.int .u8 (b.toNat : Int)] 1 (Nat.le_refl _) (by unfold maxLen; omega) rfl
  exact h.str
set_option maxRecDepth 100000 in
set_option maxHeartbeats 1000000 in
theorem mark87 (N : Nat) (h0 : 0 < N) (h1 : N ≤ 1000000000000000000) (w : World) : Calls Try.prog 43 #[.int .i64 N] w fun e w' => e = .returned (.string (mkB N)) ∧ Below w.heap.size w w' := by
  have hd : decide ((N : Int) ≤ 0) = false := by simp; omega
  go_enter Try.func43, Try.ntmps43
  go_wp2
  go_loopw [0, 3] (fun t v wr => ∃ (m : Nat) (s : ByteArray), m ≤ N ∧ t = .int .i64 m ∧ v = .string s ∧ Hid (dd m ++ s.data.toList = dd N) ∧ Below w.heap.size w wr) (fun t _ _ => (intOf t).toNat)
  case atStart => exact ⟨N, ⟨#[]⟩, Nat.le_refl _, rfl, rfl, by show _ = _; simp, Below.refl _ _⟩
  case round =>
    obtain ⟨m, s, hm, rfl, rfl, HE, hb⟩ := hrel
    have hsz := round_size (by omega) HE.out
    by_cases hpos : 0 < m
    · have hpos' : (0 : Int) < (m : Int) := by omega
      have HE2 : Hid _ := dd_round hpos HE.out
      have hcv := conv1 wr (UInt8.ofNat (48 + m % 10)) (48 + (m : Int) % 10) (by rw [toNat_ofNat _ (by omega)]; omega)
      have hsz2 : (⟨#[UInt8.ofNat (48 + m % 10)]⟩ : ByteArray).size ≤ 1 := Nat.le_refl _
      go_wp2
      go_roundw
      case rel => exact ⟨m / 10, _, by omega, by go_num, rfl, by first | exact HE2 | (have := HE2.out; simpa [Hid] using this), hb.alloc hb.size _⟩
      case measure => simp [intOf]; omega
    · have hne : ¬ (0 : Int) < (m : Int) := by omega
      have HS : Hid (s.data.toList = dd N) := by
        have h := HE.out
        rw [show m = 0 by omega] at h
        exact h
      go_wp2
      go_ret
      refine ⟨ret_str ?_, hb⟩
      rw [app_data, HS.out, mkB, app_data]
end Go.Proofs.Ytnneodofajhbcaa

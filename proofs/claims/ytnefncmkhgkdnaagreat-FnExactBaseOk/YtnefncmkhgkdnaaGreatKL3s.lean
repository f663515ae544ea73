/- Whether texts ascend. -/
import Derived.Test.YtnefncmkhgkdnaaGreatKL2
import Derived.Deep.RegionHeld3
import Derived.Deep.Cut
import Derived.Deep.CutRange
import Derived.Laws.EntriesVeiled
namespace Go.Proofs.YtnefncmkhgkdnaaGreat
open Go.RowKit
open KM
attribute [local go_sem ↓] Go.wp_at_zero Go.wp_at_succ

set_option maxRecDepth 100000 in
set_option maxHeartbeats 2000000 in
theorem asc64 (zs : List ByteArray) (a : Option Addr) (c n : Nat) (hx : n = zs.length) (hn : n ≤ 100000000) (w : World) (hp : GRow encS w a zs) :
    Calls Tryz.prog 64 #[.slice a n c] w fun e w' => e = .returned (.bool (ascSB zs)) ∧ Below w.heap.size w w' := by
  have HP : Hid (GRow encS w a zs) := hp
  have HX : Hid (n = zs.length) := hx
  clear hp hx
  go_enter Tryz.func64, Tryz.ntmps64
  go_wp2
  go_loopw [3] (fun t wr => ∃ k : Nat, 1 ≤ k ∧ t = .int .i64 k ∧ Hid (AscS zs k) ∧ Hid (Below w.heap.size w wr)) (fun t _ => n + 1 - (intOf t).toNat)
  case atStart => exact ⟨1, Nat.le_refl _, rfl, (fun j hj h1 h0 => by omega), belowRefl w⟩
  case round =>
    obtain ⟨k, hk1, rfl, HG, HB⟩ := hrel
    by_cases hlt : k < n
    · have hlt' : (k : Int) < (n : Int) := by omega
      have h0 : (0 : Int) ≤ (k : Int) := by omega
      have hkz : k < zs.length := by rw [← HX.out]; exact hlt
      obtain ⟨b, off, rfl, hbl, hc⟩ := (HP.out.below HB.out) (by omega)
      obtain ⟨p, hp⟩ : ∃ p, k = p + 1 := ⟨k - 1, by omega⟩
      subst hp
      have r1 := sat hc (p + 1) hkz
      have r0 := sat hc p (by omega)
      have e1 : IntKind.i64.wrap (((p + 1 : Nat) : Int) - 1) = (p : Int) := by rw [IntKind.wrap_i64]; omega
      have e2 : ((p + 1 : Nat) : Int) - 1 = (p : Int) := by omega
      have hpn : (p : Int) < (n : Int) := by omega
      have hp0 : (0 : Int) ≤ (p : Int) := by omega
      have HY : Hid (Op.bytesLess zs[p].toList zs[p + 1].toList = true → AscS zs (p + 1 + 1)) := fun h => ascS_more HG.out hkz (fun _ => h)
      have HN : Hid (¬ Op.bytesLess zs[p].toList zs[p + 1].toList = true → ascSB zs = false) := fun h => ascS_no (p + 1) hkz (by omega) (by simpa using h)
      obtain ⟨x, hx⟩ : ∃ x, x = zs[p] := ⟨_, rfl⟩
      obtain ⟨y, hy⟩ : ∃ y, y = zs[p + 1] := ⟨_, rfl⟩
      rw [← hx] at r0 HY HN
      rw [← hy] at r1 HY HN
      clear hx hy hc hbl HG
      by_cases hq : Op.bytesLess x.toList y.toList = true
      · have HR := hide (HY.out hq)
        have ht : Op.bytesLess x.toList y.toList = true := hq
        clear HY HN
        go_wp2
        go_quiet (fail)
        go_wp2
        go_roundw
        case rel => exact ⟨p + 1 + 1, by omega, by go_num, HR, below_drewN HB.out _⟩
        case measure => simp [intOf]; omega
      · have HR : Hid (ascSB zs = false) := HN.out hq
        have ht : Op.bytesLess x.toList y.toList = false := by simpa using hq
        clear HY HN
        go_wp2
        go_quiet (fail)
        go_wp2
        go_ret
        exact ⟨ret_bool HR.out.symm, below_drewN HB.out _⟩
    · have hd : ¬ (k : Int) < (n : Int) := by omega
      have HR : Hid (true = ascSB zs) := (ascS_all HG.out (by rw [← HX.out]; omega)).symm
      clear HG
      go_wp2
      go_ret
      exact ⟨ret_bool HR.out, HB.out⟩


end Go.Proofs.YtnefncmkhgkdnaaGreat

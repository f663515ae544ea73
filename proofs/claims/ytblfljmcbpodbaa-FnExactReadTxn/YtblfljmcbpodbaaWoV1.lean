/- What spec.l01Var, spec.VarText and impl.VarText return: the bytes of a number. -/
import Derived.Test.YtblfljmcbpodbaaWoBase
namespace Go.Proofs.Ytblfljmcbpodbaa
open Go.RowKit

theorem pre_len {n m : Nat} {pre : List UInt8} (hn : n ≤ 1000000000) (h : pre ++ WM.varL m = WM.varL n) : pre.length ≤ 10 := by
  have h1 := WM.varL_len5 n (by omega)
  have h2 := congrArg List.length h
  simp at h2
  omega

set_option maxHeartbeats 400000 in
theorem var28 (n : Nat) (hn : n ≤ 1000000000) (w : World) :
    Calls Try.prog 90 #[.int .i64 n] w fun e w' => e = .returned (.string ⟨(WM.varL n).toArray⟩) ∧ Below w.heap.size w w' := by
  go_enter Try.func90, Try.ntmps90
  go_wp2
  go_loopw [0, 3] (fun t v wr => ∃ (m : Nat) (pre : List UInt8), m ≤ n ∧ t = .int .i64 m ∧ Own wr w.heap.size v pre ∧ Hid (pre ++ WM.varL m = WM.varL n) ∧ Below w.heap.size w wr) (fun t _ _ => (intOf t).toNat)
  case atStart =>
    exact ⟨n, [], Nat.le_refl _, rfl, Own.empty _ _ (Nat.le_refl _), rfl, (Below.refl _ _).alloc (Nat.le_refl _) _⟩
  case round =>
    obtain ⟨m, pre, hm, rfl, hown, HE, hb⟩ := hrel
    have hlen := pre_len hn HE.out
    by_cases hlt : 127 < m
    · go_wp2_with (at_builtin; refine wpApp rfl _ _ rfl w [UInt8.ofNat (m % 128 + 128)] rfl hown rfl (ofNatCell _ _ (by omega) (by omega)) (by simp; omega) hb (Nat.le_refl _) ?_)
      intro v' w1 hown1 hb1 _
      clear hown hb
      go_wp2
      go_roundw
      case rel => exact ⟨m / 128, _, by omega, by go_num, hown1, by have := HE.out; rw [WM.varL_big m hlt] at this; simpa [Hid] using this, hb1⟩
      case measure => simp [intOf]; omega
    · go_wp2_with (at_builtin; refine wpApp rfl _ _ rfl w [UInt8.ofNat m] rfl hown rfl (ofNatCell _ _ (by omega) (by omega)) (by simp; omega) hb (Nat.le_refl _) ?_)
      intro v' w1 hown1 hb1 _
      clear hown hb
      have hst := hown1.str
      go_wp2
      go_ret
      refine ⟨?_, hb1⟩
      have := HE.out
      rw [WM.varL_small m (by omega)] at this
      rw [this]
      rfl

set_option maxHeartbeats 400000 in
theorem ivar_no (n : Int) (h : n < 0 ∨ 1000000000 < n) (w : World) :
    Calls Try.prog 146 #[.int .i64 n] w fun e w' => e = .returned (.tuple #[.string ⟨#[]⟩, .bool false]) ∧ w' = w := by
  rcases h with h | h
  · go_enter Try.func146, Try.ntmps146
    go_wp2
    go_ret2
    exact ⟨rfl, rfl⟩
  · have h0 : 0 ≤ n := by omega
    go_enter Try.func146, Try.ntmps146
    go_wp2
    go_ret2
    exact ⟨rfl, rfl⟩

set_option maxHeartbeats 400000 in
theorem ivar_yes (n : Nat) (hn : n ≤ 1000000000) (w : World) :
    Calls Try.prog 146 #[.int .i64 n] w fun e w' => e = .returned (.tuple #[.string ⟨(WM.varL n).toArray⟩, .bool true]) ∧ Below w.heap.size w w' := by
  have h0 : (0 : Int) ≤ (n : Int) := by omega
  have h1 : (n : Int) ≤ 1000000000 := by omega
  go_enter Try.func146, Try.ntmps146
  go_wp2
  go_loopw [0, 4] (fun t v wr => ∃ (m : Nat) (pre : List UInt8), m ≤ n ∧ t = .int .i64 m ∧ Own wr w.heap.size v pre ∧ Hid (pre ++ WM.varL m = WM.varL n) ∧ Below w.heap.size w wr) (fun t _ _ => (intOf t).toNat)
  case atStart =>
    exact ⟨n, [], Nat.le_refl _, rfl, Own.nil _ _, rfl, Below.refl _ _⟩
  case round =>
    obtain ⟨m, pre, hm, rfl, hown, HE, hb⟩ := hrel
    have hlen := pre_len hn HE.out
    by_cases hlt : 127 < m
    · go_wp2_with (at_builtin; refine wpApp rfl _ _ rfl w [UInt8.ofNat (m % 128 + 128)] rfl hown rfl (ofNatCell _ _ (by omega) (by omega)) (by simp; omega) hb (Nat.le_refl _) ?_)
      intro v' w1 hown1 hb1 _
      clear hown hb
      go_wp2
      go_roundw
      case rel => exact ⟨m / 128, _, by omega, by go_num, hown1, by have := HE.out; rw [WM.varL_big m hlt] at this; simpa [Hid] using this, hb1⟩
      case measure => simp [intOf]; omega
    · go_wp2_with (at_builtin; refine wpApp rfl _ _ rfl w [UInt8.ofNat m] rfl hown rfl (ofNatCell _ _ (by omega) (by omega)) (by simp; omega) hb (Nat.le_refl _) ?_)
      intro v' w1 hown1 hb1 _
      clear hown hb
      have hst := hown1.str
      go_wp2
      go_ret2
      refine ⟨?_, hb1⟩
      have := HE.out
      rw [WM.varL_small m (by omega)] at this
      rw [this]
      rfl

end Go.Proofs.Ytblfljmcbpodbaa

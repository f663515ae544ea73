/- What l01New, l01Once, l01PickInt, l01Number, l01Text and l01Long do. -/
import Derived.Test.YtbncdnfjminpiaaDoorDr1
namespace Go.Proofs.YtbncdnfjminpiaaDoor
open Go.RowKit
attribute [local go_sem ↓] Go.wp_at_zero Go.wp_at_succ

/-- bytes that came in -/
def CodeRow (w : World) (a : Option Addr) (len : Nat) : Prop :=
  0 < len → ∃ b off, a = some ⟨b, off, none⟩ ∧ b < w.heap.size ∧ ∀ i, i < len → ∃ z : Int, 0 ≤ z ∧ z ≤ 255 ∧ w.cell? ⟨b, off + i, none⟩ = some (.int .u8 z)

theorem CodeRow.below {w w' : World} {a : Option Addr} {len : Nat} (h : CodeRow w a len) (hb : Below w.heap.size w w') : CodeRow w' a len := fun hl => by
  obtain ⟨b, off, ha, hb1, hz⟩ := h hl
  refine ⟨b, off, ha, Nat.lt_of_lt_of_le hb1 hb.size, fun j hj => ?_⟩
  obtain ⟨z, h0, h1, hc⟩ := hz j hj
  exact ⟨z, h0, h1, (hb.cell (p := ⟨b, off + j, none⟩) hb1).trans hc⟩

theorem curNew (w : World) (a : Option Addr) (len cap : Nat) (H : Int) (hr : CodeRow w a len) : CurOk (w.alloc (.cells #[.slice a len cap, .int .i64 0, .int .i64 H] 49)) w.heap.size a len cap := by
  refine ⟨0, H, ⟨?_, ?_, ?_, ?_, by omega, by omega⟩, fun hl => ?_⟩
  · exact World.cell?_alloc_mark w _ 49 (0, 0) 0
  · exact World.cell?_alloc_mark w _ 49 (0, 0) 1
  · exact World.cell?_alloc_mark w _ 49 (0, 0) 2
  · intro j
    rw [show (w.alloc (.cells #[.slice a len cap, .int .i64 0, .int .i64 H] 49)).frozen? ⟨w.heap.size, j, none⟩ = _ from World.frozen?_alloc_mark w _ 49 0 0 j]
    simp
  · obtain ⟨b, off, ha, hb1, hz⟩ := hr hl
    refine ⟨b, off, ha, by simp; omega, by omega, fun j hj => ?_⟩
    obtain ⟨z, h0, h1, hc⟩ := hz j hj
    exact ⟨z, h0, h1, (World.cell?_alloc_past _ _ _ (by omega)).trans hc⟩

set_option maxRecDepth 100000 in
set_option maxHeartbeats 1000000 in
theorem new16 (len cap : Nat) (a : Option Addr) (hl : len ≤ 1048576) (w : World) (hr : CodeRow w a len) :
    Calls Tryd.prog 16 #[.slice a len cap] w fun e w' => e = .returned (.pointer (some ⟨w.heap.size, 0, none⟩)) ∧ CurOk w' w.heap.size a len cap ∧ Below w.heap.size w w' ∧ w.heap.size < w'.heap.size := by
  have HR : Hid (CodeRow w a len) := hr
  clear hr
  go_enter Tryd.func16, Tryd.ntmps16
  go_wp2
  go_loop [3, 4] (fun t3 t4 => ∃ (k : Nat) (H : Int), k ≤ len ∧ t4 = .int .i64 (k : Int) ∧ t3 = .int .i64 H) (fun _ t4 => len - (intOf t4).toNat)
  case atStart => exact ⟨0, _, Nat.zero_le _, rfl, rfl⟩
  case round =>
    obtain ⟨k, H, hk, rfl, rfl⟩ := hrel
    by_cases hlt : k < len
    · have hlt' : (k : Int) < (len : Int) := by omega
      by_cases h4 : k < 4000
      · have h4' : (k : Int) < 4000 := by omega
        have h0 : (0 : Int) ≤ (k : Int) := by omega
        obtain ⟨b, off, rfl, hbb, hz⟩ := HR.out (by omega)
        obtain ⟨z, z0, z1, hcz⟩ := hz k hlt
        clear hz
        go_wp2
        go_round
        case rel => exact ⟨k + 1, _, by omega, by go_num, rfl⟩
        case measure => simp [intOf]; omega
      · have h4' : decide ((k : Int) < 4000) = false := by simp; omega
        go_wp2
        go_ret
        exact ⟨rfl, curNew w a len cap H HR.out, (Below.refl _ _).alloc (Nat.le_refl _) _, by simp⟩
    · have hlt' : decide ((k : Int) < (len : Int)) = false := by simp; omega
      go_wp2
      go_ret
      exact ⟨rfl, curNew w a len cap H HR.out, (Below.refl _ _).alloc (Nat.le_refl _) _, by simp⟩

set_option maxHeartbeats 400000 in
theorem once19 (g len cap : Nat) (a : Option Addr) (n : Nat) (h0 : 0 < n) (hn : n ≤ 1000000000) (hl : len ≤ 1048576) (w : World) (hc : CurOk w g a len cap) :
    Calls Tryd.prog 19 #[.pointer (some ⟨g, 0, none⟩), .int .i64 (n : Int)] w fun e w' => ∃ b : Bool, e = .returned (.bool b) ∧ CurOk w' g a len cap ∧ w.grownBy w' (some g) := by
  have HC : Hid (CurOk w g a len cap) := hc
  clear hc
  go_enter Tryd.func19, Tryd.ntmps19
  go_wp2_with (go_at_call 21; refine (below21 g len cap a n h0 hn hl _ HC.out).mono ?_; rintro e w1 ⟨x, hx, rfl, hc1, hg1⟩)
  go_ret
  exact ⟨_, rfl, hc1, hg1⟩

set_option maxHeartbeats 400000 in
theorem pick24 (g len cap : Nat) (a : Option Addr) (g2 n c2 : Nat) (h0 : 0 < n) (hn : n ≤ 1000) (hl : len ≤ 1048576) (w : World) (hc : CurOk w g a len cap) (hne : g2 ≠ g) (hg2 : g2 < w.heap.size)
    (hcells : ∀ j, j < n → ∃ z : Int, -9223372036854775808 ≤ z ∧ z ≤ 9223372036854775807 ∧ w.cell? ⟨g2, j, none⟩ = some (.int .i64 z)) :
    Calls Tryd.prog 24 #[.pointer (some ⟨g, 0, none⟩), .slice (some ⟨g2, 0, none⟩) n c2] w fun e w' => ∃ z : Int, -9223372036854775808 ≤ z ∧ z ≤ 9223372036854775807 ∧ e = .returned (.int .i64 z) ∧ CurOk w' g a len cap ∧ w.grownBy w' (some g) := by
  have HC : Hid (CurOk w g a len cap) := hc
  have HZ : Hid (∀ j, j < n → ∃ z : Int, -9223372036854775808 ≤ z ∧ z ≤ 9223372036854775807 ∧ w.cell? ⟨g2, j, none⟩ = some (.int .i64 z)) := hcells
  clear hc hcells
  go_enter Tryd.func24, Tryd.ntmps24
  go_wp2_with fail
  refine (below21 g len cap a n h0 (by omega) hl _ HC.out).mono ?_
  rintro e w1 ⟨x, hx, rfl, hc1, hg1⟩
  have HC1 : Hid (CurOk w1 g a len cap) := hc1
  have HG1 : Hid (w.grownBy w1 (some g)) := hg1
  obtain ⟨z, z0, z1, hz⟩ := HZ.out x hx
  have hz1 : w1.cell? ⟨g2, x, none⟩ = some (.int .i64 z) := (World.cell?_of_block (w := w) (a := ⟨g2, x, none⟩) (hg1.block g2 hg2 (fun e => hne (Option.some.inj e)))).trans hz
  have Z0 : Hid (-9223372036854775808 ≤ z) := z0
  have Z1 : Hid (z ≤ 9223372036854775807) := z1
  clear hc1 hg1 hz z0 z1
  have hx' : (x : Int) < (n : Int) := by omega
  have hx0 : (0 : Int) ≤ (x : Int) := by omega
  go_wp2
  go_ret
  exact ⟨z, Z0.out, Z1.out, rfl, HC1.out, HG1.out⟩
end Go.Proofs.YtbncdnfjminpiaaDoor

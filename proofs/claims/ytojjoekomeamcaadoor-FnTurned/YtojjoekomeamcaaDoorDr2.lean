/- What l01New and l01Text do. -/
import Derived.Test.YtojjoekomeamcaaDoorDr1
namespace Go.Proofs.YtojjoekomeamcaaDoor
open Go.RowKit
attribute [local go_sem ↓] Go.wp_at_zero Go.wp_at_succ

/-- bytes that came in -/
def CodeRow (w : World) (a : Option Addr) (len : Nat) : Prop :=
  0 < len → ∃ b off, a = some ⟨b, off, none⟩ ∧ b < w.heap.size ∧ ∀ i, i < len → ∃ z : Int, 0 ≤ z ∧ z ≤ 255 ∧ w.cell? ⟨b, off + i, none⟩ = some (.int .u8 z)

theorem CodeRow.below {w w' : World} {a : Option Addr} {len : Nat} (h : CodeRow w a len) (hb : Below w.heap.size w w') : CodeRow w' a len := fun hl => by
  obtain ⟨b, off, ha, hb1, hz⟩ := h hl
  refine ⟨b, off, ha, Nat.lt_of_lt_of_le hb1 hb.size, fun j hj => ?_⟩
  obtain ⟨z, h0, h1, hc⟩ := hz j hj
  exact ⟨z, h0, h1, (hb.cell (p := ⟨b, off + j, none⟩) hb1).trans hc⟩

theorem curNew (w : World) (a : Option Addr) (len cap : Nat) (H : Int) (hr : CodeRow w a len) : CurOk (w.alloc (.cells #[.slice a len cap, .int .i64 0, .int .i64 H] 45)) w.heap.size a len cap := by
  refine ⟨0, H, ⟨?_, ?_, ?_, ?_, by omega, by omega⟩, fun hl => ?_⟩
  · exact World.cell?_alloc_mark w _ 45 (0, 0) 0
  · exact World.cell?_alloc_mark w _ 45 (0, 0) 1
  · exact World.cell?_alloc_mark w _ 45 (0, 0) 2
  · intro j
    rw [show (w.alloc (.cells #[.slice a len cap, .int .i64 0, .int .i64 H] 45)).frozen? ⟨w.heap.size, j, none⟩ = _ from World.frozen?_alloc_mark w _ 45 0 0 j]
    simp
  · obtain ⟨b, off, ha, hb1, hz⟩ := hr hl
    refine ⟨b, off, ha, by simp; omega, by omega, fun j hj => ?_⟩
    obtain ⟨z, h0, h1, hc⟩ := hz j hj
    exact ⟨z, h0, h1, (World.cell?_alloc_past _ _ _ (by omega)).trans hc⟩

set_option maxRecDepth 100000 in
set_option maxHeartbeats 1000000 in
theorem new16 (len cap : Nat) (a : Option Addr) (hl : len ≤ 1048576) (w : World) (hr : CodeRow w a len) :
    Calls Tryd.prog 19 #[.slice a len cap] w fun e w' => e = .returned (.pointer (some ⟨w.heap.size, 0, none⟩)) ∧ CurOk w' w.heap.size a len cap ∧ Below w.heap.size w w' ∧ w.heap.size < w'.heap.size := by
  have HR : Hid (CodeRow w a len) := hr
  clear hr
  go_enter Tryd.func19, Tryd.ntmps19
  go_wp2
  go_loop [3, 4] (fun t3 t4 => ∃ (k : Nat) (H : Int), k ≤ len ∧ t4 = .int .i64 (k : Int) ∧ t3 = .int .i64 H) (fun _ t4 => len - (intOf t4).toNat)
  case atStart => exact ⟨0, _, Nat.zero_le _, rfl, rfl⟩
  case round =>
    obtain ⟨k, H, hk, rfl, rfl⟩ := hrel
    by_cases hlt : k < len
    · have hlt' : (k : Int) < (len : Int) := by omega
      by_cases h4 : k < 4000
      · have h4' : (k : Int) < 4000 := by omega
        have h0 : (0 : Int) ≤ (k : Int) := by omega
        obtain ⟨b, off, rfl, hbb, hz⟩ := HR.out (by omega)
        obtain ⟨z, z0, z1, hcz⟩ := hz k hlt
        clear hz
        go_wp2
        go_round
        case rel => exact ⟨k + 1, _, by omega, by go_num, rfl⟩
        case measure => simp [intOf]; omega
      · have h4' : decide ((k : Int) < 4000) = false := by simp; omega
        go_wp2
        go_ret
        exact ⟨rfl, curNew w a len cap H HR.out, (Below.refl _ _).alloc (Nat.le_refl _) _, by simp⟩
    · have hlt' : decide ((k : Int) < (len : Int)) = false := by simp; omega
      go_wp2
      go_ret
      exact ⟨rfl, curNew w a len cap H HR.out, (Below.refl _ _).alloc (Nat.le_refl _) _, by simp⟩

theorem grown_alloc (w : World) (g : Nat) (o : Obj) : w.grownBy (w.alloc o) (some g) := ⟨rfl, rfl, rfl, by simp, fun j hj _ => Below.heap_alloc _ _ _ hj⟩

theorem CurOk.alloc {w : World} {g len cap : Nat} {a : Option Addr} (h : CurOk w g a len cap) (hg : g < w.heap.size) (o : Obj) : CurOk (w.alloc o) g a len cap :=
  h.below ((Below.refl _ w).alloc (Nat.le_refl _) o) hg

end Go.Proofs.YtojjoekomeamcaaDoor

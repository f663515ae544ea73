/- What l01Number, l01Text and DrawVarText do. -/
import Derived.Test.YtbncdnfjminpiaaDoorDr2
namespace Go.Proofs.YtbncdnfjminpiaaDoor
open Go.RowKit

theorem grown_alloc (w : World) (g : Nat) (o : Obj) : w.grownBy (w.alloc o) (some g) := ⟨rfl, rfl, rfl, by simp, fun j hj _ => Below.heap_alloc _ _ _ hj⟩
theorem CurOk.alloc {w : World} {g len cap : Nat} {a : Option Addr} (h : CurOk w g a len cap) (hg : g < w.heap.size) (o : Obj) : CurOk (w.alloc o) g a len cap :=
  h.below ((Below.refl _ w).alloc (Nat.le_refl _) o) hg

def tens : Array Value := #[.int .i64 (-1), .int .i64 0, .int .i64 127, .int .i64 128, .int .i64 16383, .int .i64 16384, .int .i64 1000000000, .int .i64 1000000001, .int .i64 9223372036854775807, .int .i64 (-9223372036854775808)]
theorem tens_at (j : Nat) (hj : j < 10) : ∃ z : Int, -9223372036854775808 ≤ z ∧ z ≤ 9223372036854775807 ∧ tens[j]? = some (.int .i64 z) := by
  match j, hj with
  | 0, _ => exact ⟨-1, by omega, by omega, rfl⟩
  | 1, _ => exact ⟨0, by omega, by omega, rfl⟩
  | 2, _ => exact ⟨127, by omega, by omega, rfl⟩
  | 3, _ => exact ⟨128, by omega, by omega, rfl⟩
  | 4, _ => exact ⟨16383, by omega, by omega, rfl⟩
  | 5, _ => exact ⟨16384, by omega, by omega, rfl⟩
  | 6, _ => exact ⟨1000000000, by omega, by omega, rfl⟩
  | 7, _ => exact ⟨1000000001, by omega, by omega, rfl⟩
  | 8, _ => exact ⟨9223372036854775807, by omega, by omega, rfl⟩
  | 9, _ => exact ⟨-9223372036854775808, by omega, by omega, rfl⟩

theorem pickTens (g len cap : Nat) (a : Option Addr) (hl : len ≤ 1048576) (w : World) (hc : CurOk w g a len cap) (hg : g < w.heap.size) :
    Calls Tryd.prog 24 #[.pointer (some ⟨g, 0, none⟩), .slice (some ⟨w.heap.size, 0, none⟩) 10 10] (w.alloc (.cells tens 3)) fun e w' => ∃ z : Int, -9223372036854775808 ≤ z ∧ z ≤ 9223372036854775807 ∧ e = .returned (.int .i64 z) ∧ CurOk w' g a len cap ∧ w.grownBy w' (some g) := by
  refine (pick24 g len cap a w.heap.size 10 10 (by omega) (by omega) hl _ (hc.alloc hg _) (by omega) (by simp) ?_).mono ?_
  · intro j hj
    obtain ⟨z, h0, h1, hz⟩ := tens_at j hj
    exact ⟨z, h0, h1, (World.cell?_alloc_mark w tens 3 (0, 0) j).trans hz⟩
  · rintro e w' ⟨z, h0, h1, rfl, hc', hg'⟩
    exact ⟨z, h0, h1, rfl, hc', grown_trans (grown_alloc w g _) hg'⟩

set_option maxRecDepth 100000 in
set_option maxHeartbeats 1000000 in
theorem number15 (g len cap : Nat) (a : Option Addr) (hl : len ≤ 1048576) (w : World) (hc : CurOk w g a len cap) (hg : g < w.heap.size) :
    Calls Tryd.prog 15 #[.pointer (some ⟨g, 0, none⟩)] w fun e w' => ∃ z : Int, -9223372036854775808 ≤ z ∧ z ≤ 9223372036854775807 ∧ e = .returned (.int .i64 z) ∧ CurOk w' g a len cap ∧ w.grownBy w' (some g) := by
  have HC : Hid (CurOk w g a len cap) := hc
  clear hc
  go_enter Tryd.func15, Tryd.ntmps15
  go_wp2_with fail
  refine (below21 g len cap a 4 (by omega) (by omega) hl _ HC.out).mono ?_
  rintro e w1 ⟨x, hx, rfl, hc1, hg1⟩
  have HC1 : Hid (CurOk w1 g a len cap) := hc1
  have HG1 : Hid (w.grownBy w1 (some g)) := hg1
  have hgl : g < w1.heap.size := Nat.lt_of_lt_of_le hg hg1.size
  clear hc1 hg1
  by_cases h0 : x = 0
  · have h0' : ((x : Int) == 0) = true := by rw [beq_iff_eq]; omega
    clear h0
    go_wp2_with fail
    refine (pickTens g len cap a hl w1 HC1.out hgl).mono ?_
    rintro e w2 ⟨z, z0, z1, rfl, hc2, hg2⟩
    have Z0 : Hid (-9223372036854775808 ≤ z) := z0
    have Z1 : Hid (z ≤ 9223372036854775807) := z1
    have HC2 : Hid (CurOk w2 g a len cap) := hc2
    have HG2 : Hid (w1.grownBy w2 (some g)) := hg2
    clear z0 z1 hc2 hg2
    go_wp2
    go_ret
    exact ⟨z, Z0.out, Z1.out, rfl, HC2.out, grown_trans HG1.out HG2.out⟩
  · have h0' : ((x : Int) == 0) = false := by rw [beq_eq_false_iff_ne]; omega
    clear h0
    by_cases h1 : x = 1
    · have h1' : ((x : Int) == 1) = true := by rw [beq_iff_eq]; omega
      clear h1
      go_wp2_with fail
      refine (below21 g len cap a 1000000000 (by omega) (by omega) hl _ HC1.out).mono ?_
      rintro e w2 ⟨z, hz, rfl, hc2, hg2⟩
      go_wp2
      go_ret
      exact ⟨z, by omega, by omega, rfl, hc2, grown_trans HG1.out hg2⟩
    · have h1' : ((x : Int) == 1) = false := by rw [beq_eq_false_iff_ne]; omega
      clear h1
      go_wp2_with fail
      refine (below21 g len cap a 400 (by omega) (by omega) hl _ HC1.out).mono ?_
      rintro e w2 ⟨z, hz, rfl, hc2, hg2⟩
      go_wp2
      go_ret
      exact ⟨z, by omega, by omega, rfl, hc2, grown_trans HG1.out hg2⟩

set_option maxRecDepth 100000 in
set_option maxHeartbeats 1000000 in
theorem drawVar5 (len cap : Nat) (a : Option Addr) (hl : len ≤ 1048576) (w : World) (hr : CodeRow w a len) :
    Calls Tryd.prog 5 #[.slice a len cap] w fun e w' => ∃ z : Int, -9223372036854775808 ≤ z ∧ z ≤ 9223372036854775807 ∧ e = .returned (.int .i64 z) ∧ Below w.heap.size w w' := by
  have HR : Hid (CodeRow w a len) := hr
  clear hr
  go_enter Tryd.func5, Tryd.ntmps5
  go_wp2_with fail
  refine (new16 len cap a hl _ HR.out).mono ?_
  rintro e w1 ⟨rfl, hc1, hb1, hs1⟩
  have HC1 : Hid (CurOk w1 w.heap.size a len cap) := hc1
  have HB1 : Hid (Below w.heap.size w w1) := hb1
  clear hc1 hb1
  go_wp2_with fail
  refine (number15 w.heap.size len cap a hl _ HC1.out hs1).mono ?_
  rintro e w2 ⟨z, z0, z1, rfl, hc2, hg2⟩
  have Z0 : Hid (-9223372036854775808 ≤ z) := z0
  have Z1 : Hid (z ≤ 9223372036854775807) := z1
  have HB2 : Hid (Below w.heap.size w w2) := HB1.out.grown hg2 (by omega) (fun j hj => by cases hj; exact Nat.le_refl _)
  clear z0 z1 hc2 hg2
  go_wp2
  go_ret
  exact ⟨z, Z0.out, Z1.out, rfl, HB2.out⟩
end Go.Proofs.YtbncdnfjminpiaaDoor

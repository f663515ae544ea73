/- What DrawInRange and DrawRangeOk make. -/
import Derived.Test.YthlfddbijlfgeaaD3
namespace Go.Proofs.Ythlfddbijlfgeaa
open Go.RowKit
open KM
attribute [local go_sem ↓] Go.wp_at_zero Go.wp_at_succ

set_option maxRecDepth 100000 in
set_option maxHeartbeats 1000000 in
theorem dInRange (len cap : Nat) (a : Option Addr) (hl : len ≤ 1048576) (w : World) (hr : CodeRow w a len) :
    Calls Try.prog 14 #[.slice a len cap] w fun e w' => ∃ (r : Rg) (k : ByteArray), e = .returned (.tuple #[.agg #[.string r.1, .string r.2], .string k]) ∧ Below w.heap.size w w' := by
  have HR : Hid (CodeRow w a len) := hr
  clear hr
  go_enter Try.func14, Try.ntmps14
  go_wp2_with fail
  refine (drNew len cap a hl _ (HR.out.below ((belowRefl w).alloc (Nat.le_refl _) _))).mono ?_
  rintro e w1 ⟨rfl, h1, hb1⟩
  have C1 : Hid (CurI w1 (w.heap.size + 1) a len cap) := by show CurI _ _ _ _ _; simpa using h1
  have B1 : Hid (Bx w1 w.heap.size [.string ⟨#[]⟩, .string ⟨#[]⟩]) := (Bx.new w [.string ⟨#[]⟩, .string ⟨#[]⟩] 25).below hb1
  have HB1 : Hid (Below w.heap.size w w1) := ((belowRefl w).alloc (Nat.le_refl _) _).trans (hb1.mono (by simp))
  clear h1 hb1
  go_wp2_with fail
  refine (drKey (w.heap.size + 1) len cap a _ C1.out).mono ?_
  rintro e w2 ⟨k, hk, rfl, d2⟩
  have D2 : Hid (Dn w1 w2 (w.heap.size + 1) a len cap) := d2
  have B2 : Hid (Bx w2 w.heap.size [.string ⟨#[]⟩, .string ⟨#[]⟩]) := B1.out.keptD d2 (by omega)
  clear d2 hk
  go_wp2_with fail
  refine (drRange (w.heap.size + 1) len cap a _ D2.out.c).mono ?_
  rintro e w3 ⟨r, hr, rfl, d3⟩
  have D3 : Hid (Dn w1 w3 (w.heap.size + 1) a len cap) := D2.out.step d3
  have B3 : Hid (Bx w3 w.heap.size [.string ⟨#[]⟩, .string ⟨#[]⟩]) := B2.out.keptD d3 (by omega)
  have HB3 : Hid (Below w.heap.size w w3) := D3.out.out HB1.out (by omega) HB1.out.size
  clear d3 hr
  have c0 := B3.out.c0
  have c1 := B3.out.c1
  have fz := B3.out.fz
  go_wp2
  have BF := (B3.out.set 0 (.string r.1)).set 1 (.string r.2)
  have e0 := BF.c0
  have e1 := BF.c1
  exact bodyPost_ret (v := .tuple #[.agg #[.string r.1, .string r.2], .string k]) (by simp [results, Try.results14, go_sem, e0, e1]) rfl ⟨r, k, rfl, (HB3.out.setCell (Nat.le_refl _) _).setCell (Nat.le_refl _) _⟩

set_option maxRecDepth 100000 in
set_option maxHeartbeats 1000000 in
theorem dRangeOk (len cap : Nat) (a : Option Addr) (hl : len ≤ 1048576) (w : World) (hr : CodeRow w a len) :
    Calls Try.prog 17 #[.slice a len cap] w fun e w' => ∃ r : Rg, (r.1.size ≤ 3 ∧ r.2.size ≤ 3) ∧ e = .returned (.agg #[.string r.1, .string r.2]) ∧ Below w.heap.size w w' := by
  have HR : Hid (CodeRow w a len) := hr
  clear hr
  go_enter Try.func17, Try.ntmps17
  go_wp2_with fail
  refine (drNew len cap a hl _ (HR.out.below ((belowRefl w).alloc (Nat.le_refl _) _))).mono ?_
  rintro e w1 ⟨rfl, h1, hb1⟩
  have C1 : Hid (CurI w1 (w.heap.size + 1) a len cap) := by show CurI _ _ _ _ _; simpa using h1
  have B1 : Hid (Bx w1 w.heap.size [.string ⟨#[]⟩, .string ⟨#[]⟩]) := (Bx.new w [.string ⟨#[]⟩, .string ⟨#[]⟩] 25).below hb1
  have HB1 : Hid (Below w.heap.size w w1) := ((belowRefl w).alloc (Nat.le_refl _) _).trans (hb1.mono (by simp))
  have s1 : w.heap.size + 1 < w1.heap.size := C1.out.lt
  clear h1 hb1
  go_wp2_with fail
  refine (drRange (w.heap.size + 1) len cap a _ C1.out).mono ?_
  rintro e w2 ⟨r, hr, rfl, d2⟩
  have D2 : Hid (Dn w1 w2 (w.heap.size + 1) a len cap) := d2
  have B2 : Hid (Bx w2 w.heap.size [.string ⟨#[]⟩, .string ⟨#[]⟩]) := B1.out.keptD d2 (by omega)
  have HG : Hid (r.1.size ≤ 3 ∧ r.2.size ≤ 3) := ⟨hr.1.2, hr.2.1.2⟩
  have s2 : w.heap.size + 1 < w2.heap.size := D2.out.c.lt
  have X2 : Hid (Bx (w2.alloc (.cells #[.string r.1, .string r.2] 25)) w2.heap.size [.string r.1, .string r.2]) := Bx.new w2 _ 25
  clear d2 hr
  go_wp2_with fail
  refine (drBelow (w.heap.size + 1) len cap a 5 (by omega) (by omega) _ (D2.out.c.alloc _)).mono ?_
  rintro e w3 ⟨n, hn, rfl, d3⟩
  have D3 : Hid (Dn w1 w3 (w.heap.size + 1) a len cap) := (D2.out.alloc _).step d3
  have B3 : Hid (Bx w3 w.heap.size [.string ⟨#[]⟩, .string ⟨#[]⟩]) := (B2.out.alloc _).keptD d3 (by omega)
  have X3 : Hid (Bx w3 w2.heap.size [.string r.1, .string r.2]) := X2.out.keptD d3 (by omega)
  have HB3 : Hid (Below w.heap.size w w3) := D3.out.out HB1.out (by omega) HB1.out.size
  clear d3 X2 B1 B2
  have hX : w2.heap.size ≠ w.heap.size := by omega
  have c0 := B3.out.c0
  have c1 := B3.out.c1
  have fz := B3.out.fz
  have x0 := X3.out.c0
  have x1 := X3.out.c1
  have xf := X3.out.fz
  by_cases h0 : n = 0
  · have h0' : ((n : Int) == 0) = true := by simp; omega
    clear h0
    go_wp2
    have BF := (((B3.out.setO (p := ⟨w2.heap.size, 0, none⟩) (by omega) (.string ⟨#[122]⟩)).set 0 (.string ⟨#[122]⟩)).set 1 (.string r.2))
    have e0 := BF.c0
    have e1 := BF.c1
    exact bodyPost_ret (v := .agg #[.string ⟨#[122]⟩, .string r.2]) (by simp [results, Try.results17, go_sem, e0, e1]) rfl ⟨(⟨#[122]⟩, r.2), ⟨by show (1 : Nat) ≤ 3; omega, HG.out.2⟩, rfl, ((HB3.out.setCell (by show _ ≤ w2.heap.size; omega) _).setCell (Nat.le_refl _) _).setCell (Nat.le_refl _) _⟩
  · by_cases h1 : n = 1
    · have h0' : ((n : Int) == 0) = false := by simp; omega
      have h1' : ((n : Int) == 1) = true := by simp; omega
      clear h0 h1
      go_wp2
      have BF := (((B3.out.setO (p := ⟨w2.heap.size, 1, none⟩) (by omega) (.string ⟨#[]⟩)).set 0 (.string r.1)).set 1 (.string ⟨#[]⟩))
      have e0 := BF.c0
      have e1 := BF.c1
      exact bodyPost_ret (v := .agg #[.string r.1, .string ⟨#[]⟩]) (by simp [results, Try.results17, go_sem, e0, e1]) rfl ⟨(r.1, ⟨#[]⟩), ⟨HG.out.1, by show (0 : Nat) ≤ 3; omega⟩, rfl, ((HB3.out.setCell (by show _ ≤ w2.heap.size; omega) _).setCell (Nat.le_refl _) _).setCell (Nat.le_refl _) _⟩
    · have h0' : ((n : Int) == 0) = false := by simp; omega
      have h1' : ((n : Int) == 1) = false := by simp; omega
      clear h0 h1
      go_wp2
      have BF := (B3.out.set 0 (.string r.1)).set 1 (.string r.2)
      have e0 := BF.c0
      have e1 := BF.c1
      exact bodyPost_ret (v := .agg #[.string r.1, .string r.2]) (by simp [results, Try.results17, go_sem, e0, e1]) rfl ⟨r, HG.out, rfl, (HB3.out.setCell (Nat.le_refl _) _).setCell (Nat.le_refl _) _⟩
end Go.Proofs.Ythlfddbijlfgeaa

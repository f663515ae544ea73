/- What the drawing functions of the specification do to their cursor. -/
import Derived.Test.YtbajpnbodhhmjaaNdH1
import Derived.Test.YtbajpnbodhhmjaaDr
namespace Go.Proofs.Ytbajpnbodhhmjaa
open Go.RowKit
open KM
attribute [local go_sem ↓] Go.wp_at_zero Go.wp_at_succ

set_option maxRecDepth 100000 in
set_option maxHeartbeats 1000000 in
theorem byte26 (g len cap : Nat) (a : Option Addr) (i h : Int) (hl : len ≤ 1048576) (w : World) (hc : Cur w g a len cap i h) (hk : CodeOk w a len g) :
    Calls Try.prog 39 #[.pointer (some ⟨g, 0, none⟩)] w fun e w' => ∃ x i' h' : Int, e = .returned (.int .i64 x) ∧ 0 ≤ x ∧ x ≤ 255 ∧ Cur w' g a len cap i' h' ∧ w.grownBy w' (some g) := by
  obtain ⟨n, rfl⟩ := Int.eq_ofNat_of_zero_le hc.i0
  have HC : Hid (Cur w g a len cap n h) := hc
  have HK : Hid (CodeOk w a len g) := hk
  have hn : n ≤ len := by have := hc.i1; omega
  have k0 := hc.c0
  have k1 := hc.c1
  have k2 := hc.c2
  have f0 := hc.free
  clear hc hk
  go_enter Try.func39, Try.ntmps39
  go_wp2
  generalize wrap64 (wrap64 (h * 6364136223846793005) + 1442695040888963407) = H
  have hc1 := HC.out.setH H
  have hg1 := grown_set w g 2 (.int .i64 H)
  have hk1 := HK.out.grown hg1
  generalize w.setCell ⟨g, 2, none⟩ (.int .i64 H) = W1 at *
  have HC1 : Hid (Cur W1 g a len cap n H) := hc1
  have HG1 : Hid (w.grownBy W1 (some g)) := hg1
  have HK1 : Hid (CodeOk W1 a len g) := hk1
  clear k0 k1 k2 f0
  have k0 := hc1.c0
  have k1 := hc1.c1
  have k2 := hc1.c2
  have f0 := hc1.free
  clear hc1 hg1 hk1
  by_cases hlt : n < len
  · have hlt' : (n : Int) < (len : Int) := by omega
    have hn0 : (0 : Int) ≤ (n : Int) := by omega
    obtain ⟨b, off, rfl, hbb, hbne, hz⟩ := HK1.out (by omega)
    obtain ⟨z, z0, z1, hcz⟩ := hz n hlt
    clear hz
    go_quiet (fail)
    go_wp2
    go_quiet (fail)
    go_wp2
    go_quiet (fail)
    go_wp2
    go_ret
    have hs := HC1.out.setI ((n : Int) + 1) (by omega) (by omega)
    have hg := grown_trans HG1.out (grown_set W1 g 1 (.int .i64 ((n : Int) + 1)))
    exact ⟨_, (n : Int) + 1, H, rfl, (and255 _).1, (and255 _).2, ⟨hs.c0, hs.c1, hs.c2, hs.free, hs.i0, hs.i1⟩, ⟨hg.os, hg.tape, hg.output, hg.size, hg.block⟩⟩
  · have hlt' : decide ((n : Int) < (len : Int)) = false := by simp; omega
    go_quiet (fail)
    go_wp2
    go_quiet (fail)
    go_wp2
    go_ret
    have hs := HC1.out
    have hg := HG1.out
    exact ⟨_, (n : Int), H, rfl, (and255 _).1, (and255 _).2, ⟨hs.c0, hs.c1, hs.c2, hs.free, hs.i0, hs.i1⟩, ⟨hg.os, hg.tape, hg.output, hg.size, hg.block⟩⟩

theorem byteOk (g len cap : Nat) (a : Option Addr) (hl : len ≤ 1048576) (w : World) (hc : CurOk w g a len cap) :
    Calls Try.prog 39 #[.pointer (some ⟨g, 0, none⟩)] w fun e w' => ∃ x : Nat, x ≤ 255 ∧ e = .returned (.int .i64 (x : Int)) ∧ CurOk w' g a len cap ∧ w.grownBy w' (some g) := by
  obtain ⟨i, h, c, k⟩ := hc
  refine (byte26 g len cap a i h hl w c k).mono ?_
  rintro e w' ⟨x, i', h', rfl, h0, h1, hc, hg⟩
  obtain ⟨n, rfl⟩ := Int.eq_ofNat_of_zero_le h0
  exact ⟨n, by omega, rfl, ⟨i', h', hc, k.grown hg⟩, hg⟩

set_option maxRecDepth 100000 in
set_option maxHeartbeats 1000000 in
theorem below21 (g len cap : Nat) (a : Option Addr) (n : Nat) (h0 : 0 < n) (hn : n ≤ 1000000000) (hl : len ≤ 1048576) (w : World) (hc : CurOk w g a len cap) :
    Calls Try.prog 23 #[.pointer (some ⟨g, 0, none⟩), .int .i64 (n : Int)] w fun e w' => ∃ x : Nat, x < n ∧ e = .returned (.int .i64 (x : Int)) ∧ CurOk w' g a len cap ∧ w.grownBy w' (some g) := by
  have HC : Hid (CurOk w g a len cap) := hc
  clear hc
  by_cases hs : n ≤ 256
  · go_enter Try.func23, Try.ntmps23
    go_wp2_with (go_at_call 39; refine (byteOk g len cap a hl _ HC.out).mono ?_; rintro e w1 ⟨x, hx, rfl, hc1, hg1⟩)
    go_ret
    exact ⟨x % n, Nat.mod_lt _ h0, by go_num, hc1, hg1⟩
  · have hs' : ¬ (n : Int) ≤ 256 := by omega
    go_enter Try.func23, Try.ntmps23
    go_wp2_with fail
    refine (byteOk g len cap a hl _ HC.out).mono ?_
    rintro e w1 ⟨x, hx, rfl, hc1, hg1⟩
    have HC1 : Hid (CurOk w1 g a len cap) := hc1
    have HG1 : Hid (w.grownBy w1 (some g)) := hg1
    clear hc1 hg1
    go_wp2_with fail
    refine (byteOk g len cap a hl _ HC1.out).mono ?_
    rintro e w2 ⟨y, hy, rfl, hc2, hg2⟩
    have HC2 : Hid (CurOk w2 g a len cap) := hc2
    have HG2 : Hid (w.grownBy w2 (some g)) := grown_trans HG1.out hg2
    clear hc2 hg2
    go_wp2_with fail
    refine (byteOk g len cap a hl _ HC2.out).mono ?_
    rintro e w3 ⟨z, hz, rfl, hc3, hg3⟩
    have HC3 : Hid (CurOk w3 g a len cap) := hc3
    have HG3 : Hid (w.grownBy w3 (some g)) := grown_trans HG2.out hg3
    clear hc3 hg3
    go_wp2_with fail
    refine (byteOk g len cap a hl _ HC3.out).mono ?_
    rintro e w4 ⟨u, hu, rfl, hc4, hg4⟩
    have HC4 : Hid (CurOk w4 g a len cap) := hc4
    have HG4 : Hid (w.grownBy w4 (some g)) := grown_trans HG3.out hg4
    clear hc4 hg4
    go_wp2
    go_ret
    exact ⟨(x * 16777216 + y * 65536 + z * 256 + u) % n, Nat.mod_lt _ h0, by go_num, HC4.out, HG4.out⟩

theorem curNew (w : World) (a : Option Addr) (len cap : Nat) (H : Int) (hr : CodeRow w a len) : CurOk (w.alloc (.cells #[.slice a len cap, .int .i64 0, .int .i64 H] 54)) w.heap.size a len cap := by
  refine ⟨0, H, ⟨?_, ?_, ?_, ?_, by omega, by omega⟩, fun hl => ?_⟩
  · exact World.cell?_alloc_mark w _ 54 (0, 0) 0
  · exact World.cell?_alloc_mark w _ 54 (0, 0) 1
  · exact World.cell?_alloc_mark w _ 54 (0, 0) 2
  · intro j
    rw [show (w.alloc (.cells #[.slice a len cap, .int .i64 0, .int .i64 H] 54)).frozen? ⟨w.heap.size, j, none⟩ = _ from World.frozen?_alloc_mark w _ 54 0 0 j]
    simp
  · obtain ⟨b, off, ha, hb1, hz⟩ := hr hl
    refine ⟨b, off, ha, by simp; omega, by omega, fun j hj => ?_⟩
    obtain ⟨z, h0, h1, hc⟩ := hz j hj
    exact ⟨z, h0, h1, (World.cell?_alloc_past _ _ _ (by omega)).trans hc⟩

set_option maxRecDepth 100000 in
set_option maxHeartbeats 1000000 in
theorem new16 (len cap : Nat) (a : Option Addr) (hl : len ≤ 1048576) (w : World) (hr : CodeRow w a len) :
    Calls Try.prog 13 #[.slice a len cap] w fun e w' => e = .returned (.pointer (some ⟨w.heap.size, 0, none⟩)) ∧ CurOk w' w.heap.size a len cap ∧ Below w.heap.size w w' ∧ w.heap.size < w'.heap.size := by
  have HR : Hid (CodeRow w a len) := hr
  clear hr
  go_enter Try.func13, Try.ntmps13
  go_wp2
  go_loop [3, 4] (fun t3 t4 => ∃ (k : Nat) (H : Int), k ≤ len ∧ t4 = .int .i64 (k : Int) ∧ t3 = .int .i64 H) (fun _ t4 => len - (intOf t4).toNat)
  case atStart => exact ⟨0, _, Nat.zero_le _, rfl, rfl⟩
  case round =>
    obtain ⟨k, H, hk, rfl, rfl⟩ := hrel
    by_cases hlt : k < len
    · have hlt' : (k : Int) < (len : Int) := by omega
      by_cases h4 : k < 4000
      · have h4' : (k : Int) < 4000 := by omega
        have h0 : (0 : Int) ≤ (k : Int) := by omega
        obtain ⟨b, off, rfl, hbb, hz⟩ := HR.out (by omega)
        obtain ⟨z, z0, z1, hcz⟩ := hz k hlt
        clear hz
        go_wp2
        go_round
        case rel => exact ⟨k + 1, _, by omega, by go_num, rfl⟩
        case measure => simp [intOf]; omega
      · have h4' : decide ((k : Int) < 4000) = false := by simp; omega
        go_wp2
        go_ret
        exact ⟨rfl, curNew w a len cap H HR.out, (Below.refl _ _).alloc (Nat.le_refl _) _, by simp⟩
    · have hlt' : decide ((k : Int) < (len : Int)) = false := by simp; omega
      go_wp2
      go_ret
      exact ⟨rfl, curNew w a len cap H HR.out, (Below.refl _ _).alloc (Nat.le_refl _) _, by simp⟩


section
variable {w0 w w' : World} {g len cap : Nat} {a : Option Addr}
end

section
variable {w w' : World} {b : Nat} {cs : List Value}
end

theorem drBelow (g len cap : Nat) (a : Option Addr) (n : Nat) (h0 : 0 < n) (hn : n ≤ 1000000000) (w : World) (hc : CurI w g a len cap) :
    Calls Try.prog 23 #[.pointer (some ⟨g, 0, none⟩), .int .i64 (n : Int)] w fun e w' => ∃ x : Nat, x < n ∧ e = .returned (.int .i64 (x : Int)) ∧ Dn w w' g a len cap := by
  refine (below21 g len cap a n h0 hn hc.sm w hc.c).mono ?_
  rintro e w' ⟨x, hx, rfl, hc', hg⟩
  exact ⟨x, hx, rfl, ⟨hc', Nat.lt_of_lt_of_le hc.lt hg.size, hc.sm⟩, hg, hc.old⟩

theorem drNew (len cap : Nat) (a : Option Addr) (hl : len ≤ 1048576) (w : World) (hr : CodeRow w a len) :
    Calls Try.prog 13 #[.slice a len cap] w fun e w' => e = .returned (.pointer (some ⟨w.heap.size, 0, none⟩)) ∧ CurI w' w.heap.size a len cap ∧ Below w.heap.size w w' := by
  refine (new16 len cap a hl w hr).mono ?_
  rintro e w' ⟨rfl, hc, hb, hs⟩
  exact ⟨rfl, ⟨hc, hs, hl⟩, hb⟩

set_option maxHeartbeats 400000 in
theorem drOnce (g len cap : Nat) (a : Option Addr) (n : Nat) (h0 : 0 < n) (hn : n ≤ 1000000000) (w : World) (hc : CurI w g a len cap) :
    Calls Try.prog 58 #[.pointer (some ⟨g, 0, none⟩), .int .i64 (n : Int)] w fun e w' => ∃ b : Bool, e = .returned (.bool b) ∧ Dn w w' g a len cap := by
  have HC : Hid (CurI w g a len cap) := hc
  clear hc
  go_enter Try.func58, Try.ntmps58
  go_wp2_with (go_at_call 23; refine (drBelow g len cap a n h0 hn _ HC.out).mono ?_; rintro e w1 ⟨x, hx, rfl, d1⟩)
  go_ret
  exact ⟨_, rfl, d1⟩

set_option maxHeartbeats 400000 in
theorem drPick (g len cap : Nat) (a : Option Addr) (ss : List ByteArray) (g2 c2 : Nat) (h0 : 0 < ss.length) (hn : ss.length ≤ 1000) (w : World) (hc : CurI w g a len cap) (hne : g2 ≠ g) (hb : Bx w g2 (ss.map Value.string)) :
    Calls Try.prog 59 #[.pointer (some ⟨g, 0, none⟩), .slice (some ⟨g2, 0, none⟩) ss.length c2] w fun e w' => ∃ s ∈ ss, e = .returned (.string s) ∧ Dn w w' g a len cap := by
  have HC : Hid (CurI w g a len cap) := hc
  have HX : Hid (Bx w g2 (ss.map Value.string)) := hb
  clear hc hb
  go_enter Try.func59, Try.ntmps59
  go_wp2_with fail
  refine (drBelow g len cap a ss.length h0 (by omega) _ HC.out).mono ?_
  rintro e w1 ⟨x, hx, rfl, d1⟩
  have D1 : Hid (Dn w w1 g a len cap) := d1
  have hz1 : w1.cell? ⟨g2, x, none⟩ = some (.string ss[x]) := by
    rw [(HX.out.keptD d1 hne).at' x (by simpa using hx)]
    simp [hx]
  clear d1
  have hx' : (x : Int) < (ss.length : Int) := by omega
  have hx0 : (0 : Int) ≤ (x : Int) := by omega
  go_wp2
  go_ret
  exact ⟨ss[x], List.getElem_mem hx, rfl, D1.out⟩
end Go.Proofs.Ytbajpnbodhhmjaa

/- Drawn texts and drawn logs, right or not. -/
import Derived.Test.YtnfkecefkkdedaaPt33
import Derived.Test.YtnfkecefkkdedaaPt34
import Derived.Deep.Cut
import Derived.Deep.CutRange
namespace Go.Proofs.Ytnfkecefkkdedaa
open Go.RowKit
open DM
attribute [local go_sem ↓] Go.wp_at_zero Go.wp_at_succ

set_option maxHeartbeats 400000 in
theorem pickR (g len cap : Nat) (a : Option Addr) (g2 n c2 : Nat) (h0 : 0 < n) (hn : n ≤ 1000) (hl : len ≤ 1048576) (w : World) (hc : CurOk w g a len cap) (hne : g2 ≠ g) (hg2 : g2 < w.heap.size)
    (hcells : ∀ j, j < n → ∃ z : Int, 0 ≤ z ∧ z ≤ 30000 ∧ w.cell? ⟨g2, j, none⟩ = some (.int .i64 z)) :
    Calls Try.prog 67 #[.pointer (some ⟨g, 0, none⟩), .slice (some ⟨g2, 0, none⟩) n c2] w fun e w' => ∃ z : Int, 0 ≤ z ∧ z ≤ 30000 ∧ e = .returned (.int .i64 z) ∧ CurOk w' g a len cap ∧ w.grownBy w' (some g) := by
  have HC : Hid (CurOk w g a len cap) := hc
  have HZ : Hid (∀ j, j < n → ∃ z : Int, 0 ≤ z ∧ z ≤ 30000 ∧ w.cell? ⟨g2, j, none⟩ = some (.int .i64 z)) := hcells
  clear hc hcells
  go_enter Try.func67, Try.ntmps67
  go_wp2_with fail
  refine (below21 g len cap a n h0 (by omega) hl _ HC.out).mono ?_
  rintro e w1 ⟨x, hx, rfl, hc1, hg1⟩
  have HC1 : Hid (CurOk w1 g a len cap) := hc1
  have HG1 : Hid (w.grownBy w1 (some g)) := hg1
  obtain ⟨z, z0, z1, hz⟩ := HZ.out x hx
  have hz1 : w1.cell? ⟨g2, x, none⟩ = some (.int .i64 z) := (World.cell?_of_block (w := w) (a := ⟨g2, x, none⟩) (hg1.block g2 hg2 (fun e => hne (Option.some.inj e)))).trans hz
  have Z0 : Hid (0 ≤ z) := z0
  have Z1 : Hid (z ≤ 30000) := z1
  clear hc1 hg1 hz z0 z1
  have hx' : (x : Int) < (n : Int) := by omega
  have hx0 : (0 : Int) ≤ (x : Int) := by omega
  go_wp2
  go_ret
  exact ⟨z, Z0.out, Z1.out, rfl, HC1.out, HG1.out⟩

theorem hide0 {p : Prop} (h : p) : Hid p := h
theorem longB_size (n : Nat) (x : UInt8) : (longB n x).size = n := by simp [longB, ByteArray.size]
theorem CodeRow.blk {w : World} {a : Option Addr} {len : Nat} (hr : CodeRow w a len) : ∀ b off, a = some ⟨b, off, none⟩ → 0 < len → b < w.heap.size := fun b off e h0 => by
  obtain ⟨b', off', e', hb', _⟩ := hr h0
  rw [e] at e'
  cases e'
  exact hb'
theorem pick_four (W : World) : ∀ j, j < 4 → ∃ z : Int, 0 ≤ z ∧ z ≤ 30000 ∧ (W.alloc (.cells #[.int .i64 0, .int .i64 3006, .int .i64 3007, .int .i64 2000] 3)).cell? ⟨W.heap.size, j, none⟩ = some (.int .i64 z) := fun j hj => by
  match j, hj with
  | 0, _ => exact ⟨0, by omega, by omega, by simp [go_sem]⟩
  | 1, _ => exact ⟨3006, by omega, by omega, by simp [go_sem]⟩
  | 2, _ => exact ⟨3007, by omega, by omega, by simp [go_sem]⟩
  | 3, _ => exact ⟨2000, by omega, by omega, by simp [go_sem]⟩

set_option maxRecDepth 100000 in
set_option maxHeartbeats 4000000 in
theorem said82 (g len cap : Nat) (a : Option Addr) (hl : len ≤ 1048576) (w : World) (hc : CurOk w g a len cap) (hg : g < w.heap.size) (hcode : ∀ b off, a = some ⟨b, off, none⟩ → 0 < len → b < w.heap.size) :
    Calls Try.prog 82 #[.pointer (some ⟨g, 0, none⟩)] w fun e w' => ∃ s : ByteArray, s.size ≤ 30000 ∧ e = .returned (.string s) ∧ CurOk w' g a len cap ∧ w.grownBy w' (some g) := by
  have HCODE : Hid (∀ b off, a = some ⟨b, off, none⟩ → 0 < len → b < w.heap.size) := hcode
  have HBL : Hid (∀ (n : Nat) (W : World), 0 < n → n ≤ 1000000000 → CurOk W g a len cap → Calls Try.prog 57 #[.pointer (some ⟨g, 0, none⟩), .int .i64 (n : Int)] W fun e w' => ∃ x : Nat, x < n ∧ e = .returned (.int .i64 (x : Int)) ∧ CurOk w' g a len cap ∧ W.grownBy w' (some g)) := fun n W h0 h1 h => below21 g len cap a n h0 h1 hl W h
  have HON : Hid (∀ (W : World), CurOk W g a len cap → Calls Try.prog 93 #[.pointer (some ⟨g, 0, none⟩), .int .i64 10] W fun e w' => ∃ b : Bool, e = .returned (.bool b) ∧ CurOk w' g a len cap ∧ W.grownBy w' (some g)) := fun W h => once19 g len cap a 10 (by omega) (by omega) hl W h
  have HTX : Hid (∀ (x : Nat) (W : World), x < 90 → DS w g a len cap W → Calls Try.prog 74 #[.pointer (some ⟨g, 0, none⟩), .int .i64 (1 + (x : Int))] W fun e w' => ∃ s : ByteArray, s.size ≤ 30000 ∧ e = .returned (.string s) ∧ CurOk w' g a len cap ∧ W.grownBy w' (some g)) := fun x W hx h => by
    have h2 := text22 g len cap a (1 + x) (by omega) hl W h.cur (Nat.lt_of_lt_of_le hg h.gr.size) (fun b off e h0 => Nat.lt_of_lt_of_le (hcode b off e h0) h.gr.size)
    rw [size3 hx] at h2
    refine h2.mono ?_
    rintro e w' ⟨s, hs, h3⟩
    exact ⟨s, by omega, h3⟩
  have HLG : Hid (∀ (n : Nat) (W : World), n ≤ 30000 → Calls Try.prog 96 #[.int .i64 (n : Int), .int .u8 97] W fun e w' => ∃ s : ByteArray, s.size ≤ 30000 ∧ e = .returned (.string s) ∧ Below W.heap.size W w') := fun n W h => by
    refine (long84 n 97 h W).mono ?_
    rintro e w' ⟨he, hb⟩
    exact ⟨_, by rw [longB_size]; exact h, he, hb⟩
  have DS0 : Hid (DS w g a len cap w) := ⟨hc, grown_refl w _⟩
  clear hc hcode
  go_enter Try.func82, Try.ntmps82
  go_wp2_with fail
  refine (HON.out _ DS0.out.cur).mono ?_
  rintro e w1 ⟨b, rfl, hc1, hg1⟩
  have DS1 : Hid (DS w g a len cap w1) := DS0.out.step hc1 hg1
  clear hc1 hg1 DS0
  cases b with
  | true =>
    have hgl : g < w1.heap.size := Nat.lt_of_lt_of_le hg DS1.out.gr.size
    have DS2 : Hid (DS w g a len cap (w1.alloc (.cells #[.int .i64 0, .int .i64 3006, .int .i64 3007, .int .i64 2000] 3))) := DS1.out.alloc hg _
    go_wp2_with fail
    refine (pickR g len cap a w1.heap.size 4 4 (by omega) (by omega) hl _ DS2.out.cur (by omega) (by simp) (pick_four w1)).mono ?_
    rintro e w2 ⟨z, z0, z1, rfl, hc2, hg2⟩
    have DS3 : Hid (DS w g a len cap w2) := DS2.out.step hc2 hg2
    obtain ⟨n, rfl⟩ : ∃ n : Nat, z = (n : Int) := ⟨z.toNat, by omega⟩
    have hn : n ≤ 30000 := by omega
    clear hc2 hg2 DS1 DS2 hgl z0 z1
    go_wp2_with fail
    refine (HLG.out n _ hn).mono ?_
    rintro e w3 ⟨s, hs, rfl, hb3⟩
    have DS4 : Hid (DS w g a len cap w3) := DS3.out.call hg hb3
    clear hb3 DS3
    go_wp2
    go_ret
    exact ⟨s, hs, rfl, DS4.out.cur, DS4.out.gr⟩
  | false =>
    go_wp2_with fail
    refine (HBL.out 90 _ (by omega) (by omega) DS1.out.cur).mono ?_
    rintro e w2 ⟨x, hx, rfl, hc2, hg2⟩
    have DS2 : Hid (DS w g a len cap w2) := DS1.out.step hc2 hg2
    have hw5 : IntKind.i64.wrap (1 + (x : Int)) = 1 + (x : Int) := by rw [IntKind.wrap_i64]; omega
    clear hc2 hg2 DS1
    go_wp2_with fail
    refine (HTX.out x _ hx DS2.out).mono ?_
    rintro e w3 ⟨s, hs, rfl, hc3, hg3⟩
    have DS3 : Hid (DS w g a len cap w3) := DS2.out.step hc3 hg3
    clear hc3 hg3 DS2 hw5
    go_wp2
    go_ret
    exact ⟨s, hs, rfl, DS3.out.cur, DS3.out.gr⟩

def LaI (ss : List ByteArray) (ps : List Wr) : Prop := ss.length ≤ 1048576 ∧ ps.length ≤ 1048576 ∧ (∀ s ∈ ss, s.size ≤ 1048576) ∧ (∀ p ∈ ps, p.2.size ≤ 1048576)
theorem LaI.ok {ss : List ByteArray} {ps : List Wr} (h : okB ss ps = true) : LaI ss ps := by
  have hO := okB_iff.1 h
  exact ⟨by have := hO.2.1; omega, by have := hO.2.2.1; omega, fun s hs => by have := hO.2.2.2.1 s hs; omega, fun p hp => by have := (hO.2.2.2.2 p hp).2.2; omega⟩
theorem LaI.cut {ss : List ByteArray} {ps : List Wr} (h : LaI ss ps) (n : Nat) : LaI (ss.take n) ps := ⟨Nat.le_trans (List.length_take_le' _ _) h.1, h.2.1, fun s hs => h.2.2.1 s (List.mem_of_mem_take hs), h.2.2.2⟩
theorem own_cut {w : World} {b e sz n g c x : Nat} {xs : List Value} (h : w.ownsRow b e sz (.slice (some ⟨g, 0, none⟩) n c) n xs) (hx : x ≤ n) : w.ownsRow b e sz (.slice (some ⟨g, 0, none⟩) x c) x (xs.take (x * sz)) := by
  have hle : x * sz ≤ n * sz := Nat.mul_le_mul_right _ hx
  refine ⟨by rw [List.length_take, h.1]; omega, ?_⟩
  rcases h.2 with ⟨hv, _⟩ | ⟨g', cap, cur, hv, hb, hg, hn, hm, hs, hc⟩
  · cases hv
  · cases hv
    refine Or.inr ⟨g, c, cur, rfl, hb, hg, by omega, hm, hs, ?_⟩
    rw [← hc, List.take_take]
    congr 1
    omega
theorem own_cap {w : World} {b e sz n g c : Nat} {xs : List Value} (h : w.ownsRow b e sz (.slice (some ⟨g, 0, none⟩) n c) n xs) : n ≤ c := by
  rcases h.2 with ⟨hv, _⟩ | ⟨g', cap, cur, hv, hb, hg, hn, hm, hs, hc⟩
  · cases hv
  · cases hv; exact hn
theorem scs_take (ss : List ByteArray) (x : Nat) : (scs ss).take (x * 1) = scs (ss.take x) := by unfold scs; rw [Nat.mul_one, List.map_take]
end Go.Proofs.Ytnfkecefkkdedaa

namespace Go.Proofs.Ytnfkecefkkdedaa
open Go.RowKit
open DM
attribute [local go_sem ↓] Go.wp_at_zero Go.wp_at_succ

theorem SOwn.app {w : World} {base g cap : Nat} {ts : List ByteArray} {x : ByteArray} (h : w.ownsRow base 9 1 (.slice (some ⟨g, 0, none⟩) (ts.length + 1) cap) (ts.length + 1) (scs ts ++ [.string x])) : SOwn w base (.slice (some ⟨g, 0, none⟩) (ts.length + 1) cap) (ts ++ [x]) := by
  unfold SOwn
  rw [scs_app, List.length_append]
  exact h
end Go.Proofs.Ytnfkecefkkdedaa

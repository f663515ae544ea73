/- What spec.l03Disk draws: a right disk of at most six sectors with at most 24 writes. -/
import Derived.Test.YtekjpoenbcnhdaaPa12
import Derived.Test.YtekjpoenbcnhdaaPa33
import Derived.Test.YtekjpoenbcnhdaaPa31
import Derived.Test.YtekjpoenbcnhdaaPa14
import Derived.Test.YtekjpoenbcnhdaaPa32
import Derived.Test.YtekjpoenbcnhdaaPa18
import Derived.Laws.StructEq
import Derived.Test.YtekjpoenbcnhdaaPa20
import Derived.Deep.Cut
import Derived.Deep.CutRange
import Derived.Deep.RegionHeld3
namespace Go.Proofs.Ytekjpoenbcnhdaa
open Go.RowKit
open DM
attribute [local go_sem ↓] Go.wp_at_zero Go.wp_at_succ

def DkI (ss : List ByteArray) (ps : List Wr) (m : Nat) : Prop := okB ss ps = true ∧ ss.length ≤ 6 ∧ ps.length ≤ m
theorem DkI.mono {ss : List ByteArray} {ps : List Wr} {m k : Nat} (h : DkI ss ps m) (hk : m ≤ k) : DkI ss ps k := ⟨h.1, h.2.1, Nat.le_trans h.2.2 hk⟩
theorem DkI.new {x : Nat} (h : x < 6) : DkI (nwS ((1 + x : Nat) : Int)) [] 0 ∧ nwB ((1 + x : Nat) : Int) = true := by
  have hb : nwB ((1 + x : Nat) : Int) = true := by simp [nwB]; omega
  refine ⟨⟨?_, ?_, by simp⟩, hb⟩
  · rw [nwS_yes hb, okB_iff]
    refine ⟨by simp [zerosS]; omega, by simp [zerosS]; omega, by simp, fun s hs => ?_, fun p hp => by cases hp⟩
    rw [(List.mem_replicate.1 hs).2]
    simp [longB, ByteArray.size]
  · rw [nwS_yes hb]; simp [zerosS]; omega

end Go.Proofs.Ytekjpoenbcnhdaa

namespace Go.Proofs.Ytekjpoenbcnhdaa
open Go.RowKit
open DM
attribute [local go_sem ↓] Go.wp_at_zero Go.wp_at_succ

end Go.Proofs.Ytekjpoenbcnhdaa

namespace Go.Proofs.Ytekjpoenbcnhdaa
open Go.RowKit
open DM
attribute [local go_sem ↓] Go.wp_at_zero Go.wp_at_succ

def DaI (ss : List ByteArray) (cur : List Wr) : Prop := ss.length ≤ 6 ∧ cur.length ≤ 61 ∧ (∀ s ∈ ss, s.size ≤ 65) ∧ (∀ p ∈ cur, p.2.size ≤ 65)
theorem DkI.any {ss : List ByteArray} {cur : List Wr} (h : DkI ss cur 24) : DaI ss cur := by
  have hO := okB_iff.1 h.1
  exact ⟨h.2.1, by have := h.2.2; omega, fun s hs => by have := hO.2.2.2.1 s hs; omega, fun p hp => by have := (hO.2.2.2.2 p hp).2.2; omega⟩
theorem DaI.set {ss : List ByteArray} {cur : List Wr} (h : DaI ss cur) (m : Nat) {t : ByteArray} (ht : t.size ≤ 65) : DaI (ss.set m t) cur := ⟨by rw [List.length_set]; exact h.1, h.2.1, fun s hs => by
  rcases List.mem_or_eq_of_mem_set hs with h1 | rfl
  · exact h.2.2.1 s h1
  · exact ht, h.2.2.2⟩
theorem DaI.app {ss : List ByteArray} {cur : List Wr} (h : DaI ss cur) (hl : cur.length ≤ 60) (x : Int) {t : ByteArray} (ht : t.size ≤ 65) : DaI ss (cur ++ [(x, t)]) := ⟨h.1, by simp; omega, h.2.2.1, fun p hp => by
  rcases List.mem_append.1 hp with h1 | h1
  · exact h.2.2.2 p h1
  · rw [List.mem_singleton.1 h1]; exact ht⟩
end Go.Proofs.Ytekjpoenbcnhdaa

namespace Go.Proofs.Ytekjpoenbcnhdaa
open Go.RowKit
open DM
attribute [local go_sem ↓] Go.wp_at_zero Go.wp_at_succ

end Go.Proofs.Ytekjpoenbcnhdaa

namespace Go.Proofs.Ytekjpoenbcnhdaa
open Go.RowKit
open DM
attribute [local go_sem ↓] Go.wp_at_zero Go.wp_at_succ

def icz (ks : List Int) : List Value := ks.map fun k : Int => Value.int .i64 k
theorem icz_app (ks : List Int) (x : Int) : icz (ks ++ [x]) = icz ks ++ [.int .i64 x] := by simp [icz]
theorem own_krow {w : World} {base G cp : Nat} {ks : List Int} (h : w.ownsRow base 3 1 (.slice (some ⟨G, 0, none⟩) ks.length cp) ks.length (icz ks)) : KRow w (some ⟨G, 0, none⟩) ks := fun _ =>
  ⟨G, 0, rfl, (World.ownsRow.lt h G rfl).2, fun j hj => by
    rw [Nat.zero_add, World.ownsRow.cellAt h j (by omega)]
    simp [icz, hj]⟩
end Go.Proofs.Ytekjpoenbcnhdaa

namespace Go.Proofs.Ytekjpoenbcnhdaa
open Go.RowKit
open DM
attribute [local go_sem ↓] Go.wp_at_zero Go.wp_at_succ

end Go.Proofs.Ytekjpoenbcnhdaa

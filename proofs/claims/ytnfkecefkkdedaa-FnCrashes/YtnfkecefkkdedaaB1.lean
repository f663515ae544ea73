/- The laws FnExactDiskOk and FnExactReadSector, walked. -/
import Derived.Test.YtnfkecefkkdedaaA2
import Derived.Test.YtnfkecefkkdedaaA3
import Derived.Test.YtnfkecefkkdedaaA4
namespace Go.Proofs.Ytnfkecefkkdedaa
open Go.RowKit
open DM
attribute [local go_sem ↓] Go.wp_at_zero Go.wp_at_succ

theorem boxed {w w' : World} {x y : Value} {t : TypeId} (hb : Below (w.heap.size + 1) (w.alloc (.cells #[x, y] t)) w') : w'.cell? ⟨w.heap.size, 0, none⟩ = some x ∧ w'.cell? ⟨w.heap.size, 1, none⟩ = some y ∧ w.heap.size < w'.heap.size := by
  refine ⟨(hb.cell (p := ⟨w.heap.size, 0, none⟩) (by simp)).trans (by simp [go_sem]), (hb.cell (p := ⟨w.heap.size, 1, none⟩) (by simp)).trans (by simp [go_sem]), ?_⟩
  have := hb.size
  simp at this
  omega

/-- what is asked of the argument of an exact law: how great it can be at all -/
structure Arg (w : World) (a1 a2 : Option Addr) (ss : List ByteArray) (ps : List Wr) : Prop where
  n : ss.length ≤ 9223372036854775807
  l : ∀ s ∈ ss, s.size ≤ 9223372036854775807
  m : ps.length ≤ 9223372036854775807
  lp : ∀ p ∈ ps, p.2.size ≤ 9223372036854775807
  s : SRow w a1 ss
  p : PRow w a2 ps

theorem SRow.drew {w : World} {a : Option Addr} {ss : List ByteArray} (h : SRow w a ss) : SRow w.drew a ss := h
theorem PRow.drew {w : World} {a : Option Addr} {ps : List Wr} (h : PRow w a ps) : PRow w.drew a ps := h
/-- two structs of two cells each -/
def Two (b c : Nat) (x0 x1 x2 x3 : Value) (w : World) : Prop := w.cell? ⟨b, 0, none⟩ = some x0 ∧ w.cell? ⟨b, 1, none⟩ = some x1 ∧ w.cell? ⟨c, 0, none⟩ = some x2 ∧ w.cell? ⟨c, 1, none⟩ = some x3
theorem Two.keep {b c : Nat} {x0 x1 x2 x3 : Value} {W W' : World} (h : Two b c x0 x1 x2 x3 W) (hb : Below W.heap.size W W') (z0 : b < W.heap.size) (z1 : c < W.heap.size) : Two b c x0 x1 x2 x3 W' :=
  ⟨(hb.cell (p := ⟨b, 0, none⟩) z0).trans h.1, (hb.cell (p := ⟨b, 1, none⟩) z0).trans h.2.1, (hb.cell (p := ⟨c, 0, none⟩) z1).trans h.2.2.1, (hb.cell (p := ⟨c, 1, none⟩) z1).trans h.2.2.2⟩
theorem bne_self (b : Bool) : (b != b) = false := by cases b <;> rfl

/-- what ReadSector tells -/
def rdR (ss : List ByteArray) (ps : List Wr) (a : Int) : ByteArray := if hasB a ss.length = true then rd ss ps a else ⟨#[]⟩
theorem srd20_any (ss : List ByteArray) (ps : List Wr) (at' : Int) (a1 a2 : Option Addr) (c1 c2 : Nat) (hn : ss.length ≤ 100000000) (hm : ps.length ≤ 100000000) (w : World) (hs : SRow w a1 ss) (hp : PRow w a2 ps) :
    Calls Try.prog 15 #[.agg #[.slice a1 ss.length c1, .slice a2 ps.length c2], .int .i64 at'] w fun e w' => e = .returned (.tuple #[.string (rdR ss ps at'), .bool (hasB at' ss.length)]) ∧ Below w.heap.size w w' := by
  cases h : hasB at' ss.length with
  | true =>
    rw [show rdR ss ps at' = rd ss ps at' from if_pos h]
    exact srd20 ss ps at' a1 a2 c1 c2 hn hm h w hs hp
  | false =>
    rw [show rdR ss ps at' = ⟨#[]⟩ from if_neg (by simp [h])]
    exact srd20_no ss ps at' a1 a2 c1 c2 hn h w
theorem ird21_any (ss : List ByteArray) (ps : List Wr) (at' : Int) (a1 a2 : Option Addr) (c1 c2 : Nat) (hn : ss.length ≤ 100000000) (hm : ps.length ≤ 100000000) (hls : ∀ s ∈ ss, s.size ≤ 1000000000) (hlp : ∀ p ∈ ps, p.2.size ≤ 1000000000) (w : World) (hs : SRow w a1 ss) (hp : PRow w a2 ps) :
    Calls Try.prog 16 #[.agg #[.slice a1 ss.length c1, .slice a2 ps.length c2], .int .i64 at'] w fun e w' => e = .returned (.tuple #[.string (rdR ss ps at'), .bool (hasB at' ss.length)]) ∧ Below w.heap.size w w' := by
  cases h : hasB at' ss.length with
  | true =>
    rw [show rdR ss ps at' = rd ss ps at' from if_pos h]
    exact ird21 ss ps at' a1 a2 c1 c2 hn hm hls hlp h w hs hp
  | false =>
    rw [show rdR ss ps at' = ⟨#[]⟩ from if_neg (by simp [h])]
    exact ird21_no ss ps at' a1 a2 c1 c2 h w

end Go.Proofs.Ytnfkecefkkdedaa

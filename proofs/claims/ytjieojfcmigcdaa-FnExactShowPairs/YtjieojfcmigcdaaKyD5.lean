/- What l01Long, l05Any, DrawWriteOk, DrawWritesOk and DrawPutWrite make. -/
import Derived.Test.YtjieojfcmigcdaaKyD3
namespace Go.Proofs.Ytjieojfcmigcdaa
open Go.RowKit
open KM
attribute [local go_sem ↓] Go.wp_at_zero Go.wp_at_succ

theorem Try.info5 : (Try.prog.info? 5).map (fun i => (i.zero, i.size, i.bytes)) = some (some (.int .u8 0), 1, 1) := by kernel_rfl
/-- the bytes l as cells -/
def bv (l : List UInt8) : List Value := l.map fun b => Value.int .u8 (b.toNat : Int)
theorem bv_len (l : List UInt8) : (bv l).length = l.length := by simp [bv]
/-- the slice v owns the bytes l -/
def Own (w : World) (base : Nat) (v : Value) (l : List UInt8) : Prop := w.ownsRow base 5 1 v l.length (bv l)
/-- 'string(v)' of owned bytes -/
theorem Own.str {w : World} {base : Nat} {v : Value} {l : List UInt8} (h : Own w base v l) :
    (convert 37 9 v).run Try.prog w = .ok (.string ⟨l.toArray⟩) w := by
  have h0 := h
  rcases h.2 with ⟨rfl, h1⟩ | ⟨g, cap, cur, rfl, hg, hh, hnc, hcp, hcs, htake⟩
  · obtain rfl : l = [] := List.length_eq_zero_iff.1 h1
    rw [run_convert_bytes_string w 37 9 5 none 0 0 Try.underlying37 Try.underlying5 Try.underlying9]
    rfl
  · refine run_convert_bytes_back (P := Try.prog) w 37 9 5 ⟨g, 0, none⟩ cap l Try.underlying37 Try.underlying5 Try.underlying9 ?_
    intro j hj
    rw [Addr.add_lit, Nat.zero_add, World.ownsRow.cellAt h0 j (by omega)]
    simp [bv, hj]
/-- n bytes x -/
def longB (n : Nat) (x : UInt8) : ByteArray := ⟨(List.replicate n x).toArray⟩

/-- a write, right or not, short -/
def WtA (x : Wt) : Prop := x.1.size ≤ 4 ∧ x.2.1.size ≤ 13
theorem long_size (n : Nat) (x : UInt8) : (longB n x).size = n := by simp [longB, ByteArray.size]
def keyA : List ByteArray := [⟨#[]⟩, ⟨#[65]⟩, ⟨#[97, 98, 99, 100]⟩, ⟨#[97, 98, 99]⟩]
theorem keyA_ok : ∀ s ∈ keyA, s.size ≤ 4 := by
  intro s hs
  simp only [keyA, List.mem_cons, List.not_mem_nil, or_false] at hs
  rcases hs with rfl | rfl | rfl | rfl <;> decide

end Go.Proofs.Ytjieojfcmigcdaa

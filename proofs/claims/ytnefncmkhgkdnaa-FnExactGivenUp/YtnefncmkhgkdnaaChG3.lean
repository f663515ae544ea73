/- What SeenAt returns, on both sides. -/
import Derived.Test.YtnefncmkhgkdnaaChG2
import Derived.Test.YtnefncmkhgkdnaaShelf
namespace Go.Proofs.Ytnefncmkhgkdnaa
open Go.RowKit
open KM
open VM
attribute [local go_sem ↓] Go.wp_at_zero Go.wp_at_succ

set_option maxHeartbeats 400000 in
theorem clone49 (s : ByteArray) (hs : s.size ≤ 281474976710656) (w : World) :
    Calls Try.prog 122 #[.string s] w fun e w' => e = .returned (.string s) ∧ Below w.heap.size w w' := by
  go_enter Try.func122, Try.ntmps122
  go_wp2_with (go_at_call 126; refine (Try.stringslite_Clone s _ hs).mono ?_; rintro e w2 ⟨rfl, hb2⟩)
  go_ret
  exact ⟨rfl, hb2⟩

/-- what SeenAt answers -/
def sawB (o : Option ByteArray) : Value := .tuple #[.string (o.getD ⟨#[]⟩), .bool o.isSome]
theorem sawB_none : sawB none = .tuple #[.string ⟨#[]⟩, .bool false] := rfl
theorem sawB_some (x : ByteArray) : sawB (some x) = .tuple #[.string x, .bool true] := rfl
theorem seen_none {k : ByteArray} {s : Int} {ns : List Nd} {vs : List Vr} (h : ns.map (·.2) = vs) (hl : lst k s ns = none) : seenB vs k s = none := by
  have := seenV_of (k := k) (s := s) h
  rw [hl] at this
  unfold seenB
  rw [← this]; rfl
theorem seen_gone {k : ByteArray} {s : Int} {ns : List Nd} {vs : List Vr} {m : Nd} (h : ns.map (·.2) = vs) (hl : lst k s ns = some m) (hg : m.2.2.2.1 = true) : seenB vs k s = none := by
  have := seenV_of (k := k) (s := s) h
  rw [hl] at this
  unfold seenB
  rw [← this]
  simp [hg]
theorem seen_some {k : ByteArray} {s : Int} {ns : List Nd} {vs : List Vr} {m : Nd} (h : ns.map (·.2) = vs) (hl : lst k s ns = some m) (hg : m.2.2.2.1 = false) : seenB vs k s = some m.2.2.1 := by
  have := seenV_of (k := k) (s := s) h
  rw [hl] at this
  unfold seenB
  rw [← this]
  simp [hg]

end Go.Proofs.Ytnefncmkhgkdnaa

/- Keys and ranges that are drawn. -/
import Derived.Test.YtbajpnbodhhmjaaNdDr
import Derived.Test.YtbajpnbodhhmjaaDk
namespace Go.Proofs.Ytbajpnbodhhmjaa
open Go.RowKit
open KM
attribute [local go_sem ↓] Go.wp_at_zero Go.wp_at_succ

theorem drPickN (g len cap : Nat) (a : Option Addr) (ss : List ByteArray) (n g2 c2 : Nat) (hl : ss.length = n) (h0 : 0 < n) (hn : n ≤ 1000) (w : World) (hc : CurI w g a len cap) (hne : g2 ≠ g) (hb : Bx w g2 (ss.map Value.string)) :
    Calls Try.prog 59 #[.pointer (some ⟨g, 0, none⟩), .slice (some ⟨g2, 0, none⟩) n c2] w fun e w' => ∃ s ∈ ss, e = .returned (.string s) ∧ Dn w w' g a len cap := by
  subst hl
  exact drPick g len cap a ss g2 c2 h0 hn w hc hne hb

set_option maxRecDepth 100000 in
set_option maxHeartbeats 1000000 in
theorem drKey (g len cap : Nat) (a : Option Addr) (w : World) (hc : CurI w g a len cap) :
    Calls Try.prog 57 #[.pointer (some ⟨g, 0, none⟩)] w fun e w' => ∃ s, KeyD s ∧ e = .returned (.string s) ∧ Dn w w' g a len cap := by
  have HC : Hid (CurI w g a len cap) := hc
  have hne : w.heap.size ≠ g := Nat.ne_of_gt hc.lt
  clear hc
  go_enter Try.func57, Try.ntmps57
  go_wp2_with fail
  refine (drPickN g len cap a keyL 5 w.heap.size 5 rfl (by omega) (by omega) _ (HC.out.alloc _) hne (Bx.new w (keyL.map Value.string) 9)).mono ?_
  rintro e w1 ⟨s, hs, rfl, d1⟩
  have D1 : Hid (Dn w w1 g a len cap) := ((Dn.start HC.out).alloc _).step d1
  have HS : Hid (KeyD s) := keyL_ok s hs
  clear d1 hs
  go_wp2
  go_ret
  exact ⟨s, HS.out, rfl, D1.out⟩

set_option maxRecDepth 100000 in
set_option maxHeartbeats 1000000 in
theorem drRange (g len cap : Nat) (a : Option Addr) (w : World) (hc : CurI w g a len cap) :
    Calls Try.prog 40 #[.pointer (some ⟨g, 0, none⟩)] w fun e w' => ∃ r : Rg, RgD r ∧ e = .returned (.agg #[.string r.1, .string r.2]) ∧ Dn w w' g a len cap := by
  have HC : Hid (CurI w g a len cap) := hc
  have hne : w.heap.size ≠ g := Nat.ne_of_gt hc.lt
  clear hc
  go_enter Try.func40, Try.ntmps40
  go_wp2_with fail
  refine (drKey g len cap a _ (HC.out.alloc _)).mono ?_
  rintro e w1 ⟨s, hs, rfl, d1⟩
  have D1 : Hid (Dn w w1 g a len cap) := ((Dn.start HC.out).alloc _).step d1
  have B1 : Hid (Bx w1 w.heap.size [.string ⟨#[]⟩, .string ⟨#[]⟩]) := (Bx.new w [.string ⟨#[]⟩, .string ⟨#[]⟩] 56).keptD d1 hne
  have HS : Hid (KeyD s) := hs
  clear d1 hs
  go_wp2_with fail
  refine (drOnce g len cap a 2 (by omega) (by omega) _ D1.out.c).mono ?_
  rintro e w2 ⟨b, rfl, d2⟩
  have D2 : Hid (Dn w w2 g a len cap) := D1.out.step d2
  have B2 : Hid (Bx w2 w.heap.size [.string ⟨#[]⟩, .string ⟨#[]⟩]) := B1.out.keptD d2 hne
  clear d2
  cases b
  · go_wp2_with fail
    refine (drKey g len cap a _ D2.out.c).mono ?_
    rintro e w3 ⟨t, ht, rfl, d3⟩
    have D3 : Hid (Dn w w3 g a len cap) := D2.out.step d3
    have B3 : Hid (Bx w3 w.heap.size [.string ⟨#[]⟩, .string ⟨#[]⟩]) := B2.out.keptD d3 hne
    have HT : Hid (KeyD t) := ht
    clear d3 ht
    have c0 := B3.out.c0
    have c1 := B3.out.c1
    have fz := B3.out.fz
    cases hlt : Op.bytesLess t.toList s.toList
    · go_wp2
      have BF := (B3.out.set 0 (.string s)).set 1 (.string t)
      have e0 := BF.c0
      have e1 := BF.c1
      exact bodyPost_ret (v := .agg #[.string s, .string t]) (by simp [results, Try.results40, go_sem, e0, e1]) rfl ⟨(s, t), ⟨HS.out, HT.out, le_of_not_lt hlt⟩, rfl, (D3.out.set (Nat.le_refl _) _).set (Nat.le_refl _) _⟩
    · go_wp2
      have BF := (B3.out.set 0 (.string t)).set 1 (.string s)
      have e0 := BF.c0
      have e1 := BF.c1
      exact bodyPost_ret (v := .agg #[.string t, .string s]) (by simp [results, Try.results40, go_sem, e0, e1]) rfl ⟨(t, s), ⟨HT.out, HS.out, le_of_lt hlt⟩, rfl, (D3.out.set (Nat.le_refl _) _).set (Nat.le_refl _) _⟩
  · have c0 := B2.out.c0
    have c1 := B2.out.c1
    have fz := B2.out.fz
    go_wp2
    have BF := (B2.out.set 0 (.string s)).set 1 (.string s)
    have e0 := BF.c0
    have e1 := BF.c1
    exact bodyPost_ret (v := .agg #[.string s, .string s]) (by simp [results, Try.results40, go_sem, e0, e1]) rfl ⟨(s, s), ⟨HS.out, HS.out, le_refl' s⟩, rfl, (D2.out.set (Nat.le_refl _) _).set (Nat.le_refl _) _⟩

end Go.Proofs.Ytbajpnbodhhmjaa

/- The law FnExactShowPairs, walked. -/
import Derived.Test.YtjieojfcmigcdaaRp
import Derived.Test.YtjieojfcmigcdaaCpCe
namespace Go.Proofs.Ytjieojfcmigcdaa
open Go.RowKit
open KM
attribute [local go_sem ↓] Go.wp_at_zero Go.wp_at_succ

theorem growO {w : World} {lo c e : Nat} {a : Option Addr} {l : List Rg} (h : GOwn encR e w lo (.slice a l.length c) l) : GRow encR w a l := h.grow

set_option maxRecDepth 100000 in
set_option maxHeartbeats 4000000 in
theorem law3 (xs : List Rg) (a : Option Addr) (c : Nat) (w : World) (hn : xs.length ≤ maxLen) (hl : ∀ x ∈ xs, x.1.size ≤ maxLen ∧ x.2.size ≤ maxLen) (hp : GRow encR w a xs) :
    Calls Try.prog 3 #[.slice a xs.length c] w fun e w' => e = .returned (.bool true) ∧ Below w.heap.size w w' := by
  have HML : Hid (∀ x ∈ xs, x.1.size ≤ maxLen ∧ x.2.size ≤ maxLen) := hl
  have HP : Hid (GRow encR w a xs) := hp
  have HB : Hid (Below w.heap.size w w) := belowRefl w
  have MR : Hid (GRow encR w a xs) := hp
  clear hl hp
  go_enter Try.func3, Try.ntmps3
  go_wp2_with fail
  refine (szSC xs a c hn HML.out 1048576 (by omega) (by omega) _ MR.out).mono ?_
  rintro e w1 ⟨hb1, r1, rfl, hu1, hr1⟩
  replace HB : Hid (Below w.heap.size w w1) := HB.out.trans (hb1.mono HB.out.size)
  replace MR : Hid (GRow encR w1 a xs) := HP.out.below HB.out
  clear hb1
  by_cases hneg1 : r1 < 0
  · clear hr1
    go_wp2
    go_ret
    exact ⟨rfl, HB.out⟩
  have hpos1 : ¬ r1 < 0 := hneg1
  have HMF : Hid (RFit xs) := (hr1 (by omega)).2
  have hn' : xs.length ≤ 1048576 := (hr1 (by omega)).1
  clear hr1 hneg1
  go_wp2_with fail
  refine (toSC xs a c (by omega) _ MR.out).mono ?_
  rintro e w2 ⟨a2, c2, rfl, hd, hb2⟩
  replace HB : Hid (Below w.heap.size w w2) := HB.out.trans (hb2.mono HB.out.size)
  replace MR : Hid (GRow encR w2 a xs) := HP.out.below HB.out
  have Y1 : Hid (GRow encR w2 a2 xs) := growO hd
  clear hd hb2
  go_wp2_with fail
  refine (sshow xs a2 c2 xs.length rfl hn' HMF.out _ Y1.out).mono ?_
  rintro e w3 ⟨rfl, hb3⟩
  replace HB : Hid (Below w.heap.size w w3) := HB.out.trans (hb3.mono HB.out.size)
  replace MR : Hid (GRow encR w3 a xs) := HP.out.below HB.out
  clear hb3 Y1
  go_wp2_with fail
  refine (toSC xs a c (by omega) _ MR.out).mono ?_
  rintro e w4 ⟨a4, c4, rfl, hd, hb4⟩
  replace HB : Hid (Below w.heap.size w w4) := HB.out.trans (hb4.mono HB.out.size)
  replace MR : Hid (GRow encR w4 a xs) := HP.out.below HB.out
  have Y2 : Hid (GRow encR w4 a4 xs) := growO hd
  clear hd hb4
  go_wp2_with fail
  refine (ishow xs a4 c4 xs.length rfl hn' HMF.out _ Y2.out).mono ?_
  rintro e w5 ⟨rfl, hb5⟩
  replace HB : Hid (Below w.heap.size w w5) := HB.out.trans (hb5.mono HB.out.size)
  replace MR : Hid (GRow encR w5 a xs) := HP.out.below HB.out
  replace Y2 : Hid (GRow encR w5 a4 xs) := Y2.out.below hb5
  clear hb5
  generalize (⟨(pairsL xs).toArray⟩ : ByteArray) = ans at *
  go_wp2_with fail
  refine (toSC xs a c (by omega) _ MR.out).mono ?_
  rintro e w6 ⟨a6, c6, rfl, hd, hb6⟩
  replace HB : Hid (Below w.heap.size w w6) := HB.out.trans (hb6.mono HB.out.size)
  replace MR : Hid (GRow encR w6 a xs) := HP.out.below HB.out
  replace Y2 : Hid (GRow encR w6 a4 xs) := Y2.out.below hb6
  have Y3 : Hid (GRow encR w6 a6 xs) := growO hd
  clear hd hb6
  go_wp2_with fail
  refine (eqSP a4 a6 c4 c6 xs (by omega) _ Y2.out Y3.out).mono ?_
  rintro e w7 ⟨rfl, hb7⟩
  replace HB : Hid (Below w.heap.size w w7) := HB.out.trans (hb7.mono HB.out.size)
  replace MR : Hid (GRow encR w7 a xs) := HP.out.below HB.out
  clear hb7 Y2 Y3
  go_wp2
  go_ret
  exact ⟨rfl, HB.out⟩
end Go.Proofs.Ytjieojfcmigcdaa

/- One element more of each make of rows; sorting and compacting rows of texts. -/
import Derived.Test.YtbajpnbodhhmjaaGreatProg
import Derived.WalkKit
import Derived.Test.YtbajpnbodhhmjaaGreatPs01
import Derived.WalkSpells
import Derived.WalkLawsBesides
import Derived.Deep.QuietTactic
import Derived.BigQuiet
import Derived.Deep.RegionHeld3
import Derived.Deep.DrawnRows
import Derived.Deep.AppendLies
import Derived.Sort.OwnSorted
import Derived.Lib.RowBridge
import Derived.Test.YtbajpnbodhhmjaaGreatPs02
namespace Go.Proofs.YtbajpnbodhhmjaaGreat
open Go.RowKit
open KM
open Go.Sort
attribute [local go_sem ↓] Go.wp_at_zero Go.wp_at_succ

theorem wpAppS {ops : Array Oper} {rest : List Oper} {o : Oper} {a : Act} {Q : Exit → Act → World → Prop} (hgd : o.guard = none) (s x : Operand) (ho : o.op = .call { callee := .builtin .append, args := #[s, x], argTypes := #[77, 77] })
  {W : World} {base : Nat} {v : Value} {xs : List ByteArray} (y : ByteArray) (hs : a.eval s = v) (hown : GOwn encS 9 W base v xs)
  (hx : a.eval x = .slice (some ⟨W.heap.size, 0, none⟩) 1 1) (hlen : xs.length ≤ 100000000) (hB : base ≤ W.heap.size)
  (h : ∀ v' w', GOwn encS 9 w' base v' (xs ++ [y]) → Below base W w' → wpList Tryz.prog ops Q rest (a.put o.dst v') w') :
  wpList Tryz.prog ops Q (o :: rest) a (W.alloc (.cells #[.string y] 9)) := by
 refine wpAppG 77 9 1 16 _ Tryz.underlying77 Tryz.info9 rfl (by omega) (by omega) hgd s x ho (encS.enc y) hs (World.ownsRow.alloc hown _) hx (heapAllocNew W _ _) rfl oneS (by omega) (by simp; omega) ?_
 intro g' cap w' h1 h2
 refine h _ w' ?_ (((Below.refl _ _).alloc hB _).trans h2)
 have e : encS.cells (xs ++ [y]) = encS.cells xs ++ encS.enc y := by rw [encS.cells_app]; simp [Enc.cells]
 unfold GOwn
 rw [e, List.length_append]
 exact h1

end Go.Proofs.YtbajpnbodhhmjaaGreat

namespace Go.Proofs.YtbajpnbodhhmjaaGreat
open Go.RowKit
open KM
attribute [local go_sem ↓] Go.wp_at_zero Go.wp_at_succ

set_option maxRecDepth 100000 in
set_option maxHeartbeats 1000000 in
theorem byte26 (g len cap : Nat) (a : Option Addr) (i h : Int) (hl : len ≤ 1048576) (w : World) (hc : Cur w g a len cap i h) (hk : CodeOk w a len g) :
  Calls Tryz.prog 70 #[.pointer (some ⟨g, 0, none⟩)] w fun e w' => ∃ x i' h' : Int, e = .returned (.int .i64 x) ∧ 0 ≤ x ∧ x ≤ 255 ∧ Cur w' g a len cap i' h' ∧ w.grownBy w' (some g) := by
 obtain ⟨n, rfl⟩ := Int.eq_ofNat_of_zero_le hc.i0
 have HC : Hid (Cur w g a len cap n h) := hc
 have HK : Hid (CodeOk w a len g) := hk
 have hn : n ≤ len := by have := hc.i1; omega
 have k0 := hc.c0
 have k1 := hc.c1
 have k2 := hc.c2
 have f0 := hc.free
 clear hc hk
 go_enter Tryz.func70, Tryz.ntmps70
 go_wp2
 generalize wrap64 (wrap64 (h * 6364136223846793005) + 1442695040888963407) = H
 have hc1 := HC.out.setH H
 have hg1 := grown_set w g 2 (.int .i64 H)
 have hk1 := HK.out.grown hg1
 generalize w.setCell ⟨g, 2, none⟩ (.int .i64 H) = W1 at *
 have HC1 : Hid (Cur W1 g a len cap n H) := hc1
 have HG1 : Hid (w.grownBy W1 (some g)) := hg1
 have HK1 : Hid (CodeOk W1 a len g) := hk1
 clear k0 k1 k2 f0
 have k0 := hc1.c0
 have k1 := hc1.c1
 have k2 := hc1.c2
 have f0 := hc1.free
 clear hc1 hg1 hk1
 by_cases hlt : n < len
 ·have hlt' : (n : Int) < (len : Int) := by omega
  have hn0 : (0 : Int) ≤ (n : Int) := by omega
  obtain ⟨b, off, rfl, hbb, hbne, hz⟩ := HK1.out (by omega)
  obtain ⟨z, z0, z1, hcz⟩ := hz n hlt
  clear hz
  go_quiet (fail)
  go_wp2
  go_quiet (fail)
  go_wp2
  go_quiet (fail)
  go_wp2
  go_ret
  have hs := HC1.out.setI ((n : Int) + 1) (by omega) (by omega)
  have hg := grown_trans HG1.out (grown_set W1 g 1 (.int .i64 ((n : Int) + 1)))
  exact ⟨_, (n : Int) + 1, H, rfl, (and255 _).1, (and255 _).2, ⟨hs.c0, hs.c1, hs.c2, hs.free, hs.i0, hs.i1⟩, ⟨hg.os, hg.tape, hg.output, hg.size, hg.block⟩⟩
 ·have hlt' : decide ((n : Int) < (len : Int)) = false := by simp; omega
  go_quiet (fail)
  go_wp2
  go_quiet (fail)
  go_wp2
  go_ret
  have hs := HC1.out
  have hg := HG1.out
  exact ⟨_, (n : Int), H, rfl, (and255 _).1, (and255 _).2, ⟨hs.c0, hs.c1, hs.c2, hs.free, hs.i0, hs.i1⟩, ⟨hg.os, hg.tape, hg.output, hg.size, hg.block⟩⟩

theorem byteOk (g len cap : Nat) (a : Option Addr) (hl : len ≤ 1048576) (w : World) (hc : CurOk w g a len cap) :
  Calls Tryz.prog 70 #[.pointer (some ⟨g, 0, none⟩)] w fun e w' => ∃ x : Nat, x ≤ 255 ∧ e = .returned (.int .i64 (x : Int)) ∧ CurOk w' g a len cap ∧ w.grownBy w' (some g) := by
 obtain ⟨i, h, c, k⟩ := hc
 refine (byte26 g len cap a i h hl w c k).mono ?_
 rintro e w' ⟨x, i', h', rfl, h0, h1, hc, hg⟩
 obtain ⟨n, rfl⟩ := Int.eq_ofNat_of_zero_le h0
 exact ⟨n, by omega, rfl, ⟨i', h', hc, k.grown hg⟩, hg⟩

set_option maxRecDepth 100000 in
set_option maxHeartbeats 1000000 in
theorem below21 (g len cap : Nat) (a : Option Addr) (n : Nat) (h0 : 0 < n) (hn : n ≤ 1000000000) (hl : len ≤ 1048576) (w : World) (hc : CurOk w g a len cap) :
  Calls Tryz.prog 48 #[.pointer (some ⟨g, 0, none⟩), .int .i64 (n : Int)] w fun e w' => ∃ x : Nat, x < n ∧ e = .returned (.int .i64 (x : Int)) ∧ CurOk w' g a len cap ∧ w.grownBy w' (some g) := by
 have HC : Hid (CurOk w g a len cap) := hc
 clear hc
 by_cases hs : n ≤ 256
 ·go_enter Tryz.func48, Tryz.ntmps48
  go_wp2_with (go_at_call 70; refine (byteOk g len cap a hl _ HC.out).mono ?_; rintro e w1 ⟨x, hx, rfl, hc1, hg1⟩)
  go_ret
  exact ⟨x % n, Nat.mod_lt _ h0, by go_num, hc1, hg1⟩
 ·have hs' : ¬ (n : Int) ≤ 256 := by omega
  go_enter Tryz.func48, Tryz.ntmps48
  go_wp2_with fail
  refine (byteOk g len cap a hl _ HC.out).mono ?_
  rintro e w1 ⟨x, hx, rfl, hc1, hg1⟩
  have HC1 : Hid (CurOk w1 g a len cap) := hc1
  have HG1 : Hid (w.grownBy w1 (some g)) := hg1
  clear hc1 hg1
  go_wp2_with fail
  refine (byteOk g len cap a hl _ HC1.out).mono ?_
  rintro e w2 ⟨y, hy, rfl, hc2, hg2⟩
  have HC2 : Hid (CurOk w2 g a len cap) := hc2
  have HG2 : Hid (w.grownBy w2 (some g)) := grown_trans HG1.out hg2
  clear hc2 hg2
  go_wp2_with fail
  refine (byteOk g len cap a hl _ HC2.out).mono ?_
  rintro e w3 ⟨z, hz, rfl, hc3, hg3⟩
  have HC3 : Hid (CurOk w3 g a len cap) := hc3
  have HG3 : Hid (w.grownBy w3 (some g)) := grown_trans HG2.out hg3
  clear hc3 hg3
  go_wp2_with fail
  refine (byteOk g len cap a hl _ HC3.out).mono ?_
  rintro e w4 ⟨u, hu, rfl, hc4, hg4⟩
  have HC4 : Hid (CurOk w4 g a len cap) := hc4
  have HG4 : Hid (w.grownBy w4 (some g)) := grown_trans HG3.out hg4
  clear hc4 hg4
  go_wp2
  go_ret
  exact ⟨(x * 16777216 + y * 65536 + z * 256 + u) % n, Nat.mod_lt _ h0, by go_num, HC4.out, HG4.out⟩

theorem curNew (w : World) (a : Option Addr) (len cap : Nat) (H : Int) (hr : CodeRow w a len) : CurOk (w.alloc (.cells #[.slice a len cap, .int .i64 0, .int .i64 H] 88)) w.heap.size a len cap := by
 refine ⟨0, H, ⟨?_, ?_, ?_, ?_, by omega, by omega⟩, fun hl => ?_⟩
 ·exact World.cell?_alloc_mark w _ 88 (0, 0) 0
 ·exact World.cell?_alloc_mark w _ 88 (0, 0) 1
 ·exact World.cell?_alloc_mark w _ 88 (0, 0) 2
 ·intro j
  rw [show (w.alloc (.cells #[.slice a len cap, .int .i64 0, .int .i64 H] 88)).frozen? ⟨w.heap.size, j, none⟩ = _ from World.frozen?_alloc_mark w _ 88 0 0 j]
  simp
 ·obtain ⟨b, off, ha, hb1, hz⟩ := hr hl
  refine ⟨b, off, ha, by simp; omega, by omega, fun j hj => ?_⟩
  obtain ⟨z, h0, h1, hc⟩ := hz j hj
  exact ⟨z, h0, h1, (World.cell?_alloc_past _ _ _ (by omega)).trans hc⟩

set_option maxRecDepth 100000 in
set_option maxHeartbeats 1000000 in
theorem new16 (len cap : Nat) (a : Option Addr) (hl : len ≤ 1048576) (w : World) (hr : CodeRow w a len) :
  Calls Tryz.prog 23 #[.slice a len cap] w fun e w' => e = .returned (.pointer (some ⟨w.heap.size, 0, none⟩)) ∧ CurOk w' w.heap.size a len cap ∧ Below w.heap.size w w' ∧ w.heap.size < w'.heap.size := by
 have HR : Hid (CodeRow w a len) := hr
 clear hr
 go_enter Tryz.func23, Tryz.ntmps23
 go_wp2
 go_loop [3, 4] (fun t3 t4 => ∃ (k : Nat) (H : Int), k ≤ len ∧ t4 = .int .i64 (k : Int) ∧ t3 = .int .i64 H) (fun _ t4 => len - (intOf t4).toNat)
 case atStart => exact ⟨0, _, Nat.zero_le _, rfl, rfl⟩
 case round =>
  obtain ⟨k, H, hk, rfl, rfl⟩ := hrel
  by_cases hlt : k < len
  ·have hlt' : (k : Int) < (len : Int) := by omega
   by_cases h4 : k < 4000
   ·have h4' : (k : Int) < 4000 := by omega
    have h0 : (0 : Int) ≤ (k : Int) := by omega
    obtain ⟨b, off, rfl, hbb, hz⟩ := HR.out (by omega)
    obtain ⟨z, z0, z1, hcz⟩ := hz k hlt
    clear hz
    go_wp2
    go_round
    case rel => exact ⟨k + 1, _, by omega, by go_num, rfl⟩
    case measure => simp [intOf]; omega
   ·have h4' : decide ((k : Int) < 4000) = false := by simp; omega
    go_wp2
    go_ret
    exact ⟨rfl, curNew w a len cap H HR.out, (Below.refl _ _).alloc (Nat.le_refl _) _, by simp⟩
  ·have hlt' : decide ((k : Int) < (len : Int)) = false := by simp; omega
   go_wp2
   go_ret
   exact ⟨rfl, curNew w a len cap H HR.out, (Below.refl _ _).alloc (Nat.le_refl _) _, by simp⟩

section
variable {w0 w w' : World} {g len cap : Nat} {a : Option Addr}
end

section
variable {w w' : World} {b : Nat} {cs : List Value}
end

theorem drBelow (g len cap : Nat) (a : Option Addr) (n : Nat) (h0 : 0 < n) (hn : n ≤ 1000000000) (w : World) (hc : CurI w g a len cap) :
  Calls Tryz.prog 48 #[.pointer (some ⟨g, 0, none⟩), .int .i64 (n : Int)] w fun e w' => ∃ x : Nat, x < n ∧ e = .returned (.int .i64 (x : Int)) ∧ Dn w w' g a len cap := by
 refine (below21 g len cap a n h0 hn hc.sm w hc.c).mono ?_
 rintro e w' ⟨x, hx, rfl, hc', hg⟩
 exact ⟨x, hx, rfl, ⟨hc', Nat.lt_of_lt_of_le hc.lt hg.size, hc.sm⟩, hg, hc.old⟩

theorem drNew (len cap : Nat) (a : Option Addr) (hl : len ≤ 1048576) (w : World) (hr : CodeRow w a len) :
  Calls Tryz.prog 23 #[.slice a len cap] w fun e w' => e = .returned (.pointer (some ⟨w.heap.size, 0, none⟩)) ∧ CurI w' w.heap.size a len cap ∧ Below w.heap.size w w' := by
 refine (new16 len cap a hl w hr).mono ?_
 rintro e w' ⟨rfl, hc, hb, hs⟩
 exact ⟨rfl, ⟨hc, hs, hl⟩, hb⟩

set_option maxHeartbeats 400000 in
theorem drOnce (g len cap : Nat) (a : Option Addr) (n : Nat) (h0 : 0 < n) (hn : n ≤ 1000000000) (w : World) (hc : CurI w g a len cap) :
  Calls Tryz.prog 61 #[.pointer (some ⟨g, 0, none⟩), .int .i64 (n : Int)] w fun e w' => ∃ b : Bool, e = .returned (.bool b) ∧ Dn w w' g a len cap := by
 have HC : Hid (CurI w g a len cap) := hc
 clear hc
 go_enter Tryz.func61, Tryz.ntmps61
 go_wp2_with (go_at_call 48; refine (drBelow g len cap a n h0 hn _ HC.out).mono ?_; rintro e w1 ⟨x, hx, rfl, d1⟩)
 go_ret
 exact ⟨_, rfl, d1⟩

set_option maxHeartbeats 400000 in
theorem drPick (g len cap : Nat) (a : Option Addr) (ss : List ByteArray) (g2 c2 : Nat) (h0 : 0 < ss.length) (hn : ss.length ≤ 1000) (w : World) (hc : CurI w g a len cap) (hne : g2 ≠ g) (hb : Bx w g2 (ss.map Value.string)) :
  Calls Tryz.prog 77 #[.pointer (some ⟨g, 0, none⟩), .slice (some ⟨g2, 0, none⟩) ss.length c2] w fun e w' => ∃ s ∈ ss, e = .returned (.string s) ∧ Dn w w' g a len cap := by
 have HC : Hid (CurI w g a len cap) := hc
 have HX : Hid (Bx w g2 (ss.map Value.string)) := hb
 clear hc hb
 go_enter Tryz.func77, Tryz.ntmps77
 go_wp2_with fail
 refine (drBelow g len cap a ss.length h0 (by omega) _ HC.out).mono ?_
 rintro e w1 ⟨x, hx, rfl, d1⟩
 have D1 : Hid (Dn w w1 g a len cap) := d1
 have hz1 : w1.cell? ⟨g2, x, none⟩ = some (.string ss[x]) := by
  rw [(HX.out.keptD d1 hne).at' x (by simpa using hx)]
  simp [hx]
 clear d1
 have hx' : (x : Int) < (ss.length : Int) := by omega
 have hx0 : (0 : Int) ≤ (x : Int) := by omega
 go_wp2
 go_ret
 exact ⟨ss[x], List.getElem_mem hx, rfl, D1.out⟩
end Go.Proofs.YtbajpnbodhhmjaaGreat

namespace Go.Proofs.YtbajpnbodhhmjaaGreat
open Go.RowKit
open KM
attribute [local go_sem ↓] Go.wp_at_zero Go.wp_at_succ

theorem drPickN (g len cap : Nat) (a : Option Addr) (ss : List ByteArray) (n g2 c2 : Nat) (hl : ss.length = n) (h0 : 0 < n) (hn : n ≤ 1000) (w : World) (hc : CurI w g a len cap) (hne : g2 ≠ g) (hb : Bx w g2 (ss.map Value.string)) :
  Calls Tryz.prog 77 #[.pointer (some ⟨g, 0, none⟩), .slice (some ⟨g2, 0, none⟩) n c2] w fun e w' => ∃ s ∈ ss, e = .returned (.string s) ∧ Dn w w' g a len cap := by
 subst hl
 exact drPick g len cap a ss g2 c2 h0 hn w hc hne hb

set_option maxRecDepth 100000 in
set_option maxHeartbeats 1000000 in
theorem drKey (g len cap : Nat) (a : Option Addr) (w : World) (hc : CurI w g a len cap) :
  Calls Tryz.prog 60 #[.pointer (some ⟨g, 0, none⟩)] w fun e w' => ∃ s, KeyD s ∧ e = .returned (.string s) ∧ Dn w w' g a len cap := by
 have HC : Hid (CurI w g a len cap) := hc
 have hne : w.heap.size ≠ g := Nat.ne_of_gt hc.lt
 clear hc
 go_enter Tryz.func60, Tryz.ntmps60
 go_wp2_with fail
 refine (drPickN g len cap a keyL 5 w.heap.size 5 rfl (by omega) (by omega) _ (HC.out.alloc _) hne (Bx.new w (keyL.map Value.string) 9)).mono ?_
 rintro e w1 ⟨s, hs, rfl, d1⟩
 have D1 : Hid (Dn w w1 g a len cap) := ((Dn.start HC.out).alloc _).step d1
 have HS : Hid (KeyD s) := keyL_ok s hs
 clear d1 hs
 go_wp2
 go_ret
 exact ⟨s, HS.out, rfl, D1.out⟩

set_option maxRecDepth 100000 in
set_option maxHeartbeats 1000000 in
theorem drRange (g len cap : Nat) (a : Option Addr) (w : World) (hc : CurI w g a len cap) :
  Calls Tryz.prog 31 #[.pointer (some ⟨g, 0, none⟩)] w fun e w' => ∃ r : Rg, RgD r ∧ e = .returned (.agg #[.string r.1, .string r.2]) ∧ Dn w w' g a len cap := by
 have HC : Hid (CurI w g a len cap) := hc
 have hne : w.heap.size ≠ g := Nat.ne_of_gt hc.lt
 clear hc
 go_enter Tryz.func31, Tryz.ntmps31
 go_wp2_with fail
 refine (drKey g len cap a _ (HC.out.alloc _)).mono ?_
 rintro e w1 ⟨s, hs, rfl, d1⟩
 have D1 : Hid (Dn w w1 g a len cap) := ((Dn.start HC.out).alloc _).step d1
 have B1 : Hid (Bx w1 w.heap.size [.string ⟨#[]⟩, .string ⟨#[]⟩]) := (Bx.new w [.string ⟨#[]⟩, .string ⟨#[]⟩] 35).keptD d1 hne
 have HS : Hid (KeyD s) := hs
 clear d1 hs
 go_wp2_with fail
 refine (drOnce g len cap a 2 (by omega) (by omega) _ D1.out.c).mono ?_
 rintro e w2 ⟨b, rfl, d2⟩
 have D2 : Hid (Dn w w2 g a len cap) := D1.out.step d2
 have B2 : Hid (Bx w2 w.heap.size [.string ⟨#[]⟩, .string ⟨#[]⟩]) := B1.out.keptD d2 hne
 clear d2
 cases b
 ·go_wp2_with fail
  refine (drKey g len cap a _ D2.out.c).mono ?_
  rintro e w3 ⟨t, ht, rfl, d3⟩
  have D3 : Hid (Dn w w3 g a len cap) := D2.out.step d3
  have B3 : Hid (Bx w3 w.heap.size [.string ⟨#[]⟩, .string ⟨#[]⟩]) := B2.out.keptD d3 hne
  have HT : Hid (KeyD t) := ht
  clear d3 ht
  have c0 := B3.out.c0
  have c1 := B3.out.c1
  have fz := B3.out.fz
  cases hlt : Op.bytesLess t.toList s.toList
  ·go_wp2
   have BF := (B3.out.set 0 (.string s)).set 1 (.string t)
   have e0 := BF.c0
   have e1 := BF.c1
   exact bodyPost_ret (v := .agg #[.string s, .string t]) (by simp [results, Tryz.results31, go_sem, e0, e1]) rfl ⟨(s, t), ⟨HS.out, HT.out, le_of_not_lt hlt⟩, rfl, (D3.out.set (Nat.le_refl _) _).set (Nat.le_refl _) _⟩
  ·go_wp2
   have BF := (B3.out.set 0 (.string t)).set 1 (.string s)
   have e0 := BF.c0
   have e1 := BF.c1
   exact bodyPost_ret (v := .agg #[.string t, .string s]) (by simp [results, Tryz.results31, go_sem, e0, e1]) rfl ⟨(t, s), ⟨HT.out, HS.out, le_of_lt hlt⟩, rfl, (D3.out.set (Nat.le_refl _) _).set (Nat.le_refl _) _⟩
 ·have c0 := B2.out.c0
  have c1 := B2.out.c1
  have fz := B2.out.fz
  go_wp2
  have BF := (B2.out.set 0 (.string s)).set 1 (.string s)
  have e0 := BF.c0
  have e1 := BF.c1
  exact bodyPost_ret (v := .agg #[.string s, .string s]) (by simp [results, Tryz.results31, go_sem, e0, e1]) rfl ⟨(s, s), ⟨HS.out, HS.out, le_refl' s⟩, rfl, (D2.out.set (Nat.le_refl _) _).set (Nat.le_refl _) _⟩

end Go.Proofs.YtbajpnbodhhmjaaGreat

namespace Go.Proofs.YtbajpnbodhhmjaaGreat
open Go.RowKit
open KM
attribute [local go_sem ↓] Go.wp_at_zero Go.wp_at_succ

set_option maxRecDepth 100000 in
set_option maxHeartbeats 2000000 in
theorem sput (xs : List Wt) (x : Wt) (a : Option Addr) (c : Nat) (hn : xs.length ≤ 1000000) (w : World) (hp : GRow encW w a xs) :
  Calls Tryz.prog 71 #[.slice a xs.length c, .agg #[.string x.1, .string x.2.1, .bool x.2.2]] w fun e w' => ∃ a1 c1, e = .returned (.slice a1 (putS xs x).length c1) ∧ GOwn encW 55 w' w.heap.size (.slice a1 (putS xs x).length c1) (putS xs x) ∧ Below w.heap.size w w' := by
 have HP : Hid (GRow encW w a xs) := hp
 clear hp
 have B0 : Hid (Bx (w.alloc (.cells #[.string x.1, .string x.2.1, .bool x.2.2] 55)) w.heap.size [.string x.1, .string x.2.1, .bool x.2.2]) := Bx.new w _ 55
 have HB0 : Hid (Below w.heap.size w (w.alloc (.cells #[.string x.1, .string x.2.1, .bool x.2.2] 55))) := (belowRefl w).alloc (Nat.le_refl _) _
 go_enter Tryz.func71, Tryz.ntmps71
 go_wp2
 go_loopw [5, 6] (fun v t wr => ∃ k : Nat, k ≤ xs.length ∧ t = .int .i64 k ∧ Hid (GOwn encW 55 wr (w.heap.size + 1) v ((xs.take k).filter fun y => lt y.1 x.1)) ∧ Hid (Bx wr w.heap.size [.string x.1, .string x.2.1, .bool x.2.2]) ∧ Hid (Below w.heap.size w wr)) (fun _ t _ => xs.length - (intOf t).toNat)
 case atStart =>
  refine ⟨0, Nat.zero_le _, rfl, ?_, B0.out.alloc _, HB0.out.alloc HB0.out.size _⟩
  have h := GOwn.empty (E := encW) (e := 55) (w.alloc (.cells #[.string x.1, .string x.2.1, .bool x.2.2] 55)) (w.heap.size + 1) (by rw [World.size_alloc]; exact Nat.le_refl _)
  rw [World.size_alloc] at h
  exact h
 case round =>
  clear B0 HB0
  obtain ⟨k, hk, rfl, HO, HX, HB⟩ := hrel
  by_cases hlt : k < xs.length
  ·have hlt' : (k : Int) < (xs.length : Int) := by omega
   have hk0 : (0 : Int) ≤ (k : Int) := by omega
   obtain ⟨b, off, rfl, hbl, hc⟩ := (HP.out.below HB.out) (by omega)
   have r0 := (wat hc k hlt).1
   have r1 := (wat hc k hlt).2.1
   have r2 := (wat hc k hlt).2.2
   clear hc
   have x0 := HX.out.c0
   cases hl : lt xs[k].1 x.1
   ·have hl' : Op.bytesLess xs[k].1.toList x.1.toList = false := hl
    have ho2 := HO.out
    rw [← filter_no (p := fun y => lt y.1 x.1) hlt hl] at ho2
    have HO2 := hide ho2
    clear ho2
    clear hl
    go_wp2
    go_quiet (fail)
    go_wp2
    go_roundw
    case rel => exact ⟨k + 1, by omega, by go_num, HO2, HX.out.below (below_drewN (belowRefl wr) _), below_drewN HB.out _⟩
    case measure => simp [intOf]; omega
   ·have hl' : Op.bytesLess xs[k].1.toList x.1.toList = true := hl
    have hlen : ((xs.take k).filter fun y => lt y.1 x.1).length ≤ 1000000 := Nat.le_trans (List.length_filter_le _ _) (by rw [List.length_take]; omega)
    have hsz : w.heap.size + 1 ≤ wr.heap.size := HX.out.lt
    go_wp2
    go_quiet (fail)
    go_wp2_with (at_builtin; refine wpAppW rfl _ _ rfl xs[k] rfl (HO.out.drewN _) rfl (by omega) hsz ?_)
    intro v' w' ho' hb'
    have HO2 : Hid (GOwn encW 55 w' (w.heap.size + 1) v' ((xs.take (k + 1)).filter fun y => lt y.1 x.1)) := by
     show GOwn _ _ _ _ _ _
     rw [filter_yes hlt hl]; exact ho'
    have HB2 : Hid (Below w.heap.size w w') := (below_drewN HB.out _).trans (hb'.mono (by omega))
    have HX2 : Hid (Bx w' w.heap.size [.string x.1, .string x.2.1, .bool x.2.2]) := (HX.out.below (below_drewN (belowRefl wr) _)).belowB hb' (by omega)
    clear ho' hb' hl
    go_wp2
    go_roundw
    case rel => exact ⟨k + 1, by omega, by go_num, HO2, HX2, HB2⟩
    case measure => simp [intOf]; omega
  ·have hlt' : ¬ (k : Int) < (xs.length : Int) := by omega
   have x0 := HX.out.c0
   have x1 := HX.out.c1
   have x2 := HX.out.c2
   have ho := HO.out
   rw [List.take_of_length_le (by omega)] at ho
   have HO1 := hide ho
   clear ho
   have hlen : (xs.filter fun y => lt y.1 x.1).length ≤ 1000000 := Nat.le_trans (List.length_filter_le _ _) hn
   have hsz : w.heap.size + 1 ≤ wr.heap.size := HX.out.lt
   go_wp2_with (at_builtin; refine wpAppW rfl _ _ rfl x rfl HO1.out rfl (Nat.le_trans hlen (by omega)) hsz ?_)
   intro v' w' ho' hb'
   have HO2 : Hid (GOwn encW 55 w' (w.heap.size + 1) v' (xs.filter (fun y => lt y.1 x.1) ++ [x])) := ho'
   have HB2 : Hid (Below w.heap.size w w') := HB.out.trans (hb'.mono (by omega))
   have HX2 : Hid (Bx w' w.heap.size [.string x.1, .string x.2.1, .bool x.2.2]) := HX.out.belowB hb' (by omega)
   clear ho' hb' x0 x1 x2 HO1 HO HB HX hsz
   go_wp2
   go_loopw [5, 7] (fun v t wr => ∃ k : Nat, k ≤ xs.length ∧ t = .int .i64 k ∧ Hid (GOwn encW 55 wr (w.heap.size + 1) v (xs.filter (fun y => lt y.1 x.1) ++ [x] ++ (xs.take k).filter fun y => lt x.1 y.1)) ∧ Hid (Bx wr w.heap.size [.string x.1, .string x.2.1, .bool x.2.2]) ∧ Hid (Below w.heap.size w wr)) (fun _ t _ => xs.length - (intOf t).toNat)
   case atStart =>
    refine ⟨0, Nat.zero_le _, rfl, ?_, HX2, HB2⟩
    show GOwn _ _ _ _ _ _
    simpa using HO2.out
   case round =>
    clear HX2 HB2 HO2
    obtain ⟨m, hm, rfl, HO, HX, HB⟩ := hrel
    by_cases hltm : m < xs.length
    ·have hltm' : (m : Int) < (xs.length : Int) := by omega
     have hm0 : (0 : Int) ≤ (m : Int) := by omega
     obtain ⟨b, off, rfl, hbl, hc⟩ := (HP.out.below HB.out) (by omega)
     have r0 := (wat hc m hltm).1
     have r1 := (wat hc m hltm).2.1
     have r2 := (wat hc m hltm).2.2
     clear hc
     have x0 := HX.out.c0
     cases hl : lt x.1 xs[m].1
     ·have hl' : (!(Op.bytesLess xs[m].1.toList x.1.toList || xs[m].1.toList == x.1.toList)) = false := (not_le _ _).trans hl
      have ho2 := HO.out
      rw [← filter_no (p := fun y => lt x.1 y.1) hltm hl] at ho2
      have HO2 := hide ho2
      clear ho2 hl
      go_wp2
      go_quiet (fail)
      go_wp2
      go_roundw
      case rel => exact ⟨m + 1, by omega, by go_num, HO2, HX.out.below (below_drewN (belowRefl wr) _), below_drewN HB.out _⟩
      case measure => simp [intOf]; omega
     ·have hl' : (!(Op.bytesLess xs[m].1.toList x.1.toList || xs[m].1.toList == x.1.toList)) = true := (not_le _ _).trans hl
      have hlen2 : (xs.filter (fun y => lt y.1 x.1) ++ [x] ++ (xs.take m).filter fun y => lt x.1 y.1).length ≤ 3000000 := by
       have h1 : ((xs.take m).filter fun y => lt x.1 y.1).length ≤ 1000000 := Nat.le_trans (List.length_filter_le _ _) (by rw [List.length_take]; omega)
       simp only [List.length_append, List.length_cons, List.length_nil]
       omega
      have hsz : w.heap.size + 1 ≤ wr.heap.size := HX.out.lt
      go_wp2
      go_quiet (fail)
      go_wp2_with (at_builtin; refine wpAppW rfl _ _ rfl xs[m] rfl (HO.out.drewN _) rfl (by omega) hsz ?_)
      intro v' w' ho' hb'
      have HO2 : Hid (GOwn encW 55 w' (w.heap.size + 1) v' (xs.filter (fun y => lt y.1 x.1) ++ [x] ++ (xs.take (m + 1)).filter fun y => lt x.1 y.1)) := by
       show GOwn _ _ _ _ _ _
       rw [filter_yes hltm hl]; simpa [List.append_assoc] using ho'
      have HB2 : Hid (Below w.heap.size w w') := (below_drewN HB.out _).trans (hb'.mono (by omega))
      have HX2 : Hid (Bx w' w.heap.size [.string x.1, .string x.2.1, .bool x.2.2]) := (HX.out.below (below_drewN (belowRefl wr) _)).belowB hb' (by omega)
      clear ho' hb' hl
      go_wp2
      go_roundw
      case rel => exact ⟨m + 1, by omega, by go_num, HO2, HX2, HB2⟩
      case measure => simp [intOf]; omega
    ·have hltm' : ¬ (m : Int) < (xs.length : Int) := by omega
     have ho := HO.out
     rw [List.take_of_length_le (by omega)] at ho
     change GOwn encW 55 wr (w.heap.size + 1) _ (putS xs x) at ho
     obtain ⟨a1, c1, rfl, _⟩ := ho.row
     have HO1 : Hid (GOwn encW 55 wr w.heap.size (.slice a1 (putS xs x).length c1) (putS xs x)) := ho.mono (by omega)
     clear ho
     go_wp2
     go_ret
     exact ⟨a1, c1, rfl, HO1.out, HB.out⟩
end Go.Proofs.YtbajpnbodhhmjaaGreat

namespace Go.Proofs.YtbajpnbodhhmjaaGreat
open Go.RowKit
open KM
attribute [local go_sem ↓] Go.wp_at_zero Go.wp_at_succ

set_option maxRecDepth 100000 in
set_option maxHeartbeats 1000000 in
theorem drWrite (g len cap : Nat) (a : Option Addr) (w : World) (hc : CurI w g a len cap) :
  Calls Tryz.prog 72 #[.pointer (some ⟨g, 0, none⟩)] w fun e w' => ∃ x : Wt, WtD x ∧ e = .returned (.agg #[.string x.1, .string x.2.1, .bool x.2.2]) ∧ Dn w w' g a len cap := by
 have HC : Hid (CurI w g a len cap) := hc
 have hgl : g < w.heap.size := hc.lt
 have hne : w.heap.size ≠ g := Nat.ne_of_gt hc.lt
 clear hc
 go_enter Tryz.func72, Tryz.ntmps72
 go_wp2_with fail
 refine (drKey g len cap a _ (HC.out.alloc _)).mono ?_
 rintro e w1 ⟨k, hk, rfl, d1⟩
 have D1 : Hid (Dn w w1 g a len cap) := ((Dn.start HC.out).alloc _).step d1
 have B1 : Hid (Bx w1 w.heap.size [.string ⟨#[]⟩, .string ⟨#[]⟩, .bool false]) := (Bx.new w [.string ⟨#[]⟩, .string ⟨#[]⟩, .bool false] 55).keptD d1 hne
 have HK : Hid (KeyD k) := hk
 have s1 : w.heap.size < w1.heap.size := B1.out.lt
 clear d1 hk
 go_wp2_with fail
 refine (drPickN g len cap a valL 4 w1.heap.size 4 rfl (by omega) (by omega) _ (D1.out.c.alloc _) (by omega) (Bx.new w1 (valL.map Value.string) 9)).mono ?_
 rintro e w2 ⟨v, hv, rfl, d2⟩
 have D2 : Hid (Dn w w2 g a len cap) := (D1.out.alloc _).step d2
 have B2 : Hid (Bx w2 w.heap.size [.string ⟨#[]⟩, .string ⟨#[]⟩, .bool false]) := (B1.out.alloc _).keptD d2 hne
 have HV : Hid (v.size ≤ 3) := valL_ok v hv
 have s2 : w.heap.size < w2.heap.size := B2.out.lt
 clear d2 hv
 have X2 : Hid (Bx (w2.alloc (.cells #[.string k, .string v, .bool false] 55)) w2.heap.size [.string k, .string v, .bool false]) := Bx.new w2 _ 55
 go_wp2_with fail
 refine (drOnce g len cap a 5 (by omega) (by omega) _ (D2.out.c.alloc _)).mono ?_
 rintro e w3 ⟨b, rfl, d3⟩
 have D3 : Hid (Dn w w3 g a len cap) := (D2.out.alloc _).step d3
 have B3 : Hid (Bx w3 w.heap.size [.string ⟨#[]⟩, .string ⟨#[]⟩, .bool false]) := (B2.out.alloc _).keptD d3 hne
 have X3 : Hid (Bx w3 w2.heap.size [.string k, .string v, .bool false]) := X2.out.keptD d3 (by omega)
 clear d3 X2 B1 B2
 have c0 := B3.out.c0
 have c1 := B3.out.c1
 have c2 := B3.out.c2
 have fz := B3.out.fz
 have x0 := X3.out.c0
 have x1 := X3.out.c1
 have x2 := X3.out.c2
 have xf := X3.out.fz
 cases b
 ·go_wp2
  have BF := ((B3.out.set 0 (.string k)).set 1 (.string v)).set 2 (.bool false)
  have e0 := BF.c0
  have e1 := BF.c1
  have e2 := BF.c2
  exact bodyPost_ret (v := .agg #[.string k, .string v, .bool false]) (by simp [results, Tryz.results72, go_sem, e0, e1, e2]) rfl ⟨(k, v, false), wtd_no HK.out HV.out, rfl, ((D3.out.set (Nat.le_refl _) _).set (Nat.le_refl _) _).set (Nat.le_refl _) _⟩
 ·have hX : w2.heap.size ≠ w.heap.size := by omega
  go_wp2
  have BF := ((((B3.out.setO (p := ⟨w2.heap.size, 2, none⟩) (by omega) (.bool true)).setO (p := ⟨w2.heap.size, 1, none⟩) (by omega) (.string ⟨#[]⟩)).set 0 (.string k)).set 1 (.string ⟨#[]⟩)).set 2 (.bool true)
  have e0 := BF.c0
  have e1 := BF.c1
  have e2 := BF.c2
  exact bodyPost_ret (v := .agg #[.string k, .string ⟨#[]⟩, .bool true]) (by simp [results, Tryz.results72, go_sem, e0, e1, e2]) rfl ⟨(k, ⟨#[]⟩, true), wtd_gone HK.out, rfl, ((((D3.out.set (p := ⟨w2.heap.size, 2, none⟩) (by show _ ≤ w2.heap.size; omega) _).set (p := ⟨w2.heap.size, 1, none⟩) (by show _ ≤ w2.heap.size; omega) _).set (Nat.le_refl _) _).set (Nat.le_refl _) _).set (Nat.le_refl _) _⟩

set_option maxRecDepth 100000 in
set_option maxHeartbeats 1000000 in
theorem drWrites (g len cap : Nat) (a : Option Addr) (w : World) (hc : CurI w g a len cap) :
  Calls Tryz.prog 50 #[.pointer (some ⟨g, 0, none⟩)] w fun e w' => ∃ (xs : List Wt) (a1 : Option Addr) (c1 : Nat), WsD xs ∧ xs.length ≤ 3 ∧ e = .returned (.slice a1 xs.length c1) ∧ GOwn encW 55 w' w.heap.size (.slice a1 xs.length c1) xs ∧ Dn w w' g a len cap := by
 have HC : Hid (CurI w g a len cap) := hc
 have hgl : g < w.heap.size := hc.lt
 clear hc
 go_enter Tryz.func50, Tryz.ntmps50
 go_wp2
 go_loopw [3, 4] (fun v t wr => ∃ (k : Nat) (xs : List Wt) (a1 : Option Addr) (c1 : Nat), k ≤ 3 ∧ t = .int .i64 k ∧ v = .slice a1 xs.length c1 ∧ xs.length ≤ k ∧ Hid (WsD xs) ∧ Hid (GOwn encW 55 wr w.heap.size (.slice a1 xs.length c1) xs) ∧ Hid (Dn w wr g a len cap)) (fun _ t _ => 4 - (intOf t).toNat)
 case atStart => exact ⟨0, [], _, _, by omega, rfl, rfl, Nat.le_refl _, wsd_nil, GOwn.empty _ _ (Nat.le_refl _), (Dn.start HC.out).alloc _⟩
 case round =>
  obtain ⟨k, xs, a1, c1, hk, rfl, rfl, hxl, HS, HO, HD⟩ := hrel
  go_wp2_with fail
  refine (drBelow g len cap a 4 (by omega) (by omega) _ HD.out.c).mono ?_
  rintro e w1 ⟨n, hn, rfl, d1⟩
  have D1 : Hid (Dn w w1 g a len cap) := HD.out.step d1
  have O1 : Hid (GOwn encW 55 w1 w.heap.size (.slice a1 xs.length c1) xs) := HO.out.keptD d1 hgl
  clear d1
  by_cases hlt : k < n
  ·have hlt' : (k : Int) < (n : Int) := by omega
   go_wp2_with fail
   refine (drWrite g len cap a _ D1.out.c).mono ?_
   rintro e w2 ⟨x, hx, rfl, d2⟩
   have D2 : Hid (Dn w w2 g a len cap) := D1.out.step d2
   have O2 : Hid (GOwn encW 55 w2 w.heap.size (.slice a1 xs.length c1) xs) := O1.out.keptD d2 hgl
   have HX : Hid (WtD x) := hx
   clear d2 hx
   go_wp2_with fail
   refine (sput xs x a1 c1 (by omega) _ O2.out.grow).mono ?_
   rintro e w3 ⟨a2, c2, rfl, ho3, hb3⟩
   have O3 : Hid (GOwn encW 55 w3 w.heap.size (.slice a2 (putS xs x).length c2) (putS xs x)) := ho3.mono D2.out.size
   have D3 : Hid (Dn w w3 g a len cap) := D2.out.below hb3
   have HS2 : Hid (WsD (putS xs x)) := wsd_put HS.out HX.out
   have hl2 : (putS xs x).length ≤ k + 1 := Nat.le_trans (len_put xs x) (by omega)
   clear ho3 hb3
   go_wp2
   go_roundw
   case rel => exact ⟨k + 1, _, a2, c2, by omega, by go_num, rfl, hl2, HS2, O3, D3⟩
   case measure => simp [intOf]; omega
  ·have hlt' : ¬ (k : Int) < (n : Int) := by omega
   go_wp2
   go_ret
   exact ⟨xs, a1, c1, HS.out, by omega, rfl, O1.out, D1.out⟩

end Go.Proofs.YtbajpnbodhhmjaaGreat

namespace Go.Proofs.YtbajpnbodhhmjaaGreat
open Go.RowKit
open KM
attribute [local go_sem ↓] Go.wp_at_zero Go.wp_at_succ

set_option maxRecDepth 100000 in
set_option maxHeartbeats 1000000 in
theorem drRanges (g len cap : Nat) (a : Option Addr) (w : World) (hc : CurI w g a len cap) :
  Calls Tryz.prog 49 #[.pointer (some ⟨g, 0, none⟩)] w fun e w' => ∃ (xs : List Rg) (a1 : Option Addr) (c1 : Nat), RsD xs ∧ xs.length ≤ 3 ∧ e = .returned (.slice a1 xs.length c1) ∧ GOwn encR 35 w' w.heap.size (.slice a1 xs.length c1) xs ∧ Dn w w' g a len cap := by
 have HC : Hid (CurI w g a len cap) := hc
 have hgl : g < w.heap.size := hc.lt
 clear hc
 go_enter Tryz.func49, Tryz.ntmps49
 go_wp2
 go_loopw [3, 4] (fun v t wr => ∃ (k : Nat) (xs : List Rg), k ≤ 3 ∧ t = .int .i64 k ∧ xs.length ≤ k ∧ Hid (RsD xs) ∧ Hid (GOwn encR 35 wr w.heap.size v xs) ∧ Hid (Dn w wr g a len cap)) (fun _ t _ => 4 - (intOf t).toNat)
 case atStart => exact ⟨0, [], by omega, rfl, Nat.le_refl _, fun x hx => by simp at hx, GOwn.empty _ _ (Nat.le_refl _), (Dn.start HC.out).alloc _⟩
 case round =>
  obtain ⟨k, xs, hk, rfl, hxl, HS, HO, HD⟩ := hrel
  go_wp2_with fail
  refine (drBelow g len cap a 4 (by omega) (by omega) _ HD.out.c).mono ?_
  rintro e w1 ⟨n, hn, rfl, d1⟩
  have D1 : Hid (Dn w w1 g a len cap) := HD.out.step d1
  have O1 := hide (HO.out.keptD d1 hgl)
  clear d1
  by_cases hlt : k < n
  ·have hlt' : (k : Int) < (n : Int) := by omega
   go_wp2_with fail
   refine (drRange g len cap a _ D1.out.c).mono ?_
   rintro e w2 ⟨x, hx, rfl, d2⟩
   have D2 : Hid (Dn w w2 g a len cap) := D1.out.step d2
   have O2 := hide (O1.out.keptD d2 hgl)
   have hs2 := D2.out.size
   have HS2 : Hid (RsD (xs ++ [x])) := fun y hy => by
    rcases List.mem_append.1 hy with hy | hy
    ·exact HS.out y hy
    ·rw [List.mem_singleton.1 hy]; exact hx
   clear d2 hx
   go_wp2_with (at_builtin; refine wpAppR rfl _ _ rfl x rfl O2.out rfl (by omega) hs2 ?_)
   intro v' w3 ho3 hb3
   have O3 : Hid (GOwn encR 35 w3 w.heap.size v' (xs ++ [x])) := ho3
   have D3 : Hid (Dn w w3 g a len cap) := D2.out.belowB hb3
   have hl2 : (xs ++ [x]).length ≤ k + 1 := by simp; omega
   clear ho3 hb3
   go_wp2
   go_roundw
   case rel => exact ⟨k + 1, _, by omega, by go_num, hl2, HS2, O3, D3⟩
   case measure => simp [intOf]; omega
  ·have hlt' : ¬ (k : Int) < (n : Int) := by omega
   obtain ⟨a1, c1, rfl, _⟩ := O1.out.row
   go_wp2
   go_ret
   exact ⟨xs, a1, c1, HS.out, by omega, rfl, O1.out, D1.out⟩

end Go.Proofs.YtbajpnbodhhmjaaGreat

namespace Go.Proofs.YtbajpnbodhhmjaaGreat
open Go.RowKit
open KM
attribute [local go_sem ↓] Go.wp_at_zero Go.wp_at_succ

set_option maxHeartbeats 400000 in
theorem big10 (len cap : Nat) (a : Option Addr) (w : World) : Calls Tryz.prog 4 #[.slice a len cap] w fun e w' => e = .returned (.bool (decide ((1048576 : Int) < (len : Int)))) ∧ w' = w := by
 go_enter Tryz.func4, Tryz.ntmps4
 go_wp2
 go_ret
 exact ⟨rfl, rfl⟩

end Go.Proofs.YtbajpnbodhhmjaaGreat

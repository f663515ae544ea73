/- Who is ahead of whom: Ahead, and the questions that are methods; the specification of Beside and Ahead. -/
import Derived.Test.YtmijppfppigjcaaGreatPd10
import Derived.Test.YtmijppfppigjcaaGreatPd01
import Derived.Test.YtmijppfppigjcaaGreatPd07
import Derived.Test.YtmijppfppigjcaaGreatProg
import Derived.WalkKit
import Derived.WalkSpells
import Derived.WalkLawsBesides
import Derived.Deep.QuietTactic
import Derived.BigQuiet
import Derived.Deep.RegionHeld3
import Derived.Deep.DrawnRows
import Derived.Deep.AppendLies
import Derived.Test.YtmijppfppigjcaaGreatPd02
import Derived.Test.YtmijppfppigjcaaGreatPd03
import Derived.Sort.OwnSorted
import Derived.Lib.RowBridge
import Derived.Deep.RegionHeld
import Derived.Test.YtmijppfppigjcaaGreatPd04
import Derived.Shelf.Small.Strs
import Derived.Shelf.Small.Wraps
import Derived.Shelf.LaysM
import Derived.Shelf.Strconv.Clone
import Derived.Test.YtmijppfppigjcaaGreatPd06
import Derived.Lib.SlicesCompact
import Derived.Sort.Walk0
import Derived.Deep.LoopGhost
import Derived.Test.YtmijppfppigjcaaGreatPd08
namespace Go.Proofs.YtmijppfppigjcaaGreat
open Go.RowKit
open KM
attribute [local go_sem ↓] Go.wp_at_zero Go.wp_at_succ

set_option maxRecDepth 100000 in
set_option maxHeartbeats 2000000 in
theorem iahead (a b : Tx) (ra wa : Option Addr) (rc wc : Nat) (ra2 wa2 : Option Addr) (rc2 wc2 : Nat) (hr : a.rs.length ≤ 100000000) (hw : b.ws.length ≤ 100000000) (w : World) (ha : GRow encR w ra a.rs) (hb : GRow encW w wa2 b.ws) :
  Calls Tryz.prog 136 #[.agg #[.int .i64 a.id, .int .i64 a.st, .int .i64 a.snap, .int .i64 a.cs, .slice ra a.rs.length rc, .slice wa a.ws.length wc, .bool a.out, .string a.nm], .agg #[.int .i64 b.id, .int .i64 b.st, .int .i64 b.snap, .int .i64 b.cs, .slice ra2 b.rs.length rc2, .slice wa2 b.ws.length wc2, .bool b.out, .string b.nm]] w fun e w' => e = .returned (.bool (ahB a b)) ∧ Below w.heap.size w w' := by
 have HA : Hid (GRow encR w ra a.rs) := ha
 have HW : Hid (GRow encW w wa2 b.ws) := hb
 clear ha hb
 have HB0 : Hid (Below w.heap.size w ((w.alloc (.cells #[.int .i64 a.id, .int .i64 a.st, .int .i64 a.snap, .int .i64 a.cs, .slice ra a.rs.length rc, .slice wa a.ws.length wc, .bool a.out, .string a.nm] 62)).alloc (.cells #[.int .i64 b.id, .int .i64 b.st, .int .i64 b.snap, .int .i64 b.cs, .slice ra2 b.rs.length rc2, .slice wa2 b.ws.length wc2, .bool b.out, .string b.nm] 62))) := ((belowRefl w).alloc (Nat.le_refl _) _).alloc (by simp) _
 have BA0 : Hid (Bx ((w.alloc (.cells #[.int .i64 a.id, .int .i64 a.st, .int .i64 a.snap, .int .i64 a.cs, .slice ra a.rs.length rc, .slice wa a.ws.length wc, .bool a.out, .string a.nm] 62)).alloc (.cells #[.int .i64 b.id, .int .i64 b.st, .int .i64 b.snap, .int .i64 b.cs, .slice ra2 b.rs.length rc2, .slice wa2 b.ws.length wc2, .bool b.out, .string b.nm] 62)) w.heap.size [.int .i64 a.id, .int .i64 a.st, .int .i64 a.snap, .int .i64 a.cs, .slice ra a.rs.length rc, .slice wa a.ws.length wc, .bool a.out, .string a.nm]) := (Bx.new w [.int .i64 a.id, .int .i64 a.st, .int .i64 a.snap, .int .i64 a.cs, .slice ra a.rs.length rc, .slice wa a.ws.length wc, .bool a.out, .string a.nm] 62).alloc _
 have BB0 : Hid (Bx ((w.alloc (.cells #[.int .i64 a.id, .int .i64 a.st, .int .i64 a.snap, .int .i64 a.cs, .slice ra a.rs.length rc, .slice wa a.ws.length wc, .bool a.out, .string a.nm] 62)).alloc (.cells #[.int .i64 b.id, .int .i64 b.st, .int .i64 b.snap, .int .i64 b.cs, .slice ra2 b.rs.length rc2, .slice wa2 b.ws.length wc2, .bool b.out, .string b.nm] 62)) (w.heap.size + 1) [.int .i64 b.id, .int .i64 b.st, .int .i64 b.snap, .int .i64 b.cs, .slice ra2 b.rs.length rc2, .slice wa2 b.ws.length wc2, .bool b.out, .string b.nm]) := by have h := Bx.new (w.alloc (.cells #[.int .i64 a.id, .int .i64 a.st, .int .i64 a.snap, .int .i64 a.cs, .slice ra a.rs.length rc, .slice wa a.ws.length wc, .bool a.out, .string a.nm] 62)) [.int .i64 b.id, .int .i64 b.st, .int .i64 b.snap, .int .i64 b.cs, .slice ra2 b.rs.length rc2, .slice wa2 b.ws.length wc2, .bool b.out, .string b.nm] 62; simpa [Hid] using h
 have H1 := hide (ibeside a b ra wa rc wc ra2 wa2 rc2 wc2)
 have HT : Hid (∀ w1, Below w.heap.size w w1 → _) := fun w1 h1 => itouch a.rs b.ws ra wa2 rc wc2 hr hw w1 (HA.out.below h1) (HW.out.below h1)
 cases hs : besB a b
 ·have HR : Hid (ahB a b = false) := by show _ = _; simp [ahB, hs]
  rw [hs] at H1
  clear hs
  go_enter Tryz.func136, Tryz.ntmps136
  go_wp2_with fail
  refine (H1.out _).mono ?_
  rintro e w1 ⟨rfl, hb1⟩
  have HB1 : Hid (Below w.heap.size w w1) := HB0.out.trans (hb1.mono HB0.out.size)
  have BA1 : Hid (Bx w1 w.heap.size [.int .i64 a.id, .int .i64 a.st, .int .i64 a.snap, .int .i64 a.cs, .slice ra a.rs.length rc, .slice wa a.ws.length wc, .bool a.out, .string a.nm]) := BA0.out.below hb1
  have BB1 : Hid (Bx w1 (w.heap.size + 1) [.int .i64 b.id, .int .i64 b.st, .int .i64 b.snap, .int .i64 b.cs, .slice ra2 b.rs.length rc2, .slice wa2 b.ws.length wc2, .bool b.out, .string b.nm]) := BB0.out.below hb1
  go_wp2
  go_ret
  exact ⟨ret_bool HR.out.symm, HB1.out⟩
 ·have HR : Hid (ahB a b = touchB a.rs b.ws) := by show _ = _; simp [ahB, hs]
  rw [hs] at H1
  clear hs
  go_enter Tryz.func136, Tryz.ntmps136
  go_wp2_with fail
  refine (H1.out _).mono ?_
  rintro e w1 ⟨rfl, hb1⟩
  have HB1 : Hid (Below w.heap.size w w1) := HB0.out.trans (hb1.mono HB0.out.size)
  have BA1 : Hid (Bx w1 w.heap.size [.int .i64 a.id, .int .i64 a.st, .int .i64 a.snap, .int .i64 a.cs, .slice ra a.rs.length rc, .slice wa a.ws.length wc, .bool a.out, .string a.nm]) := BA0.out.below hb1
  have BB1 : Hid (Bx w1 (w.heap.size + 1) [.int .i64 b.id, .int .i64 b.st, .int .i64 b.snap, .int .i64 b.cs, .slice ra2 b.rs.length rc2, .slice wa2 b.ws.length wc2, .bool b.out, .string b.nm]) := BB0.out.below hb1
  clear hb1
  have x4 := BA1.out.c4
  have y5 := BB1.out.c5
  go_wp2_with fail
  refine (HT.out _ HB1.out).mono ?_
  rintro e w2 ⟨rfl, hb2⟩
  have HB2 : Hid (Below w.heap.size w w2) := HB1.out.trans (hb2.mono HB1.out.size)
  have BA2 : Hid (Bx w2 w.heap.size [.int .i64 a.id, .int .i64 a.st, .int .i64 a.snap, .int .i64 a.cs, .slice ra a.rs.length rc, .slice wa a.ws.length wc, .bool a.out, .string a.nm]) := BA1.out.below hb2
  have BB2 : Hid (Bx w2 (w.heap.size + 1) [.int .i64 b.id, .int .i64 b.st, .int .i64 b.snap, .int .i64 b.cs, .slice ra2 b.rs.length rc2, .slice wa2 b.ws.length wc2, .bool b.out, .string b.nm]) := BB1.out.below hb2
  go_wp2
  go_ret
  exact ⟨ret_bool HR.out.symm, HB2.out⟩

set_option maxRecDepth 100000 in
set_option maxHeartbeats 2000000 in
theorem sbeside (a b : Tx) (ra wa : Option Addr) (rc wc : Nat) (ra2 wa2 : Option Addr) (rc2 wc2 : Nat) (w : World) :
  Calls Tryz.prog 81 #[.agg #[.int .i64 a.id, .int .i64 a.st, .int .i64 a.snap, .int .i64 a.cs, .slice ra a.rs.length rc, .slice wa a.ws.length wc, .bool a.out, .string a.nm], .agg #[.int .i64 b.id, .int .i64 b.st, .int .i64 b.snap, .int .i64 b.cs, .slice ra2 b.rs.length rc2, .slice wa2 b.ws.length wc2, .bool b.out, .string b.nm]] w fun e w' => e = .returned (.bool (besB a b)) ∧ Below w.heap.size w w' := by
 by_cases h1 : a.id = b.id
 ·skip
  have HR : Hid (besB a b = false) := by show _ = _; simp [besB, seesB, h1]
  go_enter Tryz.func81, Tryz.ntmps81
  go_wp2
  go_ret
  exact ⟨ret_bool HR.out.symm, ((belowRefl w).alloc (Nat.le_refl _) _).alloc (by simp) _⟩
 ·by_cases g1 : a.st = 3
  ·by_cases g2 : a.cs ≤ b.snap
   ·skip
    have HR : Hid (besB a b = false) := by show _ = _; simp [besB, seesB, h1, g1, g2]
    go_enter Tryz.func81, Tryz.ntmps81
    go_wp2
    go_ret
    exact ⟨ret_bool HR.out.symm, ((belowRefl w).alloc (Nat.le_refl _) _).alloc (by simp) _⟩
   ·by_cases k1 : b.st = 3
    ·by_cases k2 : b.cs ≤ a.snap
     ·skip
      have HR : Hid (besB a b = false) := by show _ = _; simp [besB, seesB, h1, g1, g2, k1, k2]
      go_enter Tryz.func81, Tryz.ntmps81
      go_wp2
      go_ret
      exact ⟨ret_bool HR.out.symm, ((belowRefl w).alloc (Nat.le_refl _) _).alloc (by simp) _⟩
     ·skip
      have HR : Hid (besB a b = true) := by show _ = _; simp [besB, seesB, h1, g1, g2, k1, k2]
      go_enter Tryz.func81, Tryz.ntmps81
      go_wp2
      go_ret
      exact ⟨ret_bool HR.out.symm, ((belowRefl w).alloc (Nat.le_refl _) _).alloc (by simp) _⟩
    ·skip
     have HR : Hid (besB a b = true) := by show _ = _; simp [besB, seesB, h1, g1, g2, k1]
     go_enter Tryz.func81, Tryz.ntmps81
     go_wp2
     go_ret
     exact ⟨ret_bool HR.out.symm, ((belowRefl w).alloc (Nat.le_refl _) _).alloc (by simp) _⟩
  ·by_cases k1 : b.st = 3
   ·by_cases k2 : b.cs ≤ a.snap
    ·skip
     have HR : Hid (besB a b = false) := by show _ = _; simp [besB, seesB, h1, g1, k1, k2]
     go_enter Tryz.func81, Tryz.ntmps81
     go_wp2
     go_ret
     exact ⟨ret_bool HR.out.symm, ((belowRefl w).alloc (Nat.le_refl _) _).alloc (by simp) _⟩
    ·skip
     have HR : Hid (besB a b = true) := by show _ = _; simp [besB, seesB, h1, g1, k1, k2]
     go_enter Tryz.func81, Tryz.ntmps81
     go_wp2
     go_ret
     exact ⟨ret_bool HR.out.symm, ((belowRefl w).alloc (Nat.le_refl _) _).alloc (by simp) _⟩
   ·skip
    have HR : Hid (besB a b = true) := by show _ = _; simp [besB, seesB, h1, g1, k1]
    go_enter Tryz.func81, Tryz.ntmps81
    go_wp2
    go_ret
    exact ⟨ret_bool HR.out.symm, ((belowRefl w).alloc (Nat.le_refl _) _).alloc (by simp) _⟩

set_option maxRecDepth 100000 in
set_option maxHeartbeats 2000000 in
theorem sahead (a b : Tx) (ra wa : Option Addr) (rc wc : Nat) (ra2 wa2 : Option Addr) (rc2 wc2 : Nat) (hr : a.rs.length ≤ 100000000) (hw : b.ws.length ≤ 100000000) (w : World) (ha : GRow encR w ra a.rs) (hb : GRow encW w wa2 b.ws) :
  Calls Tryz.prog 54 #[.agg #[.int .i64 a.id, .int .i64 a.st, .int .i64 a.snap, .int .i64 a.cs, .slice ra a.rs.length rc, .slice wa a.ws.length wc, .bool a.out, .string a.nm], .agg #[.int .i64 b.id, .int .i64 b.st, .int .i64 b.snap, .int .i64 b.cs, .slice ra2 b.rs.length rc2, .slice wa2 b.ws.length wc2, .bool b.out, .string b.nm]] w fun e w' => e = .returned (.bool (ahB a b)) ∧ Below w.heap.size w w' := by
 have HA : Hid (GRow encR w ra a.rs) := ha
 have HW : Hid (GRow encW w wa2 b.ws) := hb
 clear ha hb
 have HB0 : Hid (Below w.heap.size w ((w.alloc (.cells #[.int .i64 a.id, .int .i64 a.st, .int .i64 a.snap, .int .i64 a.cs, .slice ra a.rs.length rc, .slice wa a.ws.length wc, .bool a.out, .string a.nm] 62)).alloc (.cells #[.int .i64 b.id, .int .i64 b.st, .int .i64 b.snap, .int .i64 b.cs, .slice ra2 b.rs.length rc2, .slice wa2 b.ws.length wc2, .bool b.out, .string b.nm] 62))) := ((belowRefl w).alloc (Nat.le_refl _) _).alloc (by simp) _
 have BA0 : Hid (Bx ((w.alloc (.cells #[.int .i64 a.id, .int .i64 a.st, .int .i64 a.snap, .int .i64 a.cs, .slice ra a.rs.length rc, .slice wa a.ws.length wc, .bool a.out, .string a.nm] 62)).alloc (.cells #[.int .i64 b.id, .int .i64 b.st, .int .i64 b.snap, .int .i64 b.cs, .slice ra2 b.rs.length rc2, .slice wa2 b.ws.length wc2, .bool b.out, .string b.nm] 62)) w.heap.size [.int .i64 a.id, .int .i64 a.st, .int .i64 a.snap, .int .i64 a.cs, .slice ra a.rs.length rc, .slice wa a.ws.length wc, .bool a.out, .string a.nm]) := (Bx.new w [.int .i64 a.id, .int .i64 a.st, .int .i64 a.snap, .int .i64 a.cs, .slice ra a.rs.length rc, .slice wa a.ws.length wc, .bool a.out, .string a.nm] 62).alloc _
 have BB0 : Hid (Bx ((w.alloc (.cells #[.int .i64 a.id, .int .i64 a.st, .int .i64 a.snap, .int .i64 a.cs, .slice ra a.rs.length rc, .slice wa a.ws.length wc, .bool a.out, .string a.nm] 62)).alloc (.cells #[.int .i64 b.id, .int .i64 b.st, .int .i64 b.snap, .int .i64 b.cs, .slice ra2 b.rs.length rc2, .slice wa2 b.ws.length wc2, .bool b.out, .string b.nm] 62)) (w.heap.size + 1) [.int .i64 b.id, .int .i64 b.st, .int .i64 b.snap, .int .i64 b.cs, .slice ra2 b.rs.length rc2, .slice wa2 b.ws.length wc2, .bool b.out, .string b.nm]) := by have h := Bx.new (w.alloc (.cells #[.int .i64 a.id, .int .i64 a.st, .int .i64 a.snap, .int .i64 a.cs, .slice ra a.rs.length rc, .slice wa a.ws.length wc, .bool a.out, .string a.nm] 62)) [.int .i64 b.id, .int .i64 b.st, .int .i64 b.snap, .int .i64 b.cs, .slice ra2 b.rs.length rc2, .slice wa2 b.ws.length wc2, .bool b.out, .string b.nm] 62; simpa [Hid] using h
 have H1 := hide (sbeside a b ra wa rc wc ra2 wa2 rc2 wc2)
 have HT : Hid (∀ w1, Below w.heap.size w w1 → _) := fun w1 h1 => stouch a.rs b.ws ra wa2 rc wc2 hr hw w1 (HA.out.below h1) (HW.out.below h1)
 cases hs : besB a b
 ·have HR : Hid (ahB a b = false) := by show _ = _; simp [ahB, hs]
  rw [hs] at H1
  clear hs
  go_enter Tryz.func54, Tryz.ntmps54
  go_wp2_with fail
  refine (H1.out _).mono ?_
  rintro e w1 ⟨rfl, hb1⟩
  have HB1 : Hid (Below w.heap.size w w1) := HB0.out.trans (hb1.mono HB0.out.size)
  have BA1 : Hid (Bx w1 w.heap.size [.int .i64 a.id, .int .i64 a.st, .int .i64 a.snap, .int .i64 a.cs, .slice ra a.rs.length rc, .slice wa a.ws.length wc, .bool a.out, .string a.nm]) := BA0.out.below hb1
  have BB1 : Hid (Bx w1 (w.heap.size + 1) [.int .i64 b.id, .int .i64 b.st, .int .i64 b.snap, .int .i64 b.cs, .slice ra2 b.rs.length rc2, .slice wa2 b.ws.length wc2, .bool b.out, .string b.nm]) := BB0.out.below hb1
  go_wp2
  go_ret
  exact ⟨ret_bool HR.out.symm, HB1.out⟩
 ·have HR : Hid (ahB a b = touchB a.rs b.ws) := by show _ = _; simp [ahB, hs]
  rw [hs] at H1
  clear hs
  go_enter Tryz.func54, Tryz.ntmps54
  go_wp2_with fail
  refine (H1.out _).mono ?_
  rintro e w1 ⟨rfl, hb1⟩
  have HB1 : Hid (Below w.heap.size w w1) := HB0.out.trans (hb1.mono HB0.out.size)
  have BA1 : Hid (Bx w1 w.heap.size [.int .i64 a.id, .int .i64 a.st, .int .i64 a.snap, .int .i64 a.cs, .slice ra a.rs.length rc, .slice wa a.ws.length wc, .bool a.out, .string a.nm]) := BA0.out.below hb1
  have BB1 : Hid (Bx w1 (w.heap.size + 1) [.int .i64 b.id, .int .i64 b.st, .int .i64 b.snap, .int .i64 b.cs, .slice ra2 b.rs.length rc2, .slice wa2 b.ws.length wc2, .bool b.out, .string b.nm]) := BB0.out.below hb1
  clear hb1
  have x4 := BA1.out.c4
  have y5 := BB1.out.c5
  go_wp2_with fail
  refine (HT.out _ HB1.out).mono ?_
  rintro e w2 ⟨rfl, hb2⟩
  have HB2 : Hid (Below w.heap.size w w2) := HB1.out.trans (hb2.mono HB1.out.size)
  have BA2 : Hid (Bx w2 w.heap.size [.int .i64 a.id, .int .i64 a.st, .int .i64 a.snap, .int .i64 a.cs, .slice ra a.rs.length rc, .slice wa a.ws.length wc, .bool a.out, .string a.nm]) := BA1.out.below hb2
  have BB2 : Hid (Bx w2 (w.heap.size + 1) [.int .i64 b.id, .int .i64 b.st, .int .i64 b.snap, .int .i64 b.cs, .slice ra2 b.rs.length rc2, .slice wa2 b.ws.length wc2, .bool b.out, .string b.nm]) := BB1.out.below hb2
  go_wp2
  go_ret
  exact ⟨ret_bool HR.out.symm, HB2.out⟩

end Go.Proofs.YtmijppfppigjcaaGreat

namespace Go.Proofs.YtmijppfppigjcaaGreat
open Go.RowKit
open KM
open VM
attribute [local go_sem ↓] Go.wp_at_zero Go.wp_at_succ

theorem cnt_snoc_yes {k : ByteArray} {A : List Nd} {n : Nd} (h : (n.2.1.toList == k.toList) = true) : cntN k (A ++ [n]) = cntN k A + 1 := by
 rw [beq_text] at h
 rw [cnt_app]
 unfold cntN
 simp [h]
theorem cnt_snoc_no {k : ByteArray} {A : List Nd} {n : Nd} (h : (n.2.1.toList == k.toList) = false) : cntN k (A ++ [n]) = cntN k A := by
 rw [beq_text] at h
 rw [cnt_app]
 unfold cntN
 simp [h]
theorem cnt_le (k : ByteArray) (A : List Nd) : cntN k A ≤ A.length := List.length_filter_le _ _

set_option maxRecDepth 100000 in
set_option maxHeartbeats 4000000 in
theorem vers47 (base c : Nat) (r : Nd) (ns : List Nd) (hn : ns.length ≤ 100000000) (hf : ∀ n ∈ ns, n.2.1.size ≤ 281474976710656 ∧ n.2.2.1.size ≤ 281474976710656) (w : World) (hc : Chn w base c (r :: ns)) :
  Calls Tryz.prog 89 #[.pointer (some ⟨c, 0, none⟩)] w fun e w' => ∃ a1 c1, e = .returned (.slice a1 (ns.map (·.2)).length c1) ∧ GOwn encV 150 w' w.heap.size (.slice a1 (ns.map (·.2)).length c1) (ns.map (·.2)) ∧ Below w.heap.size w w' := by
 have HF : Hid (∀ n ∈ ns, n.2.1.size ≤ 281474976710656 ∧ n.2.2.1.size ≤ 281474976710656) := hf
 clear hf
 have HC : Hid (Chn w base c (r :: ns)) := hc
 have b0 := hc.bx.c0
 have r4 := (Chn.at' (A := []) hc).c4
 simp only [ptq_cons] at b0
 clear hc
 obtain ⟨u0, hu0⟩ : ∃ u, u = ptq ns none := ⟨_, rfl⟩
 rw [← hu0] at r4
 have HU : Hid (u0 = ptq ns none) := hu0
 clear hu0
 go_enter Tryz.func89, Tryz.ntmps89
 go_wp2
 clear b0 r4
 go_loopg [3, 4] ns.length (fun g v t wr => ∃ A B : List Nd, Hid (ns = A ++ B) ∧ Hid (B.length = g) ∧ t = .pointer (ptq B none) ∧ Hid (GOwn encV 150 wr w.heap.size v (A.map (·.2))) ∧ Hid (Below w.heap.size w wr))
 case atStart => exact ⟨[], ns, rfl, rfl, by rw [HU.out], GOwn.nil _ _, belowRefl w⟩
 case round =>
  obtain ⟨A, B, HE, HG, h8, HO, HB⟩ := hrel
  cases B with
  | nil =>
   rw [ptq_nil] at h8
   have ho := HO.out
   rw [show A = ns by rw [HE.out, List.append_nil]] at ho
   obtain ⟨a1, c1, rfl, _⟩ := ho.row
   have HO1 := hide ho
   clear ho HO
   subst h8
   go_wp2
   go_ret
   exact ⟨a1, c1, rfl, HO1.out, HB.out⟩
  | cons n B =>
   rw [ptq_cons] at h8
   have hx := seg_at (HC.out.below HB.out) HE.out
   have n0 := hx.c0
   have n1 := hx.c1
   have n2 := hx.c2
   have n3 := hx.c3
   have HX : Hid (Bx wr n.1 (ndc n.2 (ptq B none))) := hx
   clear hx
   have HLt : Hid (n.1 < w.heap.size) := HC.out.lt n.1 (by rw [HE.out]; simp)
   obtain ⟨q, hq⟩ : ∃ q, q = ptq B none := ⟨_, rfl⟩
   rw [← hq] at HX
   have HQ : Hid (Value.pointer q = .pointer (ptq B none)) := by show _ = _; rw [hq]
   clear hq
   have HE2 : Hid (ns = (A ++ [n]) ++ B) := by show _ = _; rw [HE.out]; simp
   have HG2 : Hid (B.length < gk) := by show _ < _; rw [← HG.out]; simp
   have hl : (A.map (·.2)).length ≤ 100000000 := by
    rw [List.length_map]
    have h := congrArg List.length HE.out
    rw [List.length_append] at h
    omega
   have HZ : Hid (n.2.1.size ≤ 281474976710656 ∧ n.2.2.1.size ≤ 281474976710656) := HF.out n (by rw [HE.out]; simp)
   have HOb : Hid (∀ g, u3.ownBlock = some g → g < wr.heap.size) := fun g hg => (World.ownsRow.lt HO.out g hg).2
   have D1 : Hid (∀ w, Calls Tryz.prog 41 #[.string n.2.1] w fun e w' => e = .returned (.string n.2.1) ∧ Below w.heap.size w w') := fun w => clone49 _ HZ.out.1 w
   have D2 : Hid (∀ w, Calls Tryz.prog 41 #[.string n.2.2.1] w fun e w' => e = .returned (.string n.2.2.1) ∧ Below w.heap.size w w') := fun w => clone49 _ HZ.out.2 w
   have Y0 : Hid (Bx (wr.alloc (.cells #[.string n.2.1, .string n.2.2.1, .bool n.2.2.2.1, .int .i64 n.2.2.2.2] 150)) wr.heap.size [.string n.2.1, .string n.2.2.1, .bool n.2.2.2.1, .int .i64 n.2.2.2.2]) := Bx.new wr [.string n.2.1, .string n.2.2.1, .bool n.2.2.2.1, .int .i64 n.2.2.2.2] 150
   have O0 := hide (HO.out.alloc (.cells #[.string n.2.1, .string n.2.2.1, .bool n.2.2.2.1, .int .i64 n.2.2.2.2] 150))
   have B0 : Hid (Below w.heap.size w (wr.alloc (.cells #[.string n.2.1, .string n.2.2.1, .bool n.2.2.2.1, .int .i64 n.2.2.2.2] 150))) := HB.out.alloc HB.out.size _
   subst h8
   go_wp2
   clear n0 n1 n2 n3
   generalize (wr.alloc (.cells #[.string n.2.1, .string n.2.2.1, .bool n.2.2.2.1, .int .i64 n.2.2.2.2] 150)) = V0 at *
   refine wp_region_held_drew (S := fun w' => w'.cell? ⟨wr.heap.size, 0, none⟩ = some (.string n.2.1) ∧ w'.cell? ⟨wr.heap.size, 1, none⟩ = some (.string n.2.2.1) ∧ w'.cell? ⟨wr.heap.size, 2, none⟩ = some (.bool n.2.2.2.1) ∧ w'.cell? ⟨wr.heap.size, 3, none⟩ = some (.int .i64 n.2.2.2.2)) (by kernel_rfl) ⟨Y0.out.c0, Y0.out.c1, Y0.out.c2, Y0.out.c3⟩ (fun hHeld => ?_)
   (refine ti 0 ?_; simp only [Act.put, tA, tB, tD, tE, tF])
   (refine ti 1 ?_; simp only [Act.put, tA, tB, tC, tD, tE, tF])
   (refine ti 2 ?_; simp only [Act.put, tA, tB, tC, tD, tE, tF])
   (refine ti 4 ?_; simp only [Act.put, tA, tB, tC, tD, tE, tF])
   (refine ti 5 ?_; simp only [Act.put, tA, tB, tC, tD, tE, tF])
   (refine ti 7 ?_; simp only [Act.put, tA, tB, tC, tD, tE, tF])
   (refine ti 8 ?_; simp only [Act.put, tA, tB, tC, tD, tE, tF])
   (refine ti 9 ?_; simp only [Act.put, tA, tB, tC, tD, tE, tF])
   (refine ti 10 ?_; simp only [Act.put, tA, tB, tC, tD, tE, tF])
   refine wpAnyH_ready (rs := [3]) (by kernel_rfl) (by simp) ?_
   refine AllReadyH.cons rfl (fun K hK => ?_) AllReadyH.nil
   go_simp
   go_wp2_with fail
   refine (D1.out _).mono ?_
   rintro e w1 ⟨rfl, hb1⟩
   have Y1 : Hid (Bx w1 wr.heap.size [.string n.2.1, .string n.2.2.1, .bool n.2.2.2.1, .int .i64 n.2.2.2.2]) := Y0.out.below (undrew hb1)
   have O1 := hide (O0.out.below (undrew hb1))
   have B1 : Hid (Below w.heap.size w w1) := B0.out.trans (((undrew hb1)).mono B0.out.size)
   clear hb1
   go_wp2_with fail
   refine hK.out _ _ ⟨Y1.out.c0, Y1.out.c1, Y1.out.c2, Y1.out.c3⟩ (fun hHeld1 => ?_)
   clear hK K
   refine wpAnyH_ready (rs := [6]) (by kernel_rfl) (by simp) ?_
   refine AllReadyH.cons rfl (fun K hK => ?_) AllReadyH.nil
   go_simp
   go_wp2_with fail
   refine (D2.out _).mono ?_
   rintro e w2 ⟨rfl, hb2⟩
   have Y2 : Hid (Bx w2 wr.heap.size [.string n.2.1, .string n.2.2.1, .bool n.2.2.2.1, .int .i64 n.2.2.2.2]) := Y1.out.below hb2
   have O2 := hide (O1.out.below hb2)
   have B2 : Hid (Below w.heap.size w w2) := B1.out.trans ((hb2).mono B1.out.size)
   clear hb2
   go_wp2_with fail
   refine hK.out _ _ ⟨Y2.out.c0, Y2.out.c1, Y2.out.c2, Y2.out.c3⟩ (fun hHeld2 => ?_)
   clear hK K
   (refine ti 11 ?_; simp only [Act.put, tA, tB, tC, tD, tE, tF])
   refine wpAnyH_ready (rs := [12]) (by kernel_rfl) (by simp) ?_
   refine AllReadyH.cons rfl (fun K hK => ?_) AllReadyH.nil
   go_simp
   have Y3 : Hid (Bx (w2.alloc (.cells #[.string n.2.1, .string n.2.2.1, .bool n.2.2.2.1, .int .i64 n.2.2.2.2] 150)) wr.heap.size [.string n.2.1, .string n.2.2.1, .bool n.2.2.2.1, .int .i64 n.2.2.2.2]) := Y2.out.alloc _
   go_wp2_with fail
   refine hK.out _ _ ⟨Y3.out.c0, Y3.out.c1, Y3.out.c2, Y3.out.c3⟩ (fun hHeld3 => ?_)
   clear hK K
   refine wpAnyH_ready (rs := [13]) (by kernel_rfl) (by simp) ?_
   refine AllReadyH.cons rfl (fun K hK => ?_) AllReadyH.nil
   refine stepAppKV (by rfl) _ _ (by rfl) n.2 (by rfl) (O2.out.alloc _) (by rfl) (heapAllocNew w2 [.string n.2.1, .string n.2.2.1, .bool n.2.2.2.1, .int .i64 n.2.2.2.2] 150) hl (Nat.le_trans B2.out.size (by rw [World.size_alloc]; omega)) ?_
   intro v4 w4 ho4 hb4 hg4
   have O4 : Hid (GOwn encV 150 w4 w.heap.size v4 ((A ++ [n]).map (·.2))) := by
    show GOwn _ _ _ _ _ _
    rw [List.map_append]; exact ho4
   have B4 : Hid (Below w.heap.size w w4) := (B2.out.alloc B2.out.size _).trans hb4
   have Y4 : Hid (Bx w4 wr.heap.size [.string n.2.1, .string n.2.2.1, .bool n.2.2.2.1, .int .i64 n.2.2.2.2]) := bx_marked Y3.out hg4 (fun e => by have := HOb.out _ e; omega)
   clear ho4 hb4 hg4
   go_wp2_with fail
   refine hK.out _ _ ⟨Y4.out.c0, Y4.out.c1, Y4.out.c2, Y4.out.c3⟩ (fun hHeld4 => ?_)
   clear hK K
   (refine ti 14 ?_; simp only [Act.put, tA, tB, tC, tD, tE, tF])
   refine wpAnyH_done (by kernel_rfl) ?_ _
   have n4 : w4.cell? ⟨n.1, 4, none⟩ = some (.pointer q) := (B4.out.cell (p := ⟨n.1, 4, none⟩) HLt.out).trans ((HB.out.cell (p := ⟨n.1, 4, none⟩) HLt.out).symm.trans HX.out.c4)
   go_wp2
   go_roundg B.length
   case measure => exact HG2.out
   case rel => exact ⟨A ++ [n], B, HE2, rfl, HQ.out, O4, B4⟩
end Go.Proofs.YtmijppfppigjcaaGreat

namespace Go.Proofs.YtmijppfppigjcaaGreat
open Go.RowKit
open KM
open VM
attribute [local go_sem ↓] Go.wp_at_zero Go.wp_at_succ

set_option maxRecDepth 100000 in
set_option maxHeartbeats 2000000 in
theorem count61 (k : ByteArray) (base c : Nat) (r : Nd) (ns : List Nd) (hn : ns.length ≤ 100000000) (w : World) (hc : Chn w base c (r :: ns)) :
  Calls Tryz.prog 111 #[.pointer (some ⟨c, 0, none⟩), .string k] w fun e w' => e = .returned (.int .i64 ((cntN k ns : Nat) : Int)) ∧ Below w.heap.size w w' := by
 have HC : Hid (Chn w base c (r :: ns)) := hc
 have b0 := hc.bx.c0
 have r4 := (Chn.at' (A := []) hc).c4
 simp only [ptq_cons] at b0
 clear hc
 obtain ⟨u0, hu0⟩ : ∃ u, u = ptq ns none := ⟨_, rfl⟩
 rw [← hu0] at r4
 have HU : Hid (u0 = ptq ns none) := hu0
 clear hu0
 go_enter Tryz.func111, Tryz.ntmps111
 go_wp2
 clear b0 r4
 go_loopg [5, 6] ns.length (fun g t5 t8 wr => ∃ A B : List Nd, Hid (ns = A ++ B) ∧ Hid (B.length = g) ∧ t5 = .int .i64 ((cntN k A : Nat) : Int) ∧ t8 = .pointer (ptq B none) ∧ Hid (Below w.heap.size w wr))
 case atStart => exact ⟨[], ns, rfl, rfl, rfl, by rw [HU.out], belowRefl w⟩
 case round =>
  obtain ⟨A, B, HE, HG, h5, h8, HB⟩ := hrel
  obtain ⟨q, hq⟩ : ∃ q, q = cntN k A := ⟨_, rfl⟩
  have HQ : Hid (q = cntN k A) := hq
  rw [← hq] at h5
  have hql : q ≤ 100000000 := by
   rw [hq]
   refine Nat.le_trans (cnt_le k A) ?_
   have h := congrArg List.length HE.out
   rw [List.length_append] at h
   omega
  clear hq
  cases B with
  | nil =>
   rw [ptq_nil] at h8
   have HO : Hid ((q : Int) = ((cntN k ns : Nat) : Int)) := by show _ = _; rw [HQ.out, HE.out, List.append_nil]
   subst h5 h8
   go_wp2
   go_ret
   exact ⟨ret_int HO.out, HB.out⟩
  | cons n B =>
   rw [ptq_cons] at h8
   have hx := seg_at (HC.out.below HB.out) HE.out
   have n0 := hx.c0
   have n4 := hx.c4
   clear hx
   obtain ⟨u, hu⟩ : ∃ u, u = ptq B none := ⟨_, rfl⟩
   rw [← hu] at n4
   have HQ2 : Hid (Value.pointer u = .pointer (ptq B none)) := by show _ = _; rw [hu]
   clear hu
   have HE2 : Hid (ns = (A ++ [n]) ++ B) := by show _ = _; rw [HE.out]; simp
   have HG2 : Hid (B.length < gk) := by show _ < _; rw [← HG.out]; simp
   subst h5 h8
   cases hk : (n.2.1.toList == k.toList)
   ·have HS : Hid ((q : Int) = ((cntN k (A ++ [n]) : Nat) : Int)) := by show _ = _; rw [cnt_snoc_no hk, HQ.out]
    go_wp2
    go_roundg B.length
    case measure => exact HG2.out
    case rel => exact ⟨A ++ [n], B, HE2, rfl, by rw [HS.out], HQ2.out, HB⟩
   ·have HS : Hid ((q : Int) + 1 = ((cntN k (A ++ [n]) : Nat) : Int)) := by show _ = _; rw [cnt_snoc_yes hk, HQ.out]; omega
    go_wp2
    go_roundg B.length
    case measure => exact HG2.out
    case rel => exact ⟨A ++ [n], B, HE2, rfl, by rw [HS.out], HQ2.out, HB⟩

end Go.Proofs.YtmijppfppigjcaaGreat

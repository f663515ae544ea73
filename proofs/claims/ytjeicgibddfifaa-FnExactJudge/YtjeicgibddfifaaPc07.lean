/- Who is ahead of whom: Ahead, and the questions that are methods; the specification of Beside and Ahead. -/
import Derived.Test.YtjeicgibddfifaaPc06
import Derived.Deep.RegionHeld3
namespace Go.Proofs.Ytjeicgibddfifaa
open Go.RowKit
open KM
attribute [local go_sem ↓] Go.wp_at_zero Go.wp_at_succ

set_option maxRecDepth 100000 in
set_option maxHeartbeats 2000000 in
theorem iahead (a b : Tx) (ra wa : Option Addr) (rc wc : Nat) (ra2 wa2 : Option Addr) (rc2 wc2 : Nat) (hr : a.rs.length ≤ 100000000) (hw : b.ws.length ≤ 100000000) (w : World) (ha : GRow encR w ra a.rs) (hb : GRow encW w wa2 b.ws) :
  Calls Try.prog 92 #[.agg #[.int .i64 a.id, .int .i64 a.st, .int .i64 a.snap, .int .i64 a.cs, .slice ra a.rs.length rc, .slice wa a.ws.length wc, .bool a.out, .string a.nm], .agg #[.int .i64 b.id, .int .i64 b.st, .int .i64 b.snap, .int .i64 b.cs, .slice ra2 b.rs.length rc2, .slice wa2 b.ws.length wc2, .bool b.out, .string b.nm]] w fun e w' => e = .returned (.bool (ahB a b)) ∧ Below w.heap.size w w' := by
 have HA : Hid (GRow encR w ra a.rs) := ha
 have HW : Hid (GRow encW w wa2 b.ws) := hb
 clear ha hb
 have HB0 : Hid (Below w.heap.size w ((w.alloc (.cells #[.int .i64 a.id, .int .i64 a.st, .int .i64 a.snap, .int .i64 a.cs, .slice ra a.rs.length rc, .slice wa a.ws.length wc, .bool a.out, .string a.nm] 51)).alloc (.cells #[.int .i64 b.id, .int .i64 b.st, .int .i64 b.snap, .int .i64 b.cs, .slice ra2 b.rs.length rc2, .slice wa2 b.ws.length wc2, .bool b.out, .string b.nm] 51))) := ((belowRefl w).alloc (Nat.le_refl _) _).alloc (by simp) _
 have BA0 : Hid (Bx ((w.alloc (.cells #[.int .i64 a.id, .int .i64 a.st, .int .i64 a.snap, .int .i64 a.cs, .slice ra a.rs.length rc, .slice wa a.ws.length wc, .bool a.out, .string a.nm] 51)).alloc (.cells #[.int .i64 b.id, .int .i64 b.st, .int .i64 b.snap, .int .i64 b.cs, .slice ra2 b.rs.length rc2, .slice wa2 b.ws.length wc2, .bool b.out, .string b.nm] 51)) w.heap.size [.int .i64 a.id, .int .i64 a.st, .int .i64 a.snap, .int .i64 a.cs, .slice ra a.rs.length rc, .slice wa a.ws.length wc, .bool a.out, .string a.nm]) := (Bx.new w [.int .i64 a.id, .int .i64 a.st, .int .i64 a.snap, .int .i64 a.cs, .slice ra a.rs.length rc, .slice wa a.ws.length wc, .bool a.out, .string a.nm] 51).alloc _
 have BB0 : Hid (Bx ((w.alloc (.cells #[.int .i64 a.id, .int .i64 a.st, .int .i64 a.snap, .int .i64 a.cs, .slice ra a.rs.length rc, .slice wa a.ws.length wc, .bool a.out, .string a.nm] 51)).alloc (.cells #[.int .i64 b.id, .int .i64 b.st, .int .i64 b.snap, .int .i64 b.cs, .slice ra2 b.rs.length rc2, .slice wa2 b.ws.length wc2, .bool b.out, .string b.nm] 51)) (w.heap.size + 1) [.int .i64 b.id, .int .i64 b.st, .int .i64 b.snap, .int .i64 b.cs, .slice ra2 b.rs.length rc2, .slice wa2 b.ws.length wc2, .bool b.out, .string b.nm]) := by have h := Bx.new (w.alloc (.cells #[.int .i64 a.id, .int .i64 a.st, .int .i64 a.snap, .int .i64 a.cs, .slice ra a.rs.length rc, .slice wa a.ws.length wc, .bool a.out, .string a.nm] 51)) [.int .i64 b.id, .int .i64 b.st, .int .i64 b.snap, .int .i64 b.cs, .slice ra2 b.rs.length rc2, .slice wa2 b.ws.length wc2, .bool b.out, .string b.nm] 51; simpa [Hid] using h
 have H1 := hide (ibeside a b ra wa rc wc ra2 wa2 rc2 wc2)
 have HT : Hid (∀ w1, Below w.heap.size w w1 → _) := fun w1 h1 => itouch a.rs b.ws ra wa2 rc wc2 hr hw w1 (HA.out.below h1) (HW.out.below h1)
 cases hs : besB a b
 ·have HR : Hid (ahB a b = false) := by show _ = _; simp [ahB, hs]
  rw [hs] at H1
  clear hs
  go_enter Try.func92, Try.ntmps92
  go_wp2_with fail
  refine (H1.out _).mono ?_
  rintro e w1 ⟨rfl, hb1⟩
  have HB1 : Hid (Below w.heap.size w w1) := HB0.out.trans (hb1.mono HB0.out.size)
  have BA1 : Hid (Bx w1 w.heap.size [.int .i64 a.id, .int .i64 a.st, .int .i64 a.snap, .int .i64 a.cs, .slice ra a.rs.length rc, .slice wa a.ws.length wc, .bool a.out, .string a.nm]) := BA0.out.below hb1
  have BB1 : Hid (Bx w1 (w.heap.size + 1) [.int .i64 b.id, .int .i64 b.st, .int .i64 b.snap, .int .i64 b.cs, .slice ra2 b.rs.length rc2, .slice wa2 b.ws.length wc2, .bool b.out, .string b.nm]) := BB0.out.below hb1
  go_wp2
  go_ret
  exact ⟨ret_bool HR.out.symm, HB1.out⟩
 ·have HR : Hid (ahB a b = touchB a.rs b.ws) := by show _ = _; simp [ahB, hs]
  rw [hs] at H1
  clear hs
  go_enter Try.func92, Try.ntmps92
  go_wp2_with fail
  refine (H1.out _).mono ?_
  rintro e w1 ⟨rfl, hb1⟩
  have HB1 : Hid (Below w.heap.size w w1) := HB0.out.trans (hb1.mono HB0.out.size)
  have BA1 : Hid (Bx w1 w.heap.size [.int .i64 a.id, .int .i64 a.st, .int .i64 a.snap, .int .i64 a.cs, .slice ra a.rs.length rc, .slice wa a.ws.length wc, .bool a.out, .string a.nm]) := BA0.out.below hb1
  have BB1 : Hid (Bx w1 (w.heap.size + 1) [.int .i64 b.id, .int .i64 b.st, .int .i64 b.snap, .int .i64 b.cs, .slice ra2 b.rs.length rc2, .slice wa2 b.ws.length wc2, .bool b.out, .string b.nm]) := BB0.out.below hb1
  clear hb1
  have x4 := BA1.out.c4
  have y5 := BB1.out.c5
  go_wp2_with fail
  refine (HT.out _ HB1.out).mono ?_
  rintro e w2 ⟨rfl, hb2⟩
  have HB2 : Hid (Below w.heap.size w w2) := HB1.out.trans (hb2.mono HB1.out.size)
  have BA2 : Hid (Bx w2 w.heap.size [.int .i64 a.id, .int .i64 a.st, .int .i64 a.snap, .int .i64 a.cs, .slice ra a.rs.length rc, .slice wa a.ws.length wc, .bool a.out, .string a.nm]) := BA1.out.below hb2
  have BB2 : Hid (Bx w2 (w.heap.size + 1) [.int .i64 b.id, .int .i64 b.st, .int .i64 b.snap, .int .i64 b.cs, .slice ra2 b.rs.length rc2, .slice wa2 b.ws.length wc2, .bool b.out, .string b.nm]) := BB1.out.below hb2
  go_wp2
  go_ret
  exact ⟨ret_bool HR.out.symm, HB2.out⟩

set_option maxRecDepth 100000 in
set_option maxHeartbeats 2000000 in
theorem sbeside (a b : Tx) (ra wa : Option Addr) (rc wc : Nat) (ra2 wa2 : Option Addr) (rc2 wc2 : Nat) (w : World) :
  Calls Try.prog 69 #[.agg #[.int .i64 a.id, .int .i64 a.st, .int .i64 a.snap, .int .i64 a.cs, .slice ra a.rs.length rc, .slice wa a.ws.length wc, .bool a.out, .string a.nm], .agg #[.int .i64 b.id, .int .i64 b.st, .int .i64 b.snap, .int .i64 b.cs, .slice ra2 b.rs.length rc2, .slice wa2 b.ws.length wc2, .bool b.out, .string b.nm]] w fun e w' => e = .returned (.bool (besB a b)) ∧ Below w.heap.size w w' := by
 by_cases h1 : a.id = b.id
 ·skip
  have HR : Hid (besB a b = false) := by show _ = _; simp [besB, seesB, h1]
  go_enter Try.func69, Try.ntmps69
  go_wp2
  go_ret
  exact ⟨ret_bool HR.out.symm, ((belowRefl w).alloc (Nat.le_refl _) _).alloc (by simp) _⟩
 ·by_cases g1 : a.st = 3
  ·by_cases g2 : a.cs ≤ b.snap
   ·skip
    have HR : Hid (besB a b = false) := by show _ = _; simp [besB, seesB, h1, g1, g2]
    go_enter Try.func69, Try.ntmps69
    go_wp2
    go_ret
    exact ⟨ret_bool HR.out.symm, ((belowRefl w).alloc (Nat.le_refl _) _).alloc (by simp) _⟩
   ·by_cases k1 : b.st = 3
    ·by_cases k2 : b.cs ≤ a.snap
     ·skip
      have HR : Hid (besB a b = false) := by show _ = _; simp [besB, seesB, h1, g1, g2, k1, k2]
      go_enter Try.func69, Try.ntmps69
      go_wp2
      go_ret
      exact ⟨ret_bool HR.out.symm, ((belowRefl w).alloc (Nat.le_refl _) _).alloc (by simp) _⟩
     ·skip
      have HR : Hid (besB a b = true) := by show _ = _; simp [besB, seesB, h1, g1, g2, k1, k2]
      go_enter Try.func69, Try.ntmps69
      go_wp2
      go_ret
      exact ⟨ret_bool HR.out.symm, ((belowRefl w).alloc (Nat.le_refl _) _).alloc (by simp) _⟩
    ·skip
     have HR : Hid (besB a b = true) := by show _ = _; simp [besB, seesB, h1, g1, g2, k1]
     go_enter Try.func69, Try.ntmps69
     go_wp2
     go_ret
     exact ⟨ret_bool HR.out.symm, ((belowRefl w).alloc (Nat.le_refl _) _).alloc (by simp) _⟩
  ·by_cases k1 : b.st = 3
   ·by_cases k2 : b.cs ≤ a.snap
    ·skip
     have HR : Hid (besB a b = false) := by show _ = _; simp [besB, seesB, h1, g1, k1, k2]
     go_enter Try.func69, Try.ntmps69
     go_wp2
     go_ret
     exact ⟨ret_bool HR.out.symm, ((belowRefl w).alloc (Nat.le_refl _) _).alloc (by simp) _⟩
    ·skip
     have HR : Hid (besB a b = true) := by show _ = _; simp [besB, seesB, h1, g1, k1, k2]
     go_enter Try.func69, Try.ntmps69
     go_wp2
     go_ret
     exact ⟨ret_bool HR.out.symm, ((belowRefl w).alloc (Nat.le_refl _) _).alloc (by simp) _⟩
   ·skip
    have HR : Hid (besB a b = true) := by show _ = _; simp [besB, seesB, h1, g1, k1]
    go_enter Try.func69, Try.ntmps69
    go_wp2
    go_ret
    exact ⟨ret_bool HR.out.symm, ((belowRefl w).alloc (Nat.le_refl _) _).alloc (by simp) _⟩

set_option maxRecDepth 100000 in
set_option maxHeartbeats 2000000 in
theorem sahead (a b : Tx) (ra wa : Option Addr) (rc wc : Nat) (ra2 wa2 : Option Addr) (rc2 wc2 : Nat) (hr : a.rs.length ≤ 100000000) (hw : b.ws.length ≤ 100000000) (w : World) (ha : GRow encR w ra a.rs) (hb : GRow encW w wa2 b.ws) :
  Calls Try.prog 55 #[.agg #[.int .i64 a.id, .int .i64 a.st, .int .i64 a.snap, .int .i64 a.cs, .slice ra a.rs.length rc, .slice wa a.ws.length wc, .bool a.out, .string a.nm], .agg #[.int .i64 b.id, .int .i64 b.st, .int .i64 b.snap, .int .i64 b.cs, .slice ra2 b.rs.length rc2, .slice wa2 b.ws.length wc2, .bool b.out, .string b.nm]] w fun e w' => e = .returned (.bool (ahB a b)) ∧ Below w.heap.size w w' := by
 have HA : Hid (GRow encR w ra a.rs) := ha
 have HW : Hid (GRow encW w wa2 b.ws) := hb
 clear ha hb
 have HB0 : Hid (Below w.heap.size w ((w.alloc (.cells #[.int .i64 a.id, .int .i64 a.st, .int .i64 a.snap, .int .i64 a.cs, .slice ra a.rs.length rc, .slice wa a.ws.length wc, .bool a.out, .string a.nm] 51)).alloc (.cells #[.int .i64 b.id, .int .i64 b.st, .int .i64 b.snap, .int .i64 b.cs, .slice ra2 b.rs.length rc2, .slice wa2 b.ws.length wc2, .bool b.out, .string b.nm] 51))) := ((belowRefl w).alloc (Nat.le_refl _) _).alloc (by simp) _
 have BA0 : Hid (Bx ((w.alloc (.cells #[.int .i64 a.id, .int .i64 a.st, .int .i64 a.snap, .int .i64 a.cs, .slice ra a.rs.length rc, .slice wa a.ws.length wc, .bool a.out, .string a.nm] 51)).alloc (.cells #[.int .i64 b.id, .int .i64 b.st, .int .i64 b.snap, .int .i64 b.cs, .slice ra2 b.rs.length rc2, .slice wa2 b.ws.length wc2, .bool b.out, .string b.nm] 51)) w.heap.size [.int .i64 a.id, .int .i64 a.st, .int .i64 a.snap, .int .i64 a.cs, .slice ra a.rs.length rc, .slice wa a.ws.length wc, .bool a.out, .string a.nm]) := (Bx.new w [.int .i64 a.id, .int .i64 a.st, .int .i64 a.snap, .int .i64 a.cs, .slice ra a.rs.length rc, .slice wa a.ws.length wc, .bool a.out, .string a.nm] 51).alloc _
 have BB0 : Hid (Bx ((w.alloc (.cells #[.int .i64 a.id, .int .i64 a.st, .int .i64 a.snap, .int .i64 a.cs, .slice ra a.rs.length rc, .slice wa a.ws.length wc, .bool a.out, .string a.nm] 51)).alloc (.cells #[.int .i64 b.id, .int .i64 b.st, .int .i64 b.snap, .int .i64 b.cs, .slice ra2 b.rs.length rc2, .slice wa2 b.ws.length wc2, .bool b.out, .string b.nm] 51)) (w.heap.size + 1) [.int .i64 b.id, .int .i64 b.st, .int .i64 b.snap, .int .i64 b.cs, .slice ra2 b.rs.length rc2, .slice wa2 b.ws.length wc2, .bool b.out, .string b.nm]) := by have h := Bx.new (w.alloc (.cells #[.int .i64 a.id, .int .i64 a.st, .int .i64 a.snap, .int .i64 a.cs, .slice ra a.rs.length rc, .slice wa a.ws.length wc, .bool a.out, .string a.nm] 51)) [.int .i64 b.id, .int .i64 b.st, .int .i64 b.snap, .int .i64 b.cs, .slice ra2 b.rs.length rc2, .slice wa2 b.ws.length wc2, .bool b.out, .string b.nm] 51; simpa [Hid] using h
 have H1 := hide (sbeside a b ra wa rc wc ra2 wa2 rc2 wc2)
 have HT : Hid (∀ w1, Below w.heap.size w w1 → _) := fun w1 h1 => stouch a.rs b.ws ra wa2 rc wc2 hr hw w1 (HA.out.below h1) (HW.out.below h1)
 cases hs : besB a b
 ·have HR : Hid (ahB a b = false) := by show _ = _; simp [ahB, hs]
  rw [hs] at H1
  clear hs
  go_enter Try.func55, Try.ntmps55
  go_wp2_with fail
  refine (H1.out _).mono ?_
  rintro e w1 ⟨rfl, hb1⟩
  have HB1 : Hid (Below w.heap.size w w1) := HB0.out.trans (hb1.mono HB0.out.size)
  have BA1 : Hid (Bx w1 w.heap.size [.int .i64 a.id, .int .i64 a.st, .int .i64 a.snap, .int .i64 a.cs, .slice ra a.rs.length rc, .slice wa a.ws.length wc, .bool a.out, .string a.nm]) := BA0.out.below hb1
  have BB1 : Hid (Bx w1 (w.heap.size + 1) [.int .i64 b.id, .int .i64 b.st, .int .i64 b.snap, .int .i64 b.cs, .slice ra2 b.rs.length rc2, .slice wa2 b.ws.length wc2, .bool b.out, .string b.nm]) := BB0.out.below hb1
  go_wp2
  go_ret
  exact ⟨ret_bool HR.out.symm, HB1.out⟩
 ·have HR : Hid (ahB a b = touchB a.rs b.ws) := by show _ = _; simp [ahB, hs]
  rw [hs] at H1
  clear hs
  go_enter Try.func55, Try.ntmps55
  go_wp2_with fail
  refine (H1.out _).mono ?_
  rintro e w1 ⟨rfl, hb1⟩
  have HB1 : Hid (Below w.heap.size w w1) := HB0.out.trans (hb1.mono HB0.out.size)
  have BA1 : Hid (Bx w1 w.heap.size [.int .i64 a.id, .int .i64 a.st, .int .i64 a.snap, .int .i64 a.cs, .slice ra a.rs.length rc, .slice wa a.ws.length wc, .bool a.out, .string a.nm]) := BA0.out.below hb1
  have BB1 : Hid (Bx w1 (w.heap.size + 1) [.int .i64 b.id, .int .i64 b.st, .int .i64 b.snap, .int .i64 b.cs, .slice ra2 b.rs.length rc2, .slice wa2 b.ws.length wc2, .bool b.out, .string b.nm]) := BB0.out.below hb1
  clear hb1
  have x4 := BA1.out.c4
  have y5 := BB1.out.c5
  go_wp2_with fail
  refine (HT.out _ HB1.out).mono ?_
  rintro e w2 ⟨rfl, hb2⟩
  have HB2 : Hid (Below w.heap.size w w2) := HB1.out.trans (hb2.mono HB1.out.size)
  have BA2 : Hid (Bx w2 w.heap.size [.int .i64 a.id, .int .i64 a.st, .int .i64 a.snap, .int .i64 a.cs, .slice ra a.rs.length rc, .slice wa a.ws.length wc, .bool a.out, .string a.nm]) := BA1.out.below hb2
  have BB2 : Hid (Bx w2 (w.heap.size + 1) [.int .i64 b.id, .int .i64 b.st, .int .i64 b.snap, .int .i64 b.cs, .slice ra2 b.rs.length rc2, .slice wa2 b.ws.length wc2, .bool b.out, .string b.nm]) := BB1.out.below hb2
  go_wp2
  go_ret
  exact ⟨ret_bool HR.out.symm, HB2.out⟩

end Go.Proofs.Ytjeicgibddfifaa

namespace Go.Proofs.Ytjeicgibddfifaa
open Go.RowKit
open KM
attribute [local go_sem ↓] Go.wp_at_zero Go.wp_at_succ

theorem TRow.drewT {w : World} {t : Tx} {ra wa : Option Addr} (h : TRow w t ra wa) : TRow w.drew t ra wa := ⟨h.r.drew, h.w.drew⟩
theorem undrew {w w' : World} (h : Below w.drew.heap.size w.drew w') : Below w.heap.size w w' := (belowRefl w).drew.trans h

end Go.Proofs.Ytjeicgibddfifaa

namespace Go.Proofs.Ytjeicgibddfifaa
open Go.RowKit
open KM
attribute [local go_sem ↓] Go.wp_at_zero Go.wp_at_succ

structure Ta where
 t : Tx
 ra : Option Addr
 rc : Nat
 wa : Option Addr
 wc : Nat
def someTa : Ta := ⟨⟨0, 0, 0, 0, [], [], false, ByteArray.empty⟩, none, 0, none, 0⟩
def encT : Enc Ta := ⟨fun x => [.int .i64 x.t.id, .int .i64 x.t.st, .int .i64 x.t.snap, .int .i64 x.t.cs, .slice x.ra x.t.rs.length x.rc, .slice x.wa x.t.ws.length x.wc, .bool x.t.out, .string x.t.nm], 8, by decide, fun _ => rfl⟩
theorem Try.info51 : (Try.prog.info? 51).map (fun i => (i.zero, i.size, i.bytes)) = some (some (.agg #[.int .i64 0, .int .i64 0, .int .i64 0, .int .i64 0, .slice none 0 0, .slice none 0 0, .bool false, .string ByteArray.empty]), 8, 104) := by kernel_rfl
structure Cls (w : World) (b o : Nat) (x : Ta) : Prop where
 c0 : w.cell? ⟨b, o, none⟩ = some (.int .i64 x.t.id)
 c1 : w.cell? ⟨b, o + 1, none⟩ = some (.int .i64 x.t.st)
 c2 : w.cell? ⟨b, o + 2, none⟩ = some (.int .i64 x.t.snap)
 c3 : w.cell? ⟨b, o + 3, none⟩ = some (.int .i64 x.t.cs)
 c4 : w.cell? ⟨b, o + 4, none⟩ = some (.slice x.ra x.t.rs.length x.rc)
 c5 : w.cell? ⟨b, o + 5, none⟩ = some (.slice x.wa x.t.ws.length x.wc)
 c6 : w.cell? ⟨b, o + 6, none⟩ = some (.bool x.t.out)
 c7 : w.cell? ⟨b, o + 7, none⟩ = some (.string x.t.nm)
theorem tat {w : World} {b off : Nat} {xs : List Ta} (hc : ∀ j (hj : j < xs.length) i, i < encT.size → w.cell? ⟨b, off + j * encT.size + i, none⟩ = (encT.enc xs[j])[i]?) (j : Nat) (hj : j < xs.length) : Cls w b (off + j * 8) xs[j] :=
 ⟨by simpa [encT] using hc j hj 0 (by decide), by simpa [encT] using hc j hj 1 (by decide), by simpa [encT] using hc j hj 2 (by decide), by simpa [encT] using hc j hj 3 (by decide), by simpa [encT] using hc j hj 4 (by decide), by simpa [encT] using hc j hj 5 (by decide), by simpa [encT] using hc j hj 6 (by decide), by simpa [encT] using hc j hj 7 (by decide)⟩
structure TRows (w : World) (a : Option Addr) (xs : List Ta) : Prop where
 row : GRow encT w a xs
 each : ∀ x ∈ xs, TRow w x.t x.ra x.wa
theorem TRows.below {w w' : World} {a : Option Addr} {xs : List Ta} (h : TRows w a xs) (hb : Below w.heap.size w w') : TRows w' a xs := ⟨h.row.below hb, fun x hx => (h.each x hx).below hb⟩
theorem TRows.drewS {w : World} {a : Option Addr} {xs : List Ta} (h : TRows w a xs) : TRows w.drew a xs := ⟨h.row.drew, fun x hx => (h.each x hx).drewT⟩
theorem TRows.cls {w : World} {a : Option Addr} {xs : List Ta} (h : TRows w a xs) (k : Nat) (hk : k < xs.length) : ∃ b off, a = some ⟨b, off, none⟩ ∧ b < w.heap.size ∧ Cls w b (off + k * 8) xs[k] ∧ TRow w xs[k].t xs[k].ra xs[k].wa := by
 obtain ⟨b, off, rfl, hbl, hc⟩ := h.row (by omega)
 exact ⟨b, off, rfl, hbl, tat hc k hk, h.each _ (List.getElem_mem hk)⟩
structure LArg (w : World) (a : Option Addr) (xs : List Ta) : Prop where
 len : xs.length ≤ maxLen
 each : ∀ x ∈ xs, TArg w x.t x.ra x.wa
 row : GRow encT w a xs
theorem LArg.rows {w : World} {a : Option Addr} {xs : List Ta} (h : LArg w a xs) : TRows w a xs := ⟨h.row, fun x hx => (h.each x hx).row⟩
theorem TArg.below {w w' : World} {t : Tx} {ra wa : Option Addr} (h : TArg w t ra wa) (hb : Below w.heap.size w w') : TArg w' t ra wa := ⟨h.rl, h.rf, h.wl, h.wf, h.nm, h.row.below hb⟩
theorem LArg.below {w w' : World} {a : Option Addr} {xs : List Ta} (h : LArg w a xs) (hb : Below w.heap.size w w') : LArg w' a xs := ⟨h.len, fun x hx => (h.each x hx).below hb, h.row.below hb⟩
def LFit (ts : List Tx) : Prop := ts.length ≤ 1048576 ∧ ∀ t ∈ ts, TFit t
def LFw (ts : List Tx) : Prop := True ∧ ∀ t ∈ ts, TFit t
theorem LFit.w {ts : List Tx} (h : LFit ts) : LFw ts := ⟨trivial, h.2⟩
def txs (xs : List Ta) : List Tx := xs.map (·.t)
theorem txs_len (xs : List Ta) : (txs xs).length = xs.length := by simp [txs]

set_option maxRecDepth 100000 in
set_option maxHeartbeats 2000000 in
theorem szL (xs : List Ta) (a : Option Addr) (c : Nat) (L : Int) (h0 : 0 ≤ L) (h1 : L ≤ 1048576) (w : World) (hp : LArg w a xs) :
  Calls Try.prog 26 #[.slice a xs.length c, .int .i64 L] w fun e w' => Below w.heap.size w w' ∧ ∃ r : Int, e = .returned (.int .i64 r) ∧ r ≤ 1048576 ∧ (0 ≤ r → LFit (txs xs)) := by
 have HP : Hid (LArg w a xs) := hp
 have hn := hp.len
 clear hp
 unfold maxLen at hn
 by_cases hneg : L - (xs.length : Int) < 0
 ·go_enter Try.func26, Try.ntmps26
  go_wp2
  go_ret
  exact ⟨belowRefl w, -1, rfl, by omega, fun h => by omega⟩
 ·have hneg' : decide (L - (xs.length : Int) < 0) = false := by simpa using hneg
  go_enter Try.func26, Try.ntmps26
  go_wp2
  go_loopw [1, 5] (fun tl t wr => ∃ (k : Nat) (l : Int), k ≤ xs.length ∧ t = .int .i64 k ∧ tl = .int .i64 l ∧ 0 ≤ l ∧ l ≤ 1048576 ∧ Hid (∀ j (hj : j < xs.length), j < k → TFit xs[j].t) ∧ Hid (Below w.heap.size w wr)) (fun _ t _ => xs.length - (intOf t).toNat)
  case atStart => exact ⟨0, L - (xs.length : Int), Nat.zero_le _, rfl, rfl, by omega, by omega, fun j hj h => by omega, belowRefl w⟩
  case round =>
   obtain ⟨k, l, hk, rfl, rfl, hl0, hl1, HA, HB⟩ := hrel
   by_cases hlt : k < xs.length
   ·have hlt' : (k : Int) < (xs.length : Int) := by omega
    have hk0 : (0 : Int) ≤ (k : Int) := by omega
    have HR0 := hide (HP.out.below HB.out)
    obtain ⟨b, off, rfl, hbl, hc, -⟩ := HR0.out.rows.cls k hlt
    obtain ⟨x, hx⟩ : ∃ x, x = xs[k] := ⟨_, rfl⟩
    rw [← hx] at hc
    have HX : Hid (x = xs[k]) := hx
    have HT : Hid (TArg wr x.t x.ra x.wa) := by rw [hx]; exact HR0.out.each _ (List.getElem_mem hlt)
    clear hx
    have r0 := hc.c0
    have r1 := hc.c1
    have r2 := hc.c2
    have r3 := hc.c3
    have r4 := hc.c4
    have r5 := hc.c5
    have r6 := hc.c6
    have r7 := hc.c7
    clear hc
    go_wp2_with fail
    refine (szT x.t x.ra x.wa x.rc x.wc l hl0 hl1 _ HT.out).mono ?_
    rintro e w2 ⟨hb2, r, rfl, hr1, hr⟩
    have HB2 : Hid (Below w.heap.size w w2) := HB.out.trans (hb2.mono HB.out.size)
    have HF : Hid (0 ≤ r → TFit x.t) := hr
    clear hb2 hr r0 r1 r2 r3 r4 r5 r6 r7
    by_cases hn2 : r < 0
    ·go_wp2
     go_ret
     exact ⟨HB2.out, -1, rfl, by omega, fun h => by omega⟩
    ·have hn3 : ¬ r < 0 := hn2
     have HA2 : Hid (∀ j (hj : j < xs.length), j < k + 1 → TFit xs[j].t) := fun j hj h => by
      by_cases e : j = k
      ·subst e; rw [← HX.out]; exact HF.out (by omega)
      ·exact HA.out j hj (by omega)
     have hr0 : 0 ≤ r := by omega
     clear hn2
     go_wp2
     go_roundw
     case rel => exact ⟨k + 1, r, by omega, by go_num, rfl, hr0, hr1, HA2, HB2⟩
     case measure => simp [intOf]; omega
   ·have hlt' : ¬ (k : Int) < (xs.length : Int) := by omega
    have HA2 : Hid (LFit (txs xs)) := ⟨by rw [txs_len]; omega, fun s hs => by
     obtain ⟨y, hy, rfl⟩ := List.mem_map.1 hs
     obtain ⟨j, hj, rfl⟩ := List.getElem_of_mem hy
     exact HA.out j hj (by omega)⟩
    go_wp2
    go_ret
    exact ⟨HB.out, l, rfl, hl1, fun _ => HA2.out⟩

end Go.Proofs.Ytjeicgibddfifaa

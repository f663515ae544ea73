/- Sizes, and how many writes there are in all. -/
import Derived.Test.YtjieojfcmigcdaaGreatDoorPw16
import Derived.Test.YtjieojfcmigcdaaGreatDoorPw07
import Derived.Test.YtjieojfcmigcdaaGreatDoorPw06
namespace Go.Proofs.YtjieojfcmigcdaaGreatDoor
open Go.RowKit
open KM
attribute [local go_sem ↓] Go.wp_at_zero Go.wp_at_succ

def wsum (ts : List Tx) : Nat := (ts.map fun t => t.ws.length).sum
theorem wsum_next (ts : List Tx) (k : Nat) (hk : k < ts.length) : wsum (ts.take (k + 1)) = wsum (ts.take k) + (ts[k]).ws.length := by
 unfold wsum
 rw [List.take_succ_eq_append_getElem hk, List.map_append, List.sum_append]
 simp
set_option maxRecDepth 100000 in
set_option maxHeartbeats 1000000 in
theorem szSW2 (xs : List Wt) (a : Option Addr) (c : Nat) (hn : xs.length ≤ maxLen) (hl : ∀ x ∈ xs, x.1.size ≤ maxLen ∧ x.2.1.size ≤ maxLen) (L : Int) (h0 : 0 ≤ L) (h1 : L ≤ 1048576) (w : World) (hp : GRow encW w a xs) :
  Calls Tryz.prog 73 #[.slice a xs.length c, .int .i64 L] w fun e w' => Below w.heap.size w w' ∧ ∃ r : Int, e = .returned (.int .i64 r) ∧ r ≤ 1048576 ∧ (0 ≤ r → r + (xs.length : Int) ≤ L ∧ xs.length ≤ 1048576 ∧ WFit xs) := by
 have HP : Hid (GRow encW w a xs) := hp
 have HL : Hid (∀ x ∈ xs, x.1.size ≤ maxLen ∧ x.2.1.size ≤ maxLen) := hl
 clear hp hl
 unfold maxLen at hn
 by_cases hneg : L - (xs.length : Int) < 0
 ·go_enter Tryz.func73, Tryz.ntmps73
  go_wp2
  go_ret
  exact ⟨belowRefl w, -1, rfl, by omega, fun h => by omega⟩
 ·have hneg' : decide (L - (xs.length : Int) < 0) = false := by simpa using hneg
  go_enter Tryz.func73, Tryz.ntmps73
  go_wp2
  go_loopw [1, 5] (fun tl t wr => ∃ (k : Nat) (l : Int), k ≤ xs.length ∧ t = .int .i64 k ∧ tl = .int .i64 l ∧ 0 ≤ l ∧ l ≤ 1048576 ∧ l + (xs.length : Int) ≤ L ∧ Hid (∀ j (hj : j < xs.length), j < k → xs[j].1.size ≤ 1048576 ∧ xs[j].2.1.size ≤ 1048576) ∧ Hid (Below w.heap.size w wr)) (fun _ t _ => xs.length - (intOf t).toNat)
  case atStart => exact ⟨0, L - (xs.length : Int), Nat.zero_le _, rfl, rfl, by omega, by omega, by omega, fun j hj h => by omega, belowRefl w⟩
  case round =>
   obtain ⟨k, l, hk, rfl, rfl, hl0, hl1, hl2, HA, HB⟩ := hrel
   by_cases hlt : k < xs.length
   ·have hlt' : (k : Int) < (xs.length : Int) := by omega
    have hk0 : (0 : Int) ≤ (k : Int) := by omega
    obtain ⟨b, off, rfl, hbl, hc⟩ := (HP.out.below HB.out) (by omega)
    have r0 := ((wat hc) k hlt).1
    have r1 := ((wat hc) k hlt).2.1
    have r2 := ((wat hc) k hlt).2.2
    have HZ : Hid (xs[k].1.size ≤ maxLen ∧ xs[k].2.1.size ≤ maxLen) := HL.out _ (List.getElem_mem hlt)
    clear hc
    go_wp2_with fail
    refine (szw xs[k].1 xs[k].2.1 xs[k].2.2 l hl0 hl1 HZ.out.1 HZ.out.2 _).mono ?_
    rintro e w2 ⟨r, rfl, hr, hb2⟩
    have HB2 : Hid (Below w.heap.size w w2) := HB.out.trans (hb2.mono HB.out.size)
    clear hb2 r0 r1 r2
    by_cases hn2 : r < 0
    ·clear hr
     go_wp2
     go_ret
     exact ⟨HB2.out, -1, rfl, by omega, fun h => by omega⟩
    ·have hn3 : ¬ r < 0 := hn2
     have HR : Hid (0 ≤ r ∧ r ≤ l ∧ (xs[k].1.size : Int) + xs[k].2.1.size + r = l) := by
      rcases hr with hr | hr
      ·exact absurd hr hn2
      ·exact hr
     have HA2 : Hid (∀ j (hj : j < xs.length), j < k + 1 → xs[j].1.size ≤ 1048576 ∧ xs[j].2.1.size ≤ 1048576) := fun j hj h => by
      by_cases e : j = k
      ·subst e; have := HR.out; omega
      ·exact HA.out j hj (by omega)
     have hr0 : 0 ≤ r := HR.out.1
     have hr2 : r + (xs.length : Int) ≤ L := by have := HR.out.2.1; omega
     have hr1 : r ≤ 1048576 := Int.le_trans HR.out.2.1 hl1
     clear hn2 hr
     go_wp2
     go_roundw
     case rel => exact ⟨k + 1, r, by omega, by go_num, rfl, hr0, hr1, hr2, HA2, HB2⟩
     case measure => simp [intOf]; omega
   ·have hlt' : ¬ (k : Int) < (xs.length : Int) := by omega
    have HA2 : Hid (∀ x ∈ xs, x.1.size ≤ 1048576 ∧ x.2.1.size ≤ 1048576) := fun s hs => by
     obtain ⟨j, hj, rfl⟩ := List.getElem_of_mem hs
     exact HA.out j hj (by omega)
    go_wp2
    go_ret
    exact ⟨HB.out, l, rfl, hl1, fun _ => ⟨hl2, by omega, HA2.out⟩⟩

set_option maxRecDepth 100000 in
set_option maxHeartbeats 1000000 in
theorem szSR2 (xs : List Rg) (a : Option Addr) (c : Nat) (hn : xs.length ≤ maxLen) (hl : ∀ x ∈ xs, x.1.size ≤ maxLen ∧ x.2.size ≤ maxLen) (L : Int) (h0 : 0 ≤ L) (h1 : L ≤ 1048576) (w : World) (hp : GRow encR w a xs) :
  Calls Tryz.prog 72 #[.slice a xs.length c, .int .i64 L] w fun e w' => Below w.heap.size w w' ∧ ∃ r : Int, e = .returned (.int .i64 r) ∧ r ≤ 1048576 ∧ (0 ≤ r → r + (xs.length : Int) ≤ L ∧ xs.length ≤ 1048576 ∧ RFit xs) := by
 have HP : Hid (GRow encR w a xs) := hp
 have HL : Hid (∀ x ∈ xs, x.1.size ≤ maxLen ∧ x.2.size ≤ maxLen) := hl
 clear hp hl
 unfold maxLen at hn
 by_cases hneg : L - (xs.length : Int) < 0
 ·go_enter Tryz.func72, Tryz.ntmps72
  go_wp2
  go_ret
  exact ⟨belowRefl w, -1, rfl, by omega, fun h => by omega⟩
 ·have hneg' : decide (L - (xs.length : Int) < 0) = false := by simpa using hneg
  go_enter Tryz.func72, Tryz.ntmps72
  go_wp2
  go_loopw [1, 5] (fun tl t wr => ∃ (k : Nat) (l : Int), k ≤ xs.length ∧ t = .int .i64 k ∧ tl = .int .i64 l ∧ 0 ≤ l ∧ l ≤ 1048576 ∧ l + (xs.length : Int) ≤ L ∧ Hid (∀ j (hj : j < xs.length), j < k → xs[j].1.size ≤ 1048576 ∧ xs[j].2.size ≤ 1048576) ∧ Hid (Below w.heap.size w wr)) (fun _ t _ => xs.length - (intOf t).toNat)
  case atStart => exact ⟨0, L - (xs.length : Int), Nat.zero_le _, rfl, rfl, by omega, by omega, by omega, fun j hj h => by omega, belowRefl w⟩
  case round =>
   obtain ⟨k, l, hk, rfl, rfl, hl0, hl1, hl2, HA, HB⟩ := hrel
   by_cases hlt : k < xs.length
   ·have hlt' : (k : Int) < (xs.length : Int) := by omega
    have hk0 : (0 : Int) ≤ (k : Int) := by omega
    obtain ⟨b, off, rfl, hbl, hc⟩ := (HP.out.below HB.out) (by omega)
    have r0 := ((rat hc) k hlt).1
    have r1 := ((rat hc) k hlt).2
    have HZ : Hid (xs[k].1.size ≤ maxLen ∧ xs[k].2.size ≤ maxLen) := HL.out _ (List.getElem_mem hlt)
    clear hc
    go_wp2_with fail
    refine (szr xs[k].1 xs[k].2 l hl0 hl1 HZ.out.1 HZ.out.2 _).mono ?_
    rintro e w2 ⟨r, rfl, hr, hb2⟩
    have HB2 : Hid (Below w.heap.size w w2) := HB.out.trans (hb2.mono HB.out.size)
    clear hb2 r0 r1
    by_cases hn2 : r < 0
    ·clear hr
     go_wp2
     go_ret
     exact ⟨HB2.out, -1, rfl, by omega, fun h => by omega⟩
    ·have hn3 : ¬ r < 0 := hn2
     have HR : Hid (0 ≤ r ∧ r ≤ l ∧ (xs[k].1.size : Int) + xs[k].2.size + r = l) := by
      rcases hr with hr | hr
      ·exact absurd hr hn2
      ·exact hr
     have HA2 : Hid (∀ j (hj : j < xs.length), j < k + 1 → xs[j].1.size ≤ 1048576 ∧ xs[j].2.size ≤ 1048576) := fun j hj h => by
      by_cases e : j = k
      ·subst e; have := HR.out; omega
      ·exact HA.out j hj (by omega)
     have hr0 : 0 ≤ r := HR.out.1
     have hr2 : r + (xs.length : Int) ≤ L := by have := HR.out.2.1; omega
     have hr1 : r ≤ 1048576 := Int.le_trans HR.out.2.1 hl1
     clear hn2 hr
     go_wp2
     go_roundw
     case rel => exact ⟨k + 1, r, by omega, by go_num, rfl, hr0, hr1, hr2, HA2, HB2⟩
     case measure => simp [intOf]; omega
   ·have hlt' : ¬ (k : Int) < (xs.length : Int) := by omega
    have HA2 : Hid (∀ x ∈ xs, x.1.size ≤ 1048576 ∧ x.2.size ≤ 1048576) := fun s hs => by
     obtain ⟨j, hj, rfl⟩ := List.getElem_of_mem hs
     exact HA.out j hj (by omega)
    go_wp2
    go_ret
    exact ⟨HB.out, l, rfl, hl1, fun _ => ⟨hl2, by omega, HA2.out⟩⟩

set_option maxRecDepth 100000 in
set_option maxHeartbeats 2000000 in
theorem szT2 (t : Tx) (ra wa : Option Addr) (rc wc : Nat) (L : Int) (h0 : 0 ≤ L) (h1 : L ≤ 1048576) (w : World) (hp : TArg w t ra wa) :
  Calls Tryz.prog 54 #[.agg #[.int .i64 t.id, .int .i64 t.st, .int .i64 t.snap, .int .i64 t.cs, .slice ra t.rs.length rc, .slice wa t.ws.length wc, .bool t.out, .string t.nm], .int .i64 L] w fun e w' => Below w.heap.size w w' ∧ ∃ r : Int, e = .returned (.int .i64 r) ∧ r ≤ 1048576 ∧ (0 ≤ r → r + (t.ws.length : Int) ≤ L ∧ TFit t) := by
 have HP : Hid (TArg w t ra wa) := hp
 have hnm := hp.nm
 unfold maxLen at hnm
 clear hp
 have BX0 : Hid (Bx (w.alloc (.cells #[.int .i64 t.id, .int .i64 t.st, .int .i64 t.snap, .int .i64 t.cs, .slice ra t.rs.length rc, .slice wa t.ws.length wc, .bool t.out, .string t.nm] 112)) w.heap.size [.int .i64 t.id, .int .i64 t.st, .int .i64 t.snap, .int .i64 t.cs, .slice ra t.rs.length rc, .slice wa t.ws.length wc, .bool t.out, .string t.nm]) := Bx.new w [.int .i64 t.id, .int .i64 t.st, .int .i64 t.snap, .int .i64 t.cs, .slice ra t.rs.length rc, .slice wa t.ws.length wc, .bool t.out, .string t.nm] 112
 have HB0 : Hid (Below w.heap.size w (w.alloc (.cells #[.int .i64 t.id, .int .i64 t.st, .int .i64 t.snap, .int .i64 t.cs, .slice ra t.rs.length rc, .slice wa t.ws.length wc, .bool t.out, .string t.nm] 112))) := (belowRefl w).alloc (Nat.le_refl _) _
 go_enter Tryz.func54, Tryz.ntmps54
 go_wp2_with fail
 refine (szSR2 t.rs ra rc HP.out.rl HP.out.rf L h0 h1 _ (HP.out.row.r.below HB0.out)).mono ?_
 rintro e w1 ⟨hb1, r0, rfl, hu0, hr0⟩
 have HR0 : Hid (0 ≤ r0 → r0 + (t.rs.length : Int) ≤ L ∧ t.rs.length ≤ 1048576 ∧ RFit t.rs) := hr0
 have HB1 : Hid (Below w.heap.size w w1) := HB0.out.trans (hb1.mono HB0.out.size)
 have BX1 : Hid (Bx w1 w.heap.size [.int .i64 t.id, .int .i64 t.st, .int .i64 t.snap, .int .i64 t.cs, .slice ra t.rs.length rc, .slice wa t.ws.length wc, .bool t.out, .string t.nm]) := BX0.out.below hb1
 clear hb1 hr0
 by_cases hn0 : r0 < 0
 ·go_wp2
  go_ret
  exact ⟨HB1.out, -1, rfl, by omega, fun h => by omega⟩
 have x5 := BX1.out.c5
 go_wp2_with fail
 refine (szSW2 t.ws wa wc HP.out.wl HP.out.wf r0 (by omega) hu0 _ (HP.out.row.w.below HB1.out)).mono ?_
 rintro e w2 ⟨hb2, r1, rfl, hu1, hr1⟩
 have HR1 : Hid (0 ≤ r1 → r1 + (t.ws.length : Int) ≤ r0 ∧ t.ws.length ≤ 1048576 ∧ WFit t.ws) := hr1
 have HB2 : Hid (Below w.heap.size w w2) := HB1.out.trans (hb2.mono HB1.out.size)
 have BX2 : Hid (Bx w2 w.heap.size [.int .i64 t.id, .int .i64 t.st, .int .i64 t.snap, .int .i64 t.cs, .slice ra t.rs.length rc, .slice wa t.ws.length wc, .bool t.out, .string t.nm]) := BX1.out.below hb2
 clear hb2 hr1 x5
 by_cases hn1 : r1 < 0
 ·go_wp2
  go_ret
  exact ⟨HB2.out, -1, rfl, by omega, fun h => by omega⟩
 have x7 := BX2.out.c7
 have ew : IntKind.i64.wrap (r1 - (t.nm.size : Int)) = r1 - t.nm.size := by rw [IntKind.wrap_i64]; omega
 by_cases hn2 : r1 - (t.nm.size : Int) < 0
 ·go_wp2
  go_ret
  exact ⟨HB2.out, -1, rfl, by omega, fun h => by omega⟩
 ·have hn3 : ¬ r1 - (t.nm.size : Int) < 0 := hn2
  have HT : Hid (TFit t) := ⟨(HR0.out (by omega)).2.1, (HR0.out (by omega)).2.2, (HR1.out (by omega)).2.1, (HR1.out (by omega)).2.2, by omega⟩
  have hsm : r1 - (t.nm.size : Int) + (t.ws.length : Int) ≤ L := by have h1 := (HR0.out (by omega)).1; have h2 := (HR1.out (by omega)).1; omega
  go_wp2
  go_ret
  exact ⟨HB2.out, _, rfl, by omega, fun _ => ⟨hsm, HT.out⟩⟩

set_option maxRecDepth 100000 in
set_option maxHeartbeats 2000000 in
theorem szL2 (xs : List Ta) (a : Option Addr) (c : Nat) (L : Int) (h0 : 0 ≤ L) (h1 : L ≤ 1048576) (w : World) (hp : LArg w a xs) :
  Calls Tryz.prog 28 #[.slice a xs.length c, .int .i64 L] w fun e w' => Below w.heap.size w w' ∧ ∃ r : Int, e = .returned (.int .i64 r) ∧ r ≤ 1048576 ∧ (0 ≤ r → r + (wsum (txs xs) : Int) ≤ L ∧ LFit (txs xs)) := by
 have HP : Hid (LArg w a xs) := hp
 have hn := hp.len
 clear hp
 unfold maxLen at hn
 by_cases hneg : L - (xs.length : Int) < 0
 ·go_enter Tryz.func28, Tryz.ntmps28
  go_wp2
  go_ret
  exact ⟨belowRefl w, -1, rfl, by omega, fun h => by omega⟩
 ·have hneg' : decide (L - (xs.length : Int) < 0) = false := by simpa using hneg
  go_enter Tryz.func28, Tryz.ntmps28
  go_wp2
  go_loopw [1, 5] (fun tl t wr => ∃ (k : Nat) (l : Int), k ≤ xs.length ∧ t = .int .i64 k ∧ tl = .int .i64 l ∧ 0 ≤ l ∧ l ≤ 1048576 ∧ Hid (l + (wsum ((txs xs).take k) : Int) ≤ L) ∧ Hid (∀ j (hj : j < xs.length), j < k → TFit xs[j].t) ∧ Hid (Below w.heap.size w wr)) (fun _ t _ => xs.length - (intOf t).toNat)
  case atStart => exact ⟨0, L - (xs.length : Int), Nat.zero_le _, rfl, rfl, by omega, by omega, (by show _ ≤ _; simp [wsum]; omega), fun j hj h => by omega, belowRefl w⟩
  case round =>
   obtain ⟨k, l, hk, rfl, rfl, hl0, hl1, HSM, HA, HB⟩ := hrel
   by_cases hlt : k < xs.length
   ·have hlt' : (k : Int) < (xs.length : Int) := by omega
    have hk0 : (0 : Int) ≤ (k : Int) := by omega
    have HR0 := hide (HP.out.below HB.out)
    obtain ⟨b, off, rfl, hbl, hc, -⟩ := HR0.out.rows.cls k hlt
    obtain ⟨x, hx⟩ : ∃ x, x = xs[k] := ⟨_, rfl⟩
    rw [← hx] at hc
    have HX : Hid (x = xs[k]) := hx
    have HT : Hid (TArg wr x.t x.ra x.wa) := by rw [hx]; exact HR0.out.each _ (List.getElem_mem hlt)
    clear hx
    have r0 := hc.c0
    have r1 := hc.c1
    have r2 := hc.c2
    have r3 := hc.c3
    have r4 := hc.c4
    have r5 := hc.c5
    have r6 := hc.c6
    have r7 := hc.c7
    clear hc
    go_wp2_with fail
    refine (szT2 x.t x.ra x.wa x.rc x.wc l hl0 hl1 _ HT.out).mono ?_
    rintro e w2 ⟨hb2, r, rfl, hr1, hr⟩
    have HB2 : Hid (Below w.heap.size w w2) := HB.out.trans (hb2.mono HB.out.size)
    have HF : Hid (0 ≤ r → TFit x.t) := fun h => (hr h).2
    have HSM2 : Hid (0 ≤ r → r + (wsum ((txs xs).take (k + 1)) : Int) ≤ L) := fun h => by
     have h1 := (hr h).1
     have h2 := HSM.out
     have h3 := wsum_next (txs xs) k (by rw [txs_len]; exact hlt)
     have h4 : (txs xs)[k]'(by rw [txs_len]; exact hlt) = x.t := by rw [HX.out]; simp [txs]
     rw [h4] at h3
     omega
    clear hb2 hr r0 r1 r2 r3 r4 r5 r6 r7
    by_cases hn2 : r < 0
    ·go_wp2
     go_ret
     exact ⟨HB2.out, -1, rfl, by omega, fun h => by omega⟩
    ·have hn3 : ¬ r < 0 := hn2
     have HA2 : Hid (∀ j (hj : j < xs.length), j < k + 1 → TFit xs[j].t) := fun j hj h => by
      by_cases e : j = k
      ·subst e; rw [← HX.out]; exact HF.out (by omega)
      ·exact HA.out j hj (by omega)
     have hr0 : 0 ≤ r := by omega
     clear hn2
     go_wp2
     go_roundw
     case rel => exact ⟨k + 1, r, by omega, by go_num, rfl, hr0, hr1, HSM2.out hr0, HA2, HB2⟩
     case measure => simp [intOf]; omega
   ·have hlt' : ¬ (k : Int) < (xs.length : Int) := by omega
    have HSM3 : Hid (l + (wsum (txs xs) : Int) ≤ L) := by have h := HSM.out; rw [List.take_of_length_le (by rw [txs_len]; omega)] at h; exact h
    have HA2 : Hid (LFit (txs xs)) := ⟨by rw [txs_len]; omega, fun s hs => by
     obtain ⟨y, hy, rfl⟩ := List.mem_map.1 hs
     obtain ⟨j, hj, rfl⟩ := List.getElem_of_mem hy
     exact HA.out j hj (by omega)⟩
    go_wp2
    go_ret
    exact ⟨HB.out, l, rfl, hl1, fun _ => ⟨HSM3.out, HA2.out⟩⟩

end Go.Proofs.YtjieojfcmigcdaaGreatDoor

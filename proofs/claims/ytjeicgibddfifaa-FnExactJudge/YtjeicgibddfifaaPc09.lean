/- What laws' sz, to and eq do over rows of versions, and eq over rows of pairs. -/
import Derived.Test.YtjeicgibddfifaaPc08
import Derived.Test.YtjeicgibddfifaaPc02
namespace Go.Proofs.Ytjeicgibddfifaa
open Go.RowKit
open KM
attribute [local go_sem ↓] Go.wp_at_zero Go.wp_at_succ

set_option maxRecDepth 100000 in
set_option maxHeartbeats 1000000 in
theorem szSV (xs : List Vr) (a : Option Addr) (c : Nat) (hn : xs.length ≤ maxLen) (hl : ∀ x ∈ xs, x.1.size ≤ maxLen ∧ x.2.1.size ≤ maxLen) (L : Int) (h0 : 0 ≤ L) (h1 : L ≤ 1048576) (w : World) (hp : GRow encV w a xs) :
  Calls Try.prog 45 #[.slice a xs.length c, .int .i64 L] w fun e w' => Below w.heap.size w w' ∧ ∃ r : Int, e = .returned (.int .i64 r) ∧ r ≤ 1048576 ∧ (0 ≤ r → xs.length ≤ 1048576 ∧ VFit xs) := by
 have HP : Hid (GRow encV w a xs) := hp
 have HL : Hid (∀ x ∈ xs, x.1.size ≤ maxLen ∧ x.2.1.size ≤ maxLen) := hl
 clear hp hl
 unfold maxLen at hn
 by_cases hneg : L - (xs.length : Int) < 0
 ·go_enter Try.func45, Try.ntmps45
  go_wp2
  go_ret
  exact ⟨belowRefl w, -1, rfl, by omega, fun h => by omega⟩
 ·have hneg' : decide (L - (xs.length : Int) < 0) = false := by simpa using hneg
  go_enter Try.func45, Try.ntmps45
  go_wp2
  go_loopw [1, 5] (fun tl t wr => ∃ (k : Nat) (l : Int), k ≤ xs.length ∧ t = .int .i64 k ∧ tl = .int .i64 l ∧ 0 ≤ l ∧ l ≤ 1048576 ∧ Hid (∀ j (hj : j < xs.length), j < k → xs[j].1.size ≤ 1048576 ∧ xs[j].2.1.size ≤ 1048576) ∧ Hid (Below w.heap.size w wr)) (fun _ t _ => xs.length - (intOf t).toNat)
  case atStart => exact ⟨0, L - (xs.length : Int), Nat.zero_le _, rfl, rfl, by omega, by omega, fun j hj h => by omega, belowRefl w⟩
  case round =>
   obtain ⟨k, l, hk, rfl, rfl, hl0, hl1, HA, HB⟩ := hrel
   by_cases hlt : k < xs.length
   ·have hlt' : (k : Int) < (xs.length : Int) := by omega
    have hk0 : (0 : Int) ≤ (k : Int) := by omega
    obtain ⟨b, off, rfl, hbl, hc⟩ := (HP.out.below HB.out) (by omega)
    have r0 := ((vat hc) k hlt).1
    have r1 := ((vat hc) k hlt).2.1
    have r2 := ((vat hc) k hlt).2.2.1
    have r3 := ((vat hc) k hlt).2.2.2
    have HZ : Hid (xs[k].1.size ≤ maxLen ∧ xs[k].2.1.size ≤ maxLen) := HL.out _ (List.getElem_mem hlt)
    clear hc
    go_wp2_with fail
    refine (szv xs[k].1 xs[k].2.1 xs[k].2.2.1 xs[k].2.2.2 l hl0 hl1 HZ.out.1 HZ.out.2 _).mono ?_
    rintro e w2 ⟨r, rfl, hr, hb2⟩
    have HB2 : Hid (Below w.heap.size w w2) := HB.out.trans (hb2.mono HB.out.size)
    clear hb2 r0 r1 r2 r3
    by_cases hn2 : r < 0
    ·clear hr
     go_wp2
     go_ret
     exact ⟨HB2.out, -1, rfl, by omega, fun h => by omega⟩
    ·have hn3 : ¬ r < 0 := hn2
     have HR : Hid (0 ≤ r ∧ r ≤ l ∧ (xs[k].1.size : Int) + xs[k].2.1.size + r = l) := by
      rcases hr with hr | hr
      ·exact absurd hr hn2
      ·exact hr
     have HA2 : Hid (∀ j (hj : j < xs.length), j < k + 1 → xs[j].1.size ≤ 1048576 ∧ xs[j].2.1.size ≤ 1048576) := fun j hj h => by
      by_cases e : j = k
      ·subst e; have := HR.out; omega
      ·exact HA.out j hj (by omega)
     have hr0 : 0 ≤ r := HR.out.1
     have hr1 : r ≤ 1048576 := Int.le_trans HR.out.2.1 hl1
     clear hn2 hr
     go_wp2
     go_roundw
     case rel => exact ⟨k + 1, r, by omega, by go_num, rfl, hr0, hr1, HA2, HB2⟩
     case measure => simp [intOf]; omega
   ·have hlt' : ¬ (k : Int) < (xs.length : Int) := by omega
    have HA2 : Hid (∀ x ∈ xs, x.1.size ≤ 1048576 ∧ x.2.1.size ≤ 1048576) := fun s hs => by
     obtain ⟨j, hj, rfl⟩ := List.getElem_of_mem hs
     exact HA.out j hj (by omega)
    go_wp2
    go_ret
    exact ⟨HB.out, l, rfl, hl1, fun _ => ⟨by omega, HA2.out⟩⟩

set_option maxRecDepth 100000 in
set_option maxHeartbeats 1000000 in
theorem toSV (xs : List Vr) (a : Option Addr) (c : Nat) (hn : xs.length ≤ 100000000) (w : World) (hp : GRow encV w a xs) :
  Calls Try.prog 47 #[.slice a xs.length c] w fun e w' => ∃ a1 c1, e = .returned (.slice a1 xs.length c1) ∧ GOwn encV 84 w' w.heap.size (.slice a1 xs.length c1) xs ∧ Below w.heap.size w w' := by
 have HP : Hid (GRow encV w a xs) := hp
 clear hp
 have hmk := mkRow 22 84 4 _ _ Try.underlying22 Try.info84 xs.length hn (by omega)
 go_enter Try.func47, Try.ntmps47
 go_wp2
 clear hmk
 obtain ⟨cs0, hcs0⟩ : ∃ cs, cs = madeCells (Value.agg #[.string ByteArray.empty, .string ByteArray.empty, .bool false, .int .i64 0]).cells (xs.length * 4) := ⟨_, rfl⟩
 have HO : Hid ((w.alloc (.cells cs0 84)).ownsRow w.heap.size 84 4 (.slice (some ⟨w.heap.size, 0, none⟩) xs.length xs.length) xs.length cs0.toList) :=
  World.ownsRow_lit w _ _ (Nat.le_refl _) (by unfold maxLen; omega) (by rw [hcs0, size_madeCells])
 rw [hcs0] at HO
 clear hcs0 cs0
 go_loopw [4] (fun t wr => ∃ (k : Nat) (cs : List Value), k ≤ xs.length ∧ t = .int .i64 k ∧ Hid (wr.ownsRow w.heap.size 84 4 (.slice (some ⟨w.heap.size, 0, none⟩) xs.length xs.length) xs.length cs) ∧ Hid (∀ j, j < k * 4 → cs[j]? = (encV.cells xs)[j]?) ∧ Hid (Below w.heap.size w wr)) (fun t _ => xs.length - (intOf t).toNat)
 case atStart => exact ⟨0, _, Nat.zero_le _, rfl, HO, fun j hj => by omega, (belowRefl w).alloc (Nat.le_refl _) _⟩
 case round =>
  obtain ⟨k, cs, hk, rfl, HX, HA, HB⟩ := hrel
  by_cases hlt : k < xs.length
  ·have hlt' : (k : Int) < (xs.length : Int) := by omega
   have h0 : (0 : Int) ≤ (k : Int) := by omega
   obtain ⟨b, off, rfl, hbl, hc⟩ := (HP.out.below HB.out) (by omega)
   have r0 := ((vat hc) k hlt).1
   have r1 := ((vat hc) k hlt).2.1
   have r2 := ((vat hc) k hlt).2.2.1
   have r3 := ((vat hc) k hlt).2.2.2
   clear hc
   have hgl : w.heap.size < wr.heap.size := (World.ownsRow.lt HX.out _ rfl).2
   go_wp2_with fail
   refine (tov xs[k].1 xs[k].2.1 xs[k].2.2.1 xs[k].2.2.2 _).mono ?_
   rintro e w2 ⟨rfl, hb2⟩
   have HX0 : Hid (w2.ownsRow w.heap.size 84 4 (.slice (some ⟨w.heap.size, 0, none⟩) xs.length xs.length) xs.length cs) := ownsBelow HX.out hb2
   have HB2 : Hid (Below w.heap.size w w2) := HB.out.trans (hb2.mono HB.out.size)
   clear r0 r1 r2 r3 hb2
   have hlen := HX0.out.1
   have hq0 : w2.cell? ⟨w.heap.size, k * 4, none⟩ = some (cs[k * 4]'(by omega)) := by
    rw [World.ownsRow.cellAt HX0.out (k * 4) (by omega)]; simp
   have hf0 := World.ownsRow.frozenAt HX0.out (k * 4)
   have hq1 : w2.cell? ⟨w.heap.size, k * 4 + 1, none⟩ = some (cs[k * 4 + 1]'(by omega)) := by
    rw [World.ownsRow.cellAt HX0.out (k * 4 + 1) (by omega)]; simp
   have hf1 := World.ownsRow.frozenAt HX0.out (k * 4 + 1)
   have hq2 : w2.cell? ⟨w.heap.size, k * 4 + 2, none⟩ = some (cs[k * 4 + 2]'(by omega)) := by
    rw [World.ownsRow.cellAt HX0.out (k * 4 + 2) (by omega)]; simp
   have hf2 := World.ownsRow.frozenAt HX0.out (k * 4 + 2)
   have hq3 : w2.cell? ⟨w.heap.size, k * 4 + 3, none⟩ = some (cs[k * 4 + 3]'(by omega)) := by
    rw [World.ownsRow.cellAt HX0.out (k * 4 + 3) (by omega)]; simp
   have hf3 := World.ownsRow.frozenAt HX0.out (k * 4 + 3)
   have hx2 := (World.ownsRow.stored (World.ownsRow.stored (World.ownsRow.stored (World.ownsRow.stored HX0.out (k * 4) (.string xs[k].1)).1 (k * 4 + 1) (.string xs[k].2.1)).1 (k * 4 + 2) (.bool xs[k].2.2.1)).1 (k * 4 + 3) (.int .i64 xs[k].2.2.2)).1
   have HX3 : Hid _ := hx2
   clear hx2
   have HA2 : Hid (∀ j, j < (k + 1) * 4 → ((((cs.set (k * 4) (.string xs[k].1)).set (k * 4 + 1) (.string xs[k].2.1)).set (k * 4 + 2) (.bool xs[k].2.2.1)).set (k * 4 + 3) (.int .i64 xs[k].2.2.2))[j]? = (encV.cells xs)[j]?) := fun j hj => by
    by_cases e0 : j = k * 4
    ·subst e0
     rw [List.getElem?_set_ne (by omega), List.getElem?_set_ne (by omega), List.getElem?_set_ne (by omega), List.getElem?_set_self (by omega)]
     have := encV.cells_at xs k hlt 0 (by decide)
     simp only [encV, Nat.add_zero] at this ⊢
     rw [this]; rfl
    by_cases e1 : j = k * 4 + 1
    ·subst e1
     rw [List.getElem?_set_ne (by omega), List.getElem?_set_ne (by omega), List.getElem?_set_self (by simp; omega)]
     have := encV.cells_at xs k hlt 1 (by decide)
     simp only [encV] at this ⊢
     rw [this]; rfl
    by_cases e2 : j = k * 4 + 2
    ·subst e2
     rw [List.getElem?_set_ne (by omega), List.getElem?_set_self (by simp; omega)]
     have := encV.cells_at xs k hlt 2 (by decide)
     simp only [encV] at this ⊢
     rw [this]; rfl
    by_cases e3 : j = k * 4 + 3
    ·subst e3
     rw [List.getElem?_set_self (by simp; omega)]
     have := encV.cells_at xs k hlt 3 (by decide)
     simp only [encV] at this ⊢
     rw [this]; rfl
    rw [List.getElem?_set_ne (by omega), List.getElem?_set_ne (by omega), List.getElem?_set_ne (by omega), List.getElem?_set_ne (by omega)]
    exact HA.out j (by omega)
   go_wp2
   go_roundw
   case rel => exact ⟨k + 1, _, by omega, by go_num, HX3, HA2, ((((HB2.out.setCell (Nat.le_refl _) _).setCell (Nat.le_refl _) _).setCell (Nat.le_refl _) _).setCell (Nat.le_refl _) _)⟩
   case measure => simp [intOf]; omega
  ·have hlt' : ¬ (k : Int) < (xs.length : Int) := by omega
   have HD : Hid (GOwn encV 84 wr w.heap.size (.slice (some ⟨w.heap.size, 0, none⟩) xs.length xs.length) xs) := gown_of rfl HX.out (fun j hj => HA.out j (Nat.lt_of_lt_of_le hj (Nat.mul_le_mul_right _ (by omega))))
   go_wp2
   go_ret
   exact ⟨_, _, rfl, HD.out, HB.out⟩

set_option maxHeartbeats 400000 in
theorem eqv (x0 : ByteArray) (x1 : ByteArray) (x2 : Bool) (x3 : Int) (w : World) :
  Calls Try.prog 60 #[.agg #[.string x0, .string x1, .bool x2, .int .i64 x3], .agg #[.string x0, .string x1, .bool x2, .int .i64 x3]] w fun e w' => e = .returned (.bool true) ∧ Below w.heap.size w w' := by
 have hbn2 := bne_self' x2
 go_enter Try.func60, Try.ntmps60
 go_wp2
 go_ret
 exact ⟨rfl, ((belowRefl w).alloc (Nat.le_refl _) _).alloc (by simp) _⟩

set_option maxRecDepth 100000 in
set_option maxHeartbeats 1000000 in
theorem eqSV (a1 a2 : Option Addr) (c1 c2 : Nat) (xs : List Vr) (hn : xs.length ≤ 100000000) (w : World) (h1 : GRow encV w a1 xs) (h2 : GRow encV w a2 xs) :
  Calls Try.prog 36 #[.slice a1 xs.length c1, .slice a2 xs.length c2] w fun e w' => e = .returned (.bool true) ∧ Below w.heap.size w w' := by
 have H1 : Hid (GRow encV w a1 xs) := h1
 have H2 : Hid (GRow encV w a2 xs) := h2
 clear h1 h2
 go_enter Try.func36, Try.ntmps36
 go_wp2
 go_loopw [5] (fun t wr => ∃ k : Nat, k ≤ xs.length ∧ t = .int .i64 k ∧ Hid (Below w.heap.size w wr)) (fun t _ => xs.length - (intOf t).toNat)
 case atStart => exact ⟨0, Nat.zero_le _, rfl, Below.refl _ _⟩
 case round =>
  obtain ⟨k, hk, rfl, HB⟩ := hrel
  by_cases hlt : k < xs.length
  ·have hlt' : (k : Int) < (xs.length : Int) := by omega
   have h0 : (0 : Int) ≤ (k : Int) := by omega
   obtain ⟨b1, off1, rfl, hl1, q1⟩ := (H1.out.below HB.out) (by omega)
   obtain ⟨b2, off2, rfl, hl2, q2⟩ := (H2.out.below HB.out) (by omega)
   have r10 := ((vat q1) k hlt).1
   have r11 := ((vat q1) k hlt).2.1
   have r12 := ((vat q1) k hlt).2.2.1
   have r13 := ((vat q1) k hlt).2.2.2
   have r20 := ((vat q2) k hlt).1
   have r21 := ((vat q2) k hlt).2.1
   have r22 := ((vat q2) k hlt).2.2.1
   have r23 := ((vat q2) k hlt).2.2.2
   clear q1 q2
   go_wp2
   go_region_held3 (fun w' => w'.cell? ⟨b1, off1 + k * 4, none⟩ = some (.string xs[k].1) ∧ w'.cell? ⟨b1, off1 + k * 4 + 1, none⟩ = some (.string xs[k].2.1) ∧ w'.cell? ⟨b1, off1 + k * 4 + 2, none⟩ = some (.bool xs[k].2.2.1) ∧ w'.cell? ⟨b1, off1 + k * 4 + 3, none⟩ = some (.int .i64 xs[k].2.2.2) ∧ w'.cell? ⟨b2, off2 + k * 4, none⟩ = some (.string xs[k].1) ∧ w'.cell? ⟨b2, off2 + k * 4 + 1, none⟩ = some (.string xs[k].2.1) ∧ w'.cell? ⟨b2, off2 + k * 4 + 2, none⟩ = some (.bool xs[k].2.2.1) ∧ w'.cell? ⟨b2, off2 + k * 4 + 3, none⟩ = some (.int .i64 xs[k].2.2.2)) (first | go_keep | exact ⟨(hbm.cell (p := ⟨b1, off1 + k * 4, none⟩) hl1).trans r10, (hbm.cell (p := ⟨b1, off1 + k * 4 + 1, none⟩) hl1).trans r11, (hbm.cell (p := ⟨b1, off1 + k * 4 + 2, none⟩) hl1).trans r12, (hbm.cell (p := ⟨b1, off1 + k * 4 + 3, none⟩) hl1).trans r13, (hbm.cell (p := ⟨b2, off2 + k * 4, none⟩) hl2).trans r20, (hbm.cell (p := ⟨b2, off2 + k * 4 + 1, none⟩) hl2).trans r21, (hbm.cell (p := ⟨b2, off2 + k * 4 + 2, none⟩) hl2).trans r22, (hbm.cell (p := ⟨b2, off2 + k * 4 + 3, none⟩) hl2).trans r23⟩) ((go_at_call 60; refine (eqv _ _ _ _ _).mono ?_; rintro e w2 ⟨rfl, hbm⟩))
   all_goals
    go_wp2
    go_roundw
    case rel => exact ⟨k + 1, by omega, by go_num, (HB.out.drew).trans (hbm.mono HB.out.size)⟩
    case measure => simp [intOf]; omega
  ·have hd : ¬ (k : Int) < (xs.length : Int) := by omega
   go_wp2
   go_ret
   exact ⟨rfl, HB.out⟩

end Go.Proofs.Ytjeicgibddfifaa

namespace Go.Proofs.Ytjeicgibddfifaa
open Go.RowKit
open KM
attribute [local go_sem ↓] Go.wp_at_zero Go.wp_at_succ

structure Bb where
 vs : List Vr
 ps : List Ta
 qs : List Ta
 cs : Int
 nx : Int
 va : Option Addr
 vc : Nat
 pa : Option Addr
 pc : Nat
 qa : Option Addr
 qc : Nat
structure BRows (w : World) (b : Bb) : Prop where
 v : GRow encV w b.va b.vs
 p : TRows w b.pa b.ps
 q : TRows w b.qa b.qs
theorem BRows.below {w w' : World} {b : Bb} (h : BRows w b) (hb : Below w.heap.size w w') : BRows w' b := ⟨h.v.below hb, h.p.below hb, h.q.below hb⟩
theorem BRows.drewB {w : World} {b : Bb} (h : BRows w b) : BRows w.drew b := ⟨h.v.drew, h.p.drewS, h.q.drewS⟩
structure BArg (w : World) (b : Bb) : Prop where
 vl : b.vs.length ≤ maxLen
 vf : ∀ x ∈ b.vs, x.1.size ≤ maxLen ∧ x.2.1.size ≤ maxLen
 v : GRow encV w b.va b.vs
 p : LArg w b.pa b.ps
 q : LArg w b.qa b.qs
theorem BArg.below {w w' : World} {b : Bb} (h : BArg w b) (hb : Below w.heap.size w w') : BArg w' b := ⟨h.vl, h.vf, h.v.below hb, h.p.below hb, h.q.below hb⟩
theorem BArg.rows {w : World} {b : Bb} (h : BArg w b) : BRows w b := ⟨h.v, h.p.rows, h.q.rows⟩
structure BFit (b : Bb) : Prop where
 vl : b.vs.length ≤ 1048576
 vf : VFit b.vs
 p : LFit (txs b.ps)
 q : LFit (txs b.qs)
theorem BFit.pl {b : Bb} (h : BFit b) : b.ps.length ≤ 1048576 := by have := h.p.1; rwa [txs_len] at this
theorem BFit.ql {b : Bb} (h : BFit b) : b.qs.length ≤ 1048576 := by have := h.q.1; rwa [txs_len] at this
structure BSame (b c : Bb) : Prop where
 v : c.vs = b.vs
 p : txs c.ps = txs b.ps
 q : txs c.qs = txs b.qs
 cs : c.cs = b.cs
 nx : c.nx = b.nx
theorem BSame.pl {b c : Bb} (h : BSame b c) : c.ps.length = b.ps.length := by rw [← txs_len, h.p, txs_len]
theorem BSame.ql {b c : Bb} (h : BSame b c) : c.qs.length = b.qs.length := by rw [← txs_len, h.q, txs_len]
theorem BSame.vl {b c : Bb} (h : BSame b c) : c.vs.length = b.vs.length := by rw [h.v]
theorem BSame.fit {b c : Bb} (h : BSame b c) (hf : BFit b) : BFit c := ⟨by rw [h.v]; exact hf.vl, by rw [h.v]; exact hf.vf, by rw [h.p]; exact hf.p, by rw [h.q]; exact hf.q⟩
theorem BSame.trans {b c d : Bb} (h : BSame b c) (k : BSame c d) : BSame b d := ⟨k.v.trans h.v, k.p.trans h.p, k.q.trans h.q, k.cs.trans h.cs, k.nx.trans h.nx⟩
theorem BSame.symm {b c : Bb} (h : BSame b c) : BSame c b := ⟨h.v.symm, h.p.symm, h.q.symm, h.cs.symm, h.nx.symm⟩

set_option maxRecDepth 100000 in
set_option maxHeartbeats 2000000 in
theorem szB (b : Bb) (L : Int) (h0 : 0 ≤ L) (h1 : L ≤ 1048576) (w : World) (hp : BArg w b) :
  Calls Try.prog 25 #[.agg #[.slice b.va b.vs.length b.vc, .slice b.pa b.ps.length b.pc, .slice b.qa b.qs.length b.qc, .int .i64 b.cs, .int .i64 b.nx], .int .i64 L] w fun e w' => Below w.heap.size w w' ∧ ∃ r : Int, e = .returned (.int .i64 r) ∧ r ≤ 1048576 ∧ (0 ≤ r → BFit b) := by
 have HP : Hid (BArg w b) := hp
 clear hp
 have BX0 : Hid (Bx (w.alloc (.cells #[.slice b.va b.vs.length b.vc, .slice b.pa b.ps.length b.pc, .slice b.qa b.qs.length b.qc, .int .i64 b.cs, .int .i64 b.nx] 35)) w.heap.size [.slice b.va b.vs.length b.vc, .slice b.pa b.ps.length b.pc, .slice b.qa b.qs.length b.qc, .int .i64 b.cs, .int .i64 b.nx]) := Bx.new w [.slice b.va b.vs.length b.vc, .slice b.pa b.ps.length b.pc, .slice b.qa b.qs.length b.qc, .int .i64 b.cs, .int .i64 b.nx] 35
 have HB0 : Hid (Below w.heap.size w (w.alloc (.cells #[.slice b.va b.vs.length b.vc, .slice b.pa b.ps.length b.pc, .slice b.qa b.qs.length b.qc, .int .i64 b.cs, .int .i64 b.nx] 35))) := (belowRefl w).alloc (Nat.le_refl _) _
 go_enter Try.func25, Try.ntmps25
 go_wp2_with fail
 refine (szSV b.vs b.va b.vc HP.out.vl HP.out.vf L h0 h1 _ (HP.out.v.below HB0.out)).mono ?_
 rintro e w1 ⟨hb1, r0, rfl, hu0, hr0⟩
 have HR0 : Hid (0 ≤ r0 → b.vs.length ≤ 1048576 ∧ VFit b.vs) := hr0
 have HB1 : Hid (Below w.heap.size w w1) := HB0.out.trans (hb1.mono HB0.out.size)
 have BX1 : Hid (Bx w1 w.heap.size [.slice b.va b.vs.length b.vc, .slice b.pa b.ps.length b.pc, .slice b.qa b.qs.length b.qc, .int .i64 b.cs, .int .i64 b.nx]) := BX0.out.below hb1
 clear hb1 hr0
 by_cases hn0 : r0 < 0
 ·go_wp2
  go_ret
  exact ⟨HB1.out, -1, rfl, by omega, fun h => by omega⟩
 have x1 := BX1.out.c1
 go_wp2_with fail
 refine (szL b.ps b.pa b.pc r0 (by omega) hu0 _ (HP.out.p.below HB1.out)).mono ?_
 rintro e w2 ⟨hb2, r1, rfl, hu1, hr1⟩
 have HR1 : Hid (0 ≤ r1 → LFit (txs b.ps)) := hr1
 have HB2 : Hid (Below w.heap.size w w2) := HB1.out.trans (hb2.mono HB1.out.size)
 have BX2 : Hid (Bx w2 w.heap.size [.slice b.va b.vs.length b.vc, .slice b.pa b.ps.length b.pc, .slice b.qa b.qs.length b.qc, .int .i64 b.cs, .int .i64 b.nx]) := BX1.out.below hb2
 clear hb2 hr1 x1
 by_cases hn1 : r1 < 0
 ·go_wp2
  go_ret
  exact ⟨HB2.out, -1, rfl, by omega, fun h => by omega⟩
 have x2 := BX2.out.c2
 go_wp2_with fail
 refine (szL b.qs b.qa b.qc r1 (by omega) hu1 _ (HP.out.q.below HB2.out)).mono ?_
 rintro e w3 ⟨hb3, r2, rfl, hu2, hr2⟩
 have HR2 : Hid (0 ≤ r2 → LFit (txs b.qs)) := hr2
 have HB3 : Hid (Below w.heap.size w w3) := HB2.out.trans (hb3.mono HB2.out.size)
 clear hb3 hr2 x2
 by_cases hn2 : r2 < 0
 ·go_wp2
  go_ret
  exact ⟨HB3.out, -1, rfl, by omega, fun h => by omega⟩
 have HT : Hid (BFit b) := ⟨(HR0.out (by omega)).1, (HR0.out (by omega)).2, HR1.out (by omega), HR2.out (by omega)⟩
 go_wp2
 go_ret
 exact ⟨HB3.out, _, rfl, hu2, fun _ => HT.out⟩

set_option maxRecDepth 100000 in
set_option maxHeartbeats 2000000 in
theorem eqB0 (b c : Bb) (hs : BSame b c) (hf : BFit b) (w : World) (hp : BRows w b) (hq : BRows w c) :
  Calls Try.prog 19 #[.agg #[.slice b.va b.vs.length b.vc, .slice b.pa b.ps.length b.pc, .slice b.qa b.qs.length b.qc, .int .i64 b.cs, .int .i64 b.nx], .agg #[.slice c.va b.vs.length c.vc, .slice c.pa b.ps.length c.pc, .slice c.qa b.qs.length c.qc, .int .i64 b.cs, .int .i64 b.nx]] w fun e w' => e = .returned (.bool true) ∧ Below w.heap.size w w' := by
 have HP : Hid (BRows w b) := hp
 have HQ : Hid (BRows w c) := hq
 have HS : Hid (BSame b c) := hs
 have HF : Hid (BFit b) := hf
 clear hp hq hs hf
 have n3 := ne_self_int b.cs
 have n4 := ne_self_int b.nx
 have BA0 : Hid (Bx ((w.alloc (.cells #[.slice b.va b.vs.length b.vc, .slice b.pa b.ps.length b.pc, .slice b.qa b.qs.length b.qc, .int .i64 b.cs, .int .i64 b.nx] 25)).alloc (.cells #[.slice c.va b.vs.length c.vc, .slice c.pa b.ps.length c.pc, .slice c.qa b.qs.length c.qc, .int .i64 b.cs, .int .i64 b.nx] 25)) w.heap.size [.slice b.va b.vs.length b.vc, .slice b.pa b.ps.length b.pc, .slice b.qa b.qs.length b.qc, .int .i64 b.cs, .int .i64 b.nx]) := (Bx.new w [.slice b.va b.vs.length b.vc, .slice b.pa b.ps.length b.pc, .slice b.qa b.qs.length b.qc, .int .i64 b.cs, .int .i64 b.nx] 25).alloc _
 have BB0 : Hid (Bx ((w.alloc (.cells #[.slice b.va b.vs.length b.vc, .slice b.pa b.ps.length b.pc, .slice b.qa b.qs.length b.qc, .int .i64 b.cs, .int .i64 b.nx] 25)).alloc (.cells #[.slice c.va b.vs.length c.vc, .slice c.pa b.ps.length c.pc, .slice c.qa b.qs.length c.qc, .int .i64 b.cs, .int .i64 b.nx] 25)) (w.heap.size + 1) [.slice c.va b.vs.length c.vc, .slice c.pa b.ps.length c.pc, .slice c.qa b.qs.length c.qc, .int .i64 b.cs, .int .i64 b.nx]) := by
  have h := Bx.new (w.alloc (.cells #[.slice b.va b.vs.length b.vc, .slice b.pa b.ps.length b.pc, .slice b.qa b.qs.length b.qc, .int .i64 b.cs, .int .i64 b.nx] 25)) [.slice c.va b.vs.length c.vc, .slice c.pa b.ps.length c.pc, .slice c.qa b.qs.length c.qc, .int .i64 b.cs, .int .i64 b.nx] 25
  rw [show (w.alloc (.cells #[.slice b.va b.vs.length b.vc, .slice b.pa b.ps.length b.pc, .slice b.qa b.qs.length b.qc, .int .i64 b.cs, .int .i64 b.nx] 25)).heap.size = w.heap.size + 1 by simp] at h
  exact h
 have HB0 : Hid (Below w.heap.size w ((w.alloc (.cells #[.slice b.va b.vs.length b.vc, .slice b.pa b.ps.length b.pc, .slice b.qa b.qs.length b.qc, .int .i64 b.cs, .int .i64 b.nx] 25)).alloc (.cells #[.slice c.va b.vs.length c.vc, .slice c.pa b.ps.length c.pc, .slice c.qa b.qs.length c.qc, .int .i64 b.cs, .int .i64 b.nx] 25))) := ((belowRefl w).alloc (Nat.le_refl _) _).alloc (by simp) _
 have CV : Hid (∀ W : World, Below w.heap.size w W → Calls Try.prog 36 #[.slice b.va b.vs.length b.vc, .slice c.va b.vs.length c.vc] W fun e w' => e = .returned (.bool true) ∧ Below W.heap.size W w') := fun W h => eqSV b.va c.va b.vc c.vc b.vs (Nat.le_trans HF.out.vl (by omega)) W (HP.out.v.below h) (by have k := HQ.out.v.below h; rw [HS.out.v] at k; exact k)
 have CP : Hid (∀ W : World, Below w.heap.size w W → Calls Try.prog 20 #[.slice b.pa b.ps.length b.pc, .slice c.pa b.ps.length c.pc] W fun e w' => e = .returned (.bool true) ∧ Below W.heap.size W w') := fun W h => eqL b.ps c.ps b.pa c.pa b.pc c.pc b.ps.length rfl HS.out.pl.symm (Nat.le_trans HF.out.pl (by omega)) HS.out.p.symm HF.out.p W (HP.out.p.below h) (HQ.out.p.below h)
 have CQ : Hid (∀ W : World, Below w.heap.size w W → Calls Try.prog 20 #[.slice b.qa b.qs.length b.qc, .slice c.qa b.qs.length c.qc] W fun e w' => e = .returned (.bool true) ∧ Below W.heap.size W w') := fun W h => eqL b.qs c.qs b.qa c.qa b.qc c.qc b.qs.length rfl HS.out.ql.symm (Nat.le_trans HF.out.ql (by omega)) HS.out.q.symm HF.out.q W (HP.out.q.below h) (HQ.out.q.below h)
 clear HP HQ HS HF
 go_enter Try.func19, Try.ntmps19
 go_wp2_with fail
 refine (CV.out _ HB0.out).mono ?_
 rintro e w1 ⟨rfl, hb1⟩
 have BA1 : Hid (Bx w1 w.heap.size [.slice b.va b.vs.length b.vc, .slice b.pa b.ps.length b.pc, .slice b.qa b.qs.length b.qc, .int .i64 b.cs, .int .i64 b.nx]) := BA0.out.below hb1
 have BB1 : Hid (Bx w1 (w.heap.size + 1) [.slice c.va b.vs.length c.vc, .slice c.pa b.ps.length c.pc, .slice c.qa b.qs.length c.qc, .int .i64 b.cs, .int .i64 b.nx]) := BB0.out.below hb1
 have HB1 : Hid (Below w.heap.size w w1) := HB0.out.trans (hb1.mono HB0.out.size)
 clear hb1 BA0 BB0 HB0
 have x1 := BA1.out.c1
 have y1 := BB1.out.c1
 go_wp2_with fail
 refine (CP.out _ HB1.out).mono ?_
 rintro e w2 ⟨rfl, hb2⟩
 have BA2 : Hid (Bx w2 w.heap.size [.slice b.va b.vs.length b.vc, .slice b.pa b.ps.length b.pc, .slice b.qa b.qs.length b.qc, .int .i64 b.cs, .int .i64 b.nx]) := BA1.out.below hb2
 have BB2 : Hid (Bx w2 (w.heap.size + 1) [.slice c.va b.vs.length c.vc, .slice c.pa b.ps.length c.pc, .slice c.qa b.qs.length c.qc, .int .i64 b.cs, .int .i64 b.nx]) := BB1.out.below hb2
 have HB2 : Hid (Below w.heap.size w w2) := HB1.out.trans (hb2.mono HB1.out.size)
 clear hb2 BA1 BB1 HB1 x1 y1
 have x2 := BA2.out.c2
 have y2 := BB2.out.c2
 go_wp2_with fail
 refine (CQ.out _ HB2.out).mono ?_
 rintro e w3 ⟨rfl, hb3⟩
 have BA3 : Hid (Bx w3 w.heap.size [.slice b.va b.vs.length b.vc, .slice b.pa b.ps.length b.pc, .slice b.qa b.qs.length b.qc, .int .i64 b.cs, .int .i64 b.nx]) := BA2.out.below hb3
 have BB3 : Hid (Bx w3 (w.heap.size + 1) [.slice c.va b.vs.length c.vc, .slice c.pa b.ps.length c.pc, .slice c.qa b.qs.length c.qc, .int .i64 b.cs, .int .i64 b.nx]) := BB2.out.below hb3
 have HB3 : Hid (Below w.heap.size w w3) := HB2.out.trans (hb3.mono HB2.out.size)
 clear hb3 BA2 BB2 HB2 x2 y2
 have x3 := BA3.out.c3
 have y3 := BB3.out.c3
 have x4 := BA3.out.c4
 have y4 := BB3.out.c4
 go_wp2
 go_ret
 exact ⟨rfl, HB3.out⟩

end Go.Proofs.Ytjeicgibddfifaa

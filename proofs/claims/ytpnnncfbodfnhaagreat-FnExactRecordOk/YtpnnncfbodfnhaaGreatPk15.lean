/- A record: how it lies, its size, its copy, its likeness. -/
import Derived.Test.YtpnnncfbodfnhaaGreatPk14
namespace Go.Proofs.YtpnnncfbodfnhaaGreat
open Go.RowKit
open KM
attribute [local go_sem ↓] Go.wp_at_zero Go.wp_at_succ

/-- a record, and where its rows lie -/
structure Rc where
  k : Int
  t : Ta
  nm : ByteArray
  yes : Bool
  b : Bb
/-- what can be read of it -/
structure RcRows (w : World) (r : Rc) : Prop where
  t : TRow w r.t.t r.t.ra r.t.wa
  b : BRows w r.b
theorem RcRows.below {w w' : World} {r : Rc} (h : RcRows w r) (hb : Below w.heap.size w w') : RcRows w' r := ⟨h.t.below hb, h.b.below hb⟩
/-- a record that is handed in -/
structure RcArg (w : World) (r : Rc) : Prop where
  t : TArg w r.t.t r.t.ra r.t.wa
  nm : r.nm.size ≤ maxLen
  b : BArg w r.b
theorem RcArg.below {w w' : World} {r : Rc} (h : RcArg w r) (hb : Below w.heap.size w w') : RcArg w' r := ⟨h.t.below hb, h.nm, h.b.below hb⟩
theorem RcArg.rows {w : World} {r : Rc} (h : RcArg w r) : RcRows w r := ⟨h.t.row, h.b.rows⟩
/-- texts and lists that are not too long -/
structure RcFit (r : Rc) : Prop where
  t : TFit r.t.t
  nm : r.nm.size ≤ 1048576
  b : BFit r.b
/-- the same, wherever it lies -/
structure RcSame (r c : Rc) : Prop where
  k : c.k = r.k
  t : c.t.t = r.t.t
  nm : c.nm = r.nm
  yes : c.yes = r.yes
  b : BSame r.b c.b
theorem RcSame.fit {r c : Rc} (h : RcSame r c) (hf : RcFit r) : RcFit c := ⟨by rw [h.t]; exact hf.t, by rw [h.nm]; exact hf.nm, h.b.fit hf.b⟩
theorem RcSame.trans {r c d : Rc} (h : RcSame r c) (k : RcSame c d) : RcSame r d := ⟨k.k.trans h.k, k.t.trans h.t, k.nm.trans h.nm, k.yes.trans h.yes, h.b.trans k.b⟩
theorem RcSame.symm {r c : Rc} (h : RcSame r c) : RcSame c r := ⟨h.k.symm, h.t.symm, h.nm.symm, h.yes.symm, h.b.symm⟩
/-- a record in memory of its own -/
structure RcLie (w : World) (lo hi : Nat) (c : Rc) : Prop where
  ex : ∃ m, lo ≤ m ∧ m ≤ hi ∧ TLie w lo m c.t.t c.t.ra c.t.rc c.t.wa c.t.wc ∧ BLie w m hi c.b
theorem RcLie.rows {w : World} {lo hi : Nat} {c : Rc} (h : RcLie w lo hi c) : RcRows w c := by
  obtain ⟨m, _, _, h1, h2⟩ := h.ex
  exact ⟨h1.row, h2.rows⟩
theorem RcLie.below {w w' : World} {lo hi : Nat} {c : Rc} (h : RcLie w lo hi c) (hb : Below w.heap.size w w') : RcLie w' lo hi c := by
  obtain ⟨m, a, b, h1, h2⟩ := h.ex
  exact ⟨m, a, b, h1.below hb, h2.below hb⟩
theorem RcLie.set {w : World} {lo hi : Nat} {c : Rc} (h : RcLie w lo hi c) {a : Addr} (ha : a.block < lo) (u : Value) : RcLie (w.setCell a u) lo hi c := by
  obtain ⟨m, k1, k2, h1, h2⟩ := h.ex
  exact ⟨m, k1, k2, h1.set ha u, h2.set (by omega) u⟩
theorem RcLie.mono {w : World} {lo hi lo' hi' : Nat} {c : Rc} (h : RcLie w lo hi c) (k : lo' ≤ lo) (k' : hi ≤ hi') : RcLie w lo' hi' c := by
  obtain ⟨m, k1, k2, h1, h2⟩ := h.ex
  exact ⟨m, by omega, by omega, h1.mono k (Nat.le_refl _), h2.mono (Nat.le_refl _) k'⟩
theorem RcLie.zn {w w' : World} {lo hi l h : Nat} {c : Rc} (k : RcLie w lo hi c) (hz : Zn l h w w') (hne : hi ≤ l ∨ h ≤ lo) : RcLie w' lo hi c := by
  obtain ⟨m, k1, k2, h1, h2⟩ := k.ex
  exact ⟨m, k1, k2, h1.zn hz (by omega), h2.zn hz (by omega)⟩
section
variable {w : World} {b : Nat}
theorem Bx.c8 {x0 x1 x2 x3 x4 x5 x6 x7 x8 : Value} {r : List Value} (h : Bx w b (x0 :: x1 :: x2 :: x3 :: x4 :: x5 :: x6 :: x7 :: x8 :: r)) : w.cell? ⟨b, 8, none⟩ = some x8 := h.at' 8 (by simp)
theorem Bx.c9 {x0 x1 x2 x3 x4 x5 x6 x7 x8 x9 : Value} {r : List Value} (h : Bx w b (x0 :: x1 :: x2 :: x3 :: x4 :: x5 :: x6 :: x7 :: x8 :: x9 :: r)) : w.cell? ⟨b, 9, none⟩ = some x9 := h.at' 9 (by simp)
theorem Bx.c10 {x0 x1 x2 x3 x4 x5 x6 x7 x8 x9 x10 : Value} {r : List Value} (h : Bx w b (x0 :: x1 :: x2 :: x3 :: x4 :: x5 :: x6 :: x7 :: x8 :: x9 :: x10 :: r)) : w.cell? ⟨b, 10, none⟩ = some x10 := h.at' 10 (by simp)
theorem Bx.c11 {x0 x1 x2 x3 x4 x5 x6 x7 x8 x9 x10 x11 : Value} {r : List Value} (h : Bx w b (x0 :: x1 :: x2 :: x3 :: x4 :: x5 :: x6 :: x7 :: x8 :: x9 :: x10 :: x11 :: r)) : w.cell? ⟨b, 11, none⟩ = some x11 := h.at' 11 (by simp)
theorem Bx.c12 {x0 x1 x2 x3 x4 x5 x6 x7 x8 x9 x10 x11 x12 : Value} {r : List Value} (h : Bx w b (x0 :: x1 :: x2 :: x3 :: x4 :: x5 :: x6 :: x7 :: x8 :: x9 :: x10 :: x11 :: x12 :: r)) : w.cell? ⟨b, 12, none⟩ = some x12 := h.at' 12 (by simp)
theorem Bx.c13 {x0 x1 x2 x3 x4 x5 x6 x7 x8 x9 x10 x11 x12 x13 : Value} {r : List Value} (h : Bx w b (x0 :: x1 :: x2 :: x3 :: x4 :: x5 :: x6 :: x7 :: x8 :: x9 :: x10 :: x11 :: x12 :: x13 :: r)) : w.cell? ⟨b, 13, none⟩ = some x13 := h.at' 13 (by simp)
theorem Bx.c14 {x0 x1 x2 x3 x4 x5 x6 x7 x8 x9 x10 x11 x12 x13 x14 : Value} {r : List Value} (h : Bx w b (x0 :: x1 :: x2 :: x3 :: x4 :: x5 :: x6 :: x7 :: x8 :: x9 :: x10 :: x11 :: x12 :: x13 :: x14 :: r)) : w.cell? ⟨b, 14, none⟩ = some x14 := h.at' 14 (by simp)
theorem Bx.c15 {x0 x1 x2 x3 x4 x5 x6 x7 x8 x9 x10 x11 x12 x13 x14 x15 : Value} {r : List Value} (h : Bx w b (x0 :: x1 :: x2 :: x3 :: x4 :: x5 :: x6 :: x7 :: x8 :: x9 :: x10 :: x11 :: x12 :: x13 :: x14 :: x15 :: r)) : w.cell? ⟨b, 15, none⟩ = some x15 := h.at' 15 (by simp)
end

set_option maxRecDepth 100000 in
set_option maxHeartbeats 2000000 in
theorem szR (r : Rc) (L : Int) (h0 : 0 ≤ L) (h1 : L ≤ 1048576) (w : World) (hp : RcArg w r) :
    Calls Tryz.prog 7 #[.agg #[.int .i64 r.k, .int .i64 r.t.t.id, .int .i64 r.t.t.st, .int .i64 r.t.t.snap, .int .i64 r.t.t.cs, .slice r.t.ra r.t.t.rs.length r.t.rc, .slice r.t.wa r.t.t.ws.length r.t.wc, .bool r.t.t.out, .string r.t.t.nm, .string r.nm, .bool r.yes, .slice r.b.va r.b.vs.length r.b.vc, .slice r.b.pa r.b.ps.length r.b.pc, .slice r.b.qa r.b.qs.length r.b.qc, .int .i64 r.b.cs, .int .i64 r.b.nx], .int .i64 L] w fun e w' => Below w.heap.size w w' ∧ ∃ q : Int, e = .returned (.int .i64 q) ∧ q ≤ 1048576 ∧ (0 ≤ q → RcFit r) := by
  have HP : Hid (RcArg w r) := hp
  have hnm := hp.nm
  unfold maxLen at hnm
  clear hp
  have BX0 : Hid (Bx (w.alloc (.cells #[.int .i64 r.k, .int .i64 r.t.t.id, .int .i64 r.t.t.st, .int .i64 r.t.t.snap, .int .i64 r.t.t.cs, .slice r.t.ra r.t.t.rs.length r.t.rc, .slice r.t.wa r.t.t.ws.length r.t.wc, .bool r.t.t.out, .string r.t.t.nm, .string r.nm, .bool r.yes, .slice r.b.va r.b.vs.length r.b.vc, .slice r.b.pa r.b.ps.length r.b.pc, .slice r.b.qa r.b.qs.length r.b.qc, .int .i64 r.b.cs, .int .i64 r.b.nx] 31)) w.heap.size [.int .i64 r.k, .int .i64 r.t.t.id, .int .i64 r.t.t.st, .int .i64 r.t.t.snap, .int .i64 r.t.t.cs, .slice r.t.ra r.t.t.rs.length r.t.rc, .slice r.t.wa r.t.t.ws.length r.t.wc, .bool r.t.t.out, .string r.t.t.nm, .string r.nm, .bool r.yes, .slice r.b.va r.b.vs.length r.b.vc, .slice r.b.pa r.b.ps.length r.b.pc, .slice r.b.qa r.b.qs.length r.b.qc, .int .i64 r.b.cs, .int .i64 r.b.nx]) := Bx.new w [.int .i64 r.k, .int .i64 r.t.t.id, .int .i64 r.t.t.st, .int .i64 r.t.t.snap, .int .i64 r.t.t.cs, .slice r.t.ra r.t.t.rs.length r.t.rc, .slice r.t.wa r.t.t.ws.length r.t.wc, .bool r.t.t.out, .string r.t.t.nm, .string r.nm, .bool r.yes, .slice r.b.va r.b.vs.length r.b.vc, .slice r.b.pa r.b.ps.length r.b.pc, .slice r.b.qa r.b.qs.length r.b.qc, .int .i64 r.b.cs, .int .i64 r.b.nx] 31
  have HB0 : Hid (Below w.heap.size w (w.alloc (.cells #[.int .i64 r.k, .int .i64 r.t.t.id, .int .i64 r.t.t.st, .int .i64 r.t.t.snap, .int .i64 r.t.t.cs, .slice r.t.ra r.t.t.rs.length r.t.rc, .slice r.t.wa r.t.t.ws.length r.t.wc, .bool r.t.t.out, .string r.t.t.nm, .string r.nm, .bool r.yes, .slice r.b.va r.b.vs.length r.b.vc, .slice r.b.pa r.b.ps.length r.b.pc, .slice r.b.qa r.b.qs.length r.b.qc, .int .i64 r.b.cs, .int .i64 r.b.nx] 31))) := (belowRefl w).alloc (Nat.le_refl _) _
  go_enter Tryz.func7, Tryz.ntmps7
  go_wp2_with fail
  refine (szT r.t.t r.t.ra r.t.wa r.t.rc r.t.wc L h0 h1 _ (HP.out.t.below HB0.out)).mono ?_
  rintro e w1 ⟨hb1, r0, rfl, hu0, hr0⟩
  have HR0 : Hid (0 ≤ r0 → TFit r.t.t) := hr0
  have HB1 : Hid (Below w.heap.size w w1) := HB0.out.trans (hb1.mono HB0.out.size)
  have BX1 : Hid (Bx w1 w.heap.size [.int .i64 r.k, .int .i64 r.t.t.id, .int .i64 r.t.t.st, .int .i64 r.t.t.snap, .int .i64 r.t.t.cs, .slice r.t.ra r.t.t.rs.length r.t.rc, .slice r.t.wa r.t.t.ws.length r.t.wc, .bool r.t.t.out, .string r.t.t.nm, .string r.nm, .bool r.yes, .slice r.b.va r.b.vs.length r.b.vc, .slice r.b.pa r.b.ps.length r.b.pc, .slice r.b.qa r.b.qs.length r.b.qc, .int .i64 r.b.cs, .int .i64 r.b.nx]) := BX0.out.below hb1
  clear hb1 hr0 BX0
  by_cases hn0 : r0 < 0
  · go_wp2
    go_ret
    exact ⟨HB1.out, -1, rfl, by omega, fun h => by omega⟩
  have x9 := BX1.out.c9
  have ew : IntKind.i64.wrap (r0 - (r.nm.size : Int)) = r0 - r.nm.size := by rw [IntKind.wrap_i64]; omega
  by_cases hn1 : r0 - (r.nm.size : Int) < 0
  · go_wp2
    go_ret
    exact ⟨HB1.out, -1, rfl, by omega, fun h => by omega⟩
  have hn2 : ¬ r0 - (r.nm.size : Int) < 0 := hn1
  have x11 := BX1.out.c11
  have x12 := BX1.out.c12
  have x13 := BX1.out.c13
  have x14 := BX1.out.c14
  have x15 := BX1.out.c15
  go_wp2_with fail
  refine (szB r.b (r0 - (r.nm.size : Int)) (by omega) (by omega) _ (HP.out.b.below HB1.out)).mono ?_
  rintro e w2 ⟨hb2, r1, rfl, hu1, hr1⟩
  have HR1 : Hid (0 ≤ r1 → BFit r.b) := hr1
  have HB2 : Hid (Below w.heap.size w w2) := HB1.out.trans (hb2.mono HB1.out.size)
  clear hb2 hr1 x9 x11 x12 x13 x14 x15 ew
  by_cases hn3 : r1 < 0
  · go_wp2
    go_ret
    exact ⟨HB2.out, -1, rfl, by omega, fun h => by omega⟩
  have HT : Hid (RcFit r) := ⟨HR0.out (by omega), by omega, HR1.out (by omega)⟩
  go_wp2
  go_ret
  exact ⟨HB2.out, _, rfl, hu1, fun _ => HT.out⟩

set_option maxRecDepth 100000 in
set_option maxHeartbeats 2000000 in
theorem eqR0 (r c : Rc) (hs : RcSame r c) (hf : RcFit r) (w : World) (hp : RcRows w r) (hq : RcRows w c) :
    Calls Tryz.prog 11 #[.agg #[.int .i64 r.k, .int .i64 r.t.t.id, .int .i64 r.t.t.st, .int .i64 r.t.t.snap, .int .i64 r.t.t.cs, .slice r.t.ra r.t.t.rs.length r.t.rc, .slice r.t.wa r.t.t.ws.length r.t.wc, .bool r.t.t.out, .string r.t.t.nm, .string r.nm, .bool r.yes, .slice r.b.va r.b.vs.length r.b.vc, .slice r.b.pa r.b.ps.length r.b.pc, .slice r.b.qa r.b.qs.length r.b.qc, .int .i64 r.b.cs, .int .i64 r.b.nx], .agg #[.int .i64 r.k, .int .i64 r.t.t.id, .int .i64 r.t.t.st, .int .i64 r.t.t.snap, .int .i64 r.t.t.cs, .slice c.t.ra r.t.t.rs.length c.t.rc, .slice c.t.wa r.t.t.ws.length c.t.wc, .bool r.t.t.out, .string r.t.t.nm, .string r.nm, .bool r.yes, .slice c.b.va r.b.vs.length c.b.vc, .slice c.b.pa r.b.ps.length c.b.pc, .slice c.b.qa r.b.qs.length c.b.qc, .int .i64 r.b.cs, .int .i64 r.b.nx]] w fun e w' => e = .returned (.bool true) ∧ Below w.heap.size w w' := by
  have HP : Hid (RcRows w r) := hp
  have HQ : Hid (RcRows w c) := hq
  have HS : Hid (RcSame r c) := hs
  have HF : Hid (RcFit r) := hf
  clear hp hq hs hf
  have n3 := ne_self_int r.k
  have n4 : (r.yes != r.yes) = false := by cases r.yes <;> rfl
  have BA0 : Hid (Bx ((w.alloc (.cells #[.int .i64 r.k, .int .i64 r.t.t.id, .int .i64 r.t.t.st, .int .i64 r.t.t.snap, .int .i64 r.t.t.cs, .slice r.t.ra r.t.t.rs.length r.t.rc, .slice r.t.wa r.t.t.ws.length r.t.wc, .bool r.t.t.out, .string r.t.t.nm, .string r.nm, .bool r.yes, .slice r.b.va r.b.vs.length r.b.vc, .slice r.b.pa r.b.ps.length r.b.pc, .slice r.b.qa r.b.qs.length r.b.qc, .int .i64 r.b.cs, .int .i64 r.b.nx] 43)).alloc (.cells #[.int .i64 r.k, .int .i64 r.t.t.id, .int .i64 r.t.t.st, .int .i64 r.t.t.snap, .int .i64 r.t.t.cs, .slice c.t.ra r.t.t.rs.length c.t.rc, .slice c.t.wa r.t.t.ws.length c.t.wc, .bool r.t.t.out, .string r.t.t.nm, .string r.nm, .bool r.yes, .slice c.b.va r.b.vs.length c.b.vc, .slice c.b.pa r.b.ps.length c.b.pc, .slice c.b.qa r.b.qs.length c.b.qc, .int .i64 r.b.cs, .int .i64 r.b.nx] 43)) w.heap.size [.int .i64 r.k, .int .i64 r.t.t.id, .int .i64 r.t.t.st, .int .i64 r.t.t.snap, .int .i64 r.t.t.cs, .slice r.t.ra r.t.t.rs.length r.t.rc, .slice r.t.wa r.t.t.ws.length r.t.wc, .bool r.t.t.out, .string r.t.t.nm, .string r.nm, .bool r.yes, .slice r.b.va r.b.vs.length r.b.vc, .slice r.b.pa r.b.ps.length r.b.pc, .slice r.b.qa r.b.qs.length r.b.qc, .int .i64 r.b.cs, .int .i64 r.b.nx]) := (Bx.new w [.int .i64 r.k, .int .i64 r.t.t.id, .int .i64 r.t.t.st, .int .i64 r.t.t.snap, .int .i64 r.t.t.cs, .slice r.t.ra r.t.t.rs.length r.t.rc, .slice r.t.wa r.t.t.ws.length r.t.wc, .bool r.t.t.out, .string r.t.t.nm, .string r.nm, .bool r.yes, .slice r.b.va r.b.vs.length r.b.vc, .slice r.b.pa r.b.ps.length r.b.pc, .slice r.b.qa r.b.qs.length r.b.qc, .int .i64 r.b.cs, .int .i64 r.b.nx] 43).alloc _
  have BB0 : Hid (Bx ((w.alloc (.cells #[.int .i64 r.k, .int .i64 r.t.t.id, .int .i64 r.t.t.st, .int .i64 r.t.t.snap, .int .i64 r.t.t.cs, .slice r.t.ra r.t.t.rs.length r.t.rc, .slice r.t.wa r.t.t.ws.length r.t.wc, .bool r.t.t.out, .string r.t.t.nm, .string r.nm, .bool r.yes, .slice r.b.va r.b.vs.length r.b.vc, .slice r.b.pa r.b.ps.length r.b.pc, .slice r.b.qa r.b.qs.length r.b.qc, .int .i64 r.b.cs, .int .i64 r.b.nx] 43)).alloc (.cells #[.int .i64 r.k, .int .i64 r.t.t.id, .int .i64 r.t.t.st, .int .i64 r.t.t.snap, .int .i64 r.t.t.cs, .slice c.t.ra r.t.t.rs.length c.t.rc, .slice c.t.wa r.t.t.ws.length c.t.wc, .bool r.t.t.out, .string r.t.t.nm, .string r.nm, .bool r.yes, .slice c.b.va r.b.vs.length c.b.vc, .slice c.b.pa r.b.ps.length c.b.pc, .slice c.b.qa r.b.qs.length c.b.qc, .int .i64 r.b.cs, .int .i64 r.b.nx] 43)) (w.heap.size + 1) [.int .i64 r.k, .int .i64 r.t.t.id, .int .i64 r.t.t.st, .int .i64 r.t.t.snap, .int .i64 r.t.t.cs, .slice c.t.ra r.t.t.rs.length c.t.rc, .slice c.t.wa r.t.t.ws.length c.t.wc, .bool r.t.t.out, .string r.t.t.nm, .string r.nm, .bool r.yes, .slice c.b.va r.b.vs.length c.b.vc, .slice c.b.pa r.b.ps.length c.b.pc, .slice c.b.qa r.b.qs.length c.b.qc, .int .i64 r.b.cs, .int .i64 r.b.nx]) := by
    have h := Bx.new (w.alloc (.cells #[.int .i64 r.k, .int .i64 r.t.t.id, .int .i64 r.t.t.st, .int .i64 r.t.t.snap, .int .i64 r.t.t.cs, .slice r.t.ra r.t.t.rs.length r.t.rc, .slice r.t.wa r.t.t.ws.length r.t.wc, .bool r.t.t.out, .string r.t.t.nm, .string r.nm, .bool r.yes, .slice r.b.va r.b.vs.length r.b.vc, .slice r.b.pa r.b.ps.length r.b.pc, .slice r.b.qa r.b.qs.length r.b.qc, .int .i64 r.b.cs, .int .i64 r.b.nx] 43)) [.int .i64 r.k, .int .i64 r.t.t.id, .int .i64 r.t.t.st, .int .i64 r.t.t.snap, .int .i64 r.t.t.cs, .slice c.t.ra r.t.t.rs.length c.t.rc, .slice c.t.wa r.t.t.ws.length c.t.wc, .bool r.t.t.out, .string r.t.t.nm, .string r.nm, .bool r.yes, .slice c.b.va r.b.vs.length c.b.vc, .slice c.b.pa r.b.ps.length c.b.pc, .slice c.b.qa r.b.qs.length c.b.qc, .int .i64 r.b.cs, .int .i64 r.b.nx] 43
    rw [World.size_alloc] at h
    exact h
  have HB0 : Hid (Below w.heap.size w ((w.alloc (.cells #[.int .i64 r.k, .int .i64 r.t.t.id, .int .i64 r.t.t.st, .int .i64 r.t.t.snap, .int .i64 r.t.t.cs, .slice r.t.ra r.t.t.rs.length r.t.rc, .slice r.t.wa r.t.t.ws.length r.t.wc, .bool r.t.t.out, .string r.t.t.nm, .string r.nm, .bool r.yes, .slice r.b.va r.b.vs.length r.b.vc, .slice r.b.pa r.b.ps.length r.b.pc, .slice r.b.qa r.b.qs.length r.b.qc, .int .i64 r.b.cs, .int .i64 r.b.nx] 43)).alloc (.cells #[.int .i64 r.k, .int .i64 r.t.t.id, .int .i64 r.t.t.st, .int .i64 r.t.t.snap, .int .i64 r.t.t.cs, .slice c.t.ra r.t.t.rs.length c.t.rc, .slice c.t.wa r.t.t.ws.length c.t.wc, .bool r.t.t.out, .string r.t.t.nm, .string r.nm, .bool r.yes, .slice c.b.va r.b.vs.length c.b.vc, .slice c.b.pa r.b.ps.length c.b.pc, .slice c.b.qa r.b.qs.length c.b.qc, .int .i64 r.b.cs, .int .i64 r.b.nx] 43))) := ((belowRefl w).alloc (Nat.le_refl _) _).alloc (by simp) _
  have CT : Hid (∀ W : World, Below w.heap.size w W → Calls Tryz.prog 33 #[.agg #[.int .i64 r.t.t.id, .int .i64 r.t.t.st, .int .i64 r.t.t.snap, .int .i64 r.t.t.cs, .slice r.t.ra r.t.t.rs.length r.t.rc, .slice r.t.wa r.t.t.ws.length r.t.wc, .bool r.t.t.out, .string r.t.t.nm], .agg #[.int .i64 r.t.t.id, .int .i64 r.t.t.st, .int .i64 r.t.t.snap, .int .i64 r.t.t.cs, .slice c.t.ra r.t.t.rs.length c.t.rc, .slice c.t.wa r.t.t.ws.length c.t.wc, .bool r.t.t.out, .string r.t.t.nm]] W fun e w' => e = .returned (.bool true) ∧ Below W.heap.size W w') := fun W h => eqT r.t.t r.t.ra r.t.wa c.t.ra c.t.wa r.t.rc r.t.wc c.t.rc c.t.wc (Nat.le_trans HF.out.t.1 (by omega)) (Nat.le_trans HF.out.t.2.2.1 (by omega)) W (HP.out.t.below h) (by have k := HQ.out.t.below h; rw [HS.out.t] at k; exact k)
  have CB : Hid (∀ W : World, Below w.heap.size w W → Calls Tryz.prog 16 #[.agg #[.slice r.b.va r.b.vs.length r.b.vc, .slice r.b.pa r.b.ps.length r.b.pc, .slice r.b.qa r.b.qs.length r.b.qc, .int .i64 r.b.cs, .int .i64 r.b.nx], .agg #[.slice c.b.va r.b.vs.length c.b.vc, .slice c.b.pa r.b.ps.length c.b.pc, .slice c.b.qa r.b.qs.length c.b.qc, .int .i64 r.b.cs, .int .i64 r.b.nx]] W fun e w' => e = .returned (.bool true) ∧ Below W.heap.size W w') := fun W h => eqB0 r.b c.b HS.out.b HF.out.b W (HP.out.b.below h) (HQ.out.b.below h)
  clear HP HQ HS HF
  go_enter Tryz.func11, Tryz.ntmps11
  go_wp2_with fail
  refine (CT.out _ HB0.out).mono ?_
  rintro e w1 ⟨rfl, hb1⟩
  have BA1 : Hid (Bx w1 w.heap.size [.int .i64 r.k, .int .i64 r.t.t.id, .int .i64 r.t.t.st, .int .i64 r.t.t.snap, .int .i64 r.t.t.cs, .slice r.t.ra r.t.t.rs.length r.t.rc, .slice r.t.wa r.t.t.ws.length r.t.wc, .bool r.t.t.out, .string r.t.t.nm, .string r.nm, .bool r.yes, .slice r.b.va r.b.vs.length r.b.vc, .slice r.b.pa r.b.ps.length r.b.pc, .slice r.b.qa r.b.qs.length r.b.qc, .int .i64 r.b.cs, .int .i64 r.b.nx]) := BA0.out.below hb1
  have BB1 : Hid (Bx w1 (w.heap.size + 1) [.int .i64 r.k, .int .i64 r.t.t.id, .int .i64 r.t.t.st, .int .i64 r.t.t.snap, .int .i64 r.t.t.cs, .slice c.t.ra r.t.t.rs.length c.t.rc, .slice c.t.wa r.t.t.ws.length c.t.wc, .bool r.t.t.out, .string r.t.t.nm, .string r.nm, .bool r.yes, .slice c.b.va r.b.vs.length c.b.vc, .slice c.b.pa r.b.ps.length c.b.pc, .slice c.b.qa r.b.qs.length c.b.qc, .int .i64 r.b.cs, .int .i64 r.b.nx]) := BB0.out.below hb1
  have HB1 : Hid (Below w.heap.size w w1) := HB0.out.trans (hb1.mono HB0.out.size)
  clear hb1 BA0 BB0 HB0
  have x9 := BA1.out.c9
  have y9 := BB1.out.c9
  have x10 := BA1.out.c10
  have y10 := BB1.out.c10
  have x11 := BA1.out.c11
  have y11 := BB1.out.c11
  have x12 := BA1.out.c12
  have y12 := BB1.out.c12
  have x13 := BA1.out.c13
  have y13 := BB1.out.c13
  have x14 := BA1.out.c14
  have y14 := BB1.out.c14
  have x15 := BA1.out.c15
  have y15 := BB1.out.c15
  go_wp2_with fail
  refine (CB.out _ HB1.out).mono ?_
  rintro e w2 ⟨rfl, hb2⟩
  have HB2 : Hid (Below w.heap.size w w2) := HB1.out.trans (hb2.mono HB1.out.size)
  clear hb2
  go_wp2
  go_ret
  exact ⟨rfl, HB2.out⟩

theorem eqR (r c : Rc) (hs : RcSame r c) (hf : RcFit r) (w : World) (hp : RcRows w r) (hq : RcRows w c) :
    Calls Tryz.prog 11 #[.agg #[.int .i64 r.k, .int .i64 r.t.t.id, .int .i64 r.t.t.st, .int .i64 r.t.t.snap, .int .i64 r.t.t.cs, .slice r.t.ra r.t.t.rs.length r.t.rc, .slice r.t.wa r.t.t.ws.length r.t.wc, .bool r.t.t.out, .string r.t.t.nm, .string r.nm, .bool r.yes, .slice r.b.va r.b.vs.length r.b.vc, .slice r.b.pa r.b.ps.length r.b.pc, .slice r.b.qa r.b.qs.length r.b.qc, .int .i64 r.b.cs, .int .i64 r.b.nx], .agg #[.int .i64 c.k, .int .i64 c.t.t.id, .int .i64 c.t.t.st, .int .i64 c.t.t.snap, .int .i64 c.t.t.cs, .slice c.t.ra c.t.t.rs.length c.t.rc, .slice c.t.wa c.t.t.ws.length c.t.wc, .bool c.t.t.out, .string c.t.t.nm, .string c.nm, .bool c.yes, .slice c.b.va c.b.vs.length c.b.vc, .slice c.b.pa c.b.ps.length c.b.pc, .slice c.b.qa c.b.qs.length c.b.qc, .int .i64 c.b.cs, .int .i64 c.b.nx]] w fun e w' => e = .returned (.bool true) ∧ Below w.heap.size w w' := by
  have h := eqR0 r c hs hf w hp hq
  rw [← hs.k, ← hs.nm, ← hs.yes, ← hs.b.cs, ← hs.b.nx] at h
  rw [← hs.k, ← hs.nm, ← hs.yes, ← hs.b.cs, ← hs.b.nx]
  have e1 := hs.t
  rw [← hs.b.vl, ← hs.b.pl, ← hs.b.ql] at h
  rw [← hs.b.vl, ← hs.b.pl, ← hs.b.ql]
  rw [← hs.t] at h ⊢
  exact h

end Go.Proofs.YtpnnncfbodfnhaaGreat

namespace Go.Proofs.YtpnnncfbodfnhaaGreat
open Go.RowKit
open KM
attribute [local go_sem ↓] Go.wp_at_zero Go.wp_at_succ

/-- nothing at all: one that looks and changes -/
def noT (t : Tx) : Bool := decide (t.id = 0) && decide (t.st = 0) && decide (t.snap = 0) && decide (t.cs = 0) && !t.out && t.nm.toList.isEmpty && decide (t.rs.length = 0) && decide (t.ws.length = 0)
/-- nothing at all: a base -/
def noB (b : Bb) : Bool := decide (b.cs = 0) && decide (b.nx = 0) && decide (b.vs.length = 0) && decide (b.ps.length = 0) && decide (b.qs.length = 0)
theorem len0 {α : Type} (l : List α) : ((l.length : Int) == 0) = decide (l.length = 0) := by
  rw [Bool.eq_iff_iff]; simp

set_option maxRecDepth 100000 in
set_option maxHeartbeats 2000000 in
theorem inoT (t : Tx) (ra wa : Option Addr) (rc wc : Nat) (w : World) : Calls Tryz.prog 72 #[.agg #[.int .i64 t.id, .int .i64 t.st, .int .i64 t.snap, .int .i64 t.cs, .slice ra t.rs.length rc, .slice wa t.ws.length wc, .bool t.out, .string t.nm]] w fun e w' => e = .returned (.bool (noT t)) ∧ Below w.heap.size w w' := by
  by_cases c0 : t.id = 0
  rotate_left
  · have d0 : (t.id == 0) = false := by simp [c0]
    have f0 : (t.id != 0) = true := by simp [c0]
    have HN : Hid (noT t = false) := by show _ = _; unfold noT; simp [c0]
    clear c0
    go_enter Tryz.func72, Tryz.ntmps72
    go_wp2
    go_ret
    exact ⟨ret_bool HN.out.symm, (belowRefl w).alloc (Nat.le_refl _) _⟩
  have d0 : (t.id == 0) = true := by simp [c0]
  have f0 : (t.id != 0) = false := by simp [c0]
  by_cases c1 : t.st = 0
  rotate_left
  · have d1 : (t.st == 0) = false := by simp [c1]
    have f1 : (t.st != 0) = true := by simp [c1]
    have HN : Hid (noT t = false) := by show _ = _; unfold noT; simp [c0, c1]
    clear c0 c1
    go_enter Tryz.func72, Tryz.ntmps72
    go_wp2
    go_ret
    exact ⟨ret_bool HN.out.symm, (belowRefl w).alloc (Nat.le_refl _) _⟩
  have d1 : (t.st == 0) = true := by simp [c1]
  have f1 : (t.st != 0) = false := by simp [c1]
  by_cases c2 : t.snap = 0
  rotate_left
  · have d2 : (t.snap == 0) = false := by simp [c2]
    have f2 : (t.snap != 0) = true := by simp [c2]
    have HN : Hid (noT t = false) := by show _ = _; unfold noT; simp [c0, c1, c2]
    clear c0 c1 c2
    go_enter Tryz.func72, Tryz.ntmps72
    go_wp2
    go_ret
    exact ⟨ret_bool HN.out.symm, (belowRefl w).alloc (Nat.le_refl _) _⟩
  have d2 : (t.snap == 0) = true := by simp [c2]
  have f2 : (t.snap != 0) = false := by simp [c2]
  by_cases c3 : t.cs = 0
  rotate_left
  · have d3 : (t.cs == 0) = false := by simp [c3]
    have f3 : (t.cs != 0) = true := by simp [c3]
    have HN : Hid (noT t = false) := by show _ = _; unfold noT; simp [c0, c1, c2, c3]
    clear c0 c1 c2 c3
    go_enter Tryz.func72, Tryz.ntmps72
    go_wp2
    go_ret
    exact ⟨ret_bool HN.out.symm, (belowRefl w).alloc (Nat.le_refl _) _⟩
  have d3 : (t.cs == 0) = true := by simp [c3]
  have f3 : (t.cs != 0) = false := by simp [c3]
  cases h4 : t.out
  rotate_left
  · have HN : Hid (noT t = false) := by show _ = _; unfold noT; simp [c0, c1, c2, c3, h4]
    clear c0 c1 c2 c3
    go_enter Tryz.func72, Tryz.ntmps72
    go_wp2
    go_ret
    exact ⟨ret_bool HN.out.symm, (belowRefl w).alloc (Nat.le_refl _) _⟩
  cases h5 : t.nm.toList.isEmpty
  · have HN : Hid (noT t = false) := by show _ = _; unfold noT; simp [c0, c1, c2, c3, h4, h5]
    clear c0 c1 c2 c3
    go_enter Tryz.func72, Tryz.ntmps72
    go_wp2
    go_ret
    exact ⟨ret_bool HN.out.symm, (belowRefl w).alloc (Nat.le_refl _) _⟩
  by_cases c6 : t.rs.length = 0
  rotate_left
  · have d6 : ((t.rs.length : Int) == 0) = false := by simp [c6]
    have HN : Hid (noT t = false) := by show _ = _; unfold noT; simp [c0, c1, c2, c3, h4, h5, c6]
    clear c0 c1 c2 c3 c6
    go_enter Tryz.func72, Tryz.ntmps72
    go_wp2
    go_ret
    exact ⟨ret_bool HN.out.symm, (belowRefl w).alloc (Nat.le_refl _) _⟩
  have d6 : ((t.rs.length : Int) == 0) = true := by simp [c6]
  by_cases c7 : t.ws.length = 0
  rotate_left
  · have d7 : ((t.ws.length : Int) == 0) = false := by simp [c7]
    have HN : Hid (noT t = false) := by show _ = _; unfold noT; simp [c0, c1, c2, c3, h4, h5, c6, c7]
    clear c0 c1 c2 c3 c6 c7
    go_enter Tryz.func72, Tryz.ntmps72
    go_wp2
    go_ret
    exact ⟨ret_bool HN.out.symm, (belowRefl w).alloc (Nat.le_refl _) _⟩
  have d7 : ((t.ws.length : Int) == 0) = true := by simp [c7]
  have HN : Hid (noT t = true) := by show _ = _; unfold noT; simp [c0, c1, c2, c3, h4, h5, c6, c7]
  clear c0 c1 c2 c3 c6 c7
  go_enter Tryz.func72, Tryz.ntmps72
  go_wp2
  go_ret
  exact ⟨ret_bool HN.out.symm, (belowRefl w).alloc (Nat.le_refl _) _⟩

set_option maxRecDepth 100000 in
set_option maxHeartbeats 2000000 in
theorem snoT (t : Tx) (ra wa : Option Addr) (rc wc : Nat) (w : World) : Calls Tryz.prog 27 #[.agg #[.int .i64 t.id, .int .i64 t.st, .int .i64 t.snap, .int .i64 t.cs, .slice ra t.rs.length rc, .slice wa t.ws.length wc, .bool t.out, .string t.nm]] w fun e w' => e = .returned (.bool (noT t)) ∧ Below w.heap.size w w' := by
  by_cases c0 : t.id = 0
  rotate_left
  · have d0 : (t.id == 0) = false := by simp [c0]
    have f0 : (t.id != 0) = true := by simp [c0]
    have HN : Hid (noT t = false) := by show _ = _; unfold noT; simp [c0]
    clear c0
    go_enter Tryz.func27, Tryz.ntmps27
    go_wp2
    go_ret
    exact ⟨ret_bool HN.out.symm, (belowRefl w).alloc (Nat.le_refl _) _⟩
  have d0 : (t.id == 0) = true := by simp [c0]
  have f0 : (t.id != 0) = false := by simp [c0]
  by_cases c1 : t.st = 0
  rotate_left
  · have d1 : (t.st == 0) = false := by simp [c1]
    have f1 : (t.st != 0) = true := by simp [c1]
    have HN : Hid (noT t = false) := by show _ = _; unfold noT; simp [c0, c1]
    clear c0 c1
    go_enter Tryz.func27, Tryz.ntmps27
    go_wp2
    go_ret
    exact ⟨ret_bool HN.out.symm, (belowRefl w).alloc (Nat.le_refl _) _⟩
  have d1 : (t.st == 0) = true := by simp [c1]
  have f1 : (t.st != 0) = false := by simp [c1]
  by_cases c2 : t.snap = 0
  rotate_left
  · have d2 : (t.snap == 0) = false := by simp [c2]
    have f2 : (t.snap != 0) = true := by simp [c2]
    have HN : Hid (noT t = false) := by show _ = _; unfold noT; simp [c0, c1, c2]
    clear c0 c1 c2
    go_enter Tryz.func27, Tryz.ntmps27
    go_wp2
    go_ret
    exact ⟨ret_bool HN.out.symm, (belowRefl w).alloc (Nat.le_refl _) _⟩
  have d2 : (t.snap == 0) = true := by simp [c2]
  have f2 : (t.snap != 0) = false := by simp [c2]
  by_cases c3 : t.cs = 0
  rotate_left
  · have d3 : (t.cs == 0) = false := by simp [c3]
    have f3 : (t.cs != 0) = true := by simp [c3]
    have HN : Hid (noT t = false) := by show _ = _; unfold noT; simp [c0, c1, c2, c3]
    clear c0 c1 c2 c3
    go_enter Tryz.func27, Tryz.ntmps27
    go_wp2
    go_ret
    exact ⟨ret_bool HN.out.symm, (belowRefl w).alloc (Nat.le_refl _) _⟩
  have d3 : (t.cs == 0) = true := by simp [c3]
  have f3 : (t.cs != 0) = false := by simp [c3]
  by_cases c4 : t.rs.length = 0
  rotate_left
  · have d4 : ((t.rs.length : Int) == 0) = false := by simp [c4]
    have HN : Hid (noT t = false) := by show _ = _; unfold noT; simp [c0, c1, c2, c3, c4]
    clear c0 c1 c2 c3 c4
    go_enter Tryz.func27, Tryz.ntmps27
    go_wp2
    go_ret
    exact ⟨ret_bool HN.out.symm, (belowRefl w).alloc (Nat.le_refl _) _⟩
  have d4 : ((t.rs.length : Int) == 0) = true := by simp [c4]
  by_cases c5 : t.ws.length = 0
  rotate_left
  · have d5 : ((t.ws.length : Int) == 0) = false := by simp [c5]
    have HN : Hid (noT t = false) := by show _ = _; unfold noT; simp [c0, c1, c2, c3, c4, c5]
    clear c0 c1 c2 c3 c4 c5
    go_enter Tryz.func27, Tryz.ntmps27
    go_wp2
    go_ret
    exact ⟨ret_bool HN.out.symm, (belowRefl w).alloc (Nat.le_refl _) _⟩
  have d5 : ((t.ws.length : Int) == 0) = true := by simp [c5]
  cases h6 : t.out
  rotate_left
  · have HN : Hid (noT t = false) := by show _ = _; unfold noT; simp [c0, c1, c2, c3, c4, c5, h6]
    clear c0 c1 c2 c3 c4 c5
    go_enter Tryz.func27, Tryz.ntmps27
    go_wp2
    go_ret
    exact ⟨ret_bool HN.out.symm, (belowRefl w).alloc (Nat.le_refl _) _⟩
  cases h7 : t.nm.toList.isEmpty
  · have HN : Hid (noT t = false) := by show _ = _; unfold noT; simp [c0, c1, c2, c3, c4, c5, h6, h7]
    clear c0 c1 c2 c3 c4 c5
    go_enter Tryz.func27, Tryz.ntmps27
    go_wp2
    go_ret
    exact ⟨ret_bool HN.out.symm, (belowRefl w).alloc (Nat.le_refl _) _⟩
  have HN : Hid (noT t = true) := by show _ = _; unfold noT; simp [c0, c1, c2, c3, c4, c5, h6, h7]
  clear c0 c1 c2 c3 c4 c5
  go_enter Tryz.func27, Tryz.ntmps27
  go_wp2
  go_ret
  exact ⟨ret_bool HN.out.symm, (belowRefl w).alloc (Nat.le_refl _) _⟩

set_option maxRecDepth 100000 in
set_option maxHeartbeats 2000000 in
theorem inoB (b : Bb) (w : World) : Calls Tryz.prog 73 #[.agg #[.slice b.va b.vs.length b.vc, .slice b.pa b.ps.length b.pc, .slice b.qa b.qs.length b.qc, .int .i64 b.cs, .int .i64 b.nx]] w fun e w' => e = .returned (.bool (noB b)) ∧ Below w.heap.size w w' := by
  by_cases c0 : b.vs.length = 0
  rotate_left
  · have d0 : ((b.vs.length : Int) == 0) = false := by simp [c0]
    have HN : Hid (noB b = false) := by show _ = _; unfold noB; simp [c0]
    clear c0
    go_enter Tryz.func73, Tryz.ntmps73
    go_wp2
    go_ret
    exact ⟨ret_bool HN.out.symm, (belowRefl w).alloc (Nat.le_refl _) _⟩
  have d0 : ((b.vs.length : Int) == 0) = true := by simp [c0]
  by_cases c1 : b.ps.length = 0
  rotate_left
  · have d1 : ((b.ps.length : Int) == 0) = false := by simp [c1]
    have HN : Hid (noB b = false) := by show _ = _; unfold noB; simp [c0, c1]
    clear c0 c1
    go_enter Tryz.func73, Tryz.ntmps73
    go_wp2
    go_ret
    exact ⟨ret_bool HN.out.symm, (belowRefl w).alloc (Nat.le_refl _) _⟩
  have d1 : ((b.ps.length : Int) == 0) = true := by simp [c1]
  by_cases c2 : b.qs.length = 0
  rotate_left
  · have d2 : ((b.qs.length : Int) == 0) = false := by simp [c2]
    have HN : Hid (noB b = false) := by show _ = _; unfold noB; simp [c0, c1, c2]
    clear c0 c1 c2
    go_enter Tryz.func73, Tryz.ntmps73
    go_wp2
    go_ret
    exact ⟨ret_bool HN.out.symm, (belowRefl w).alloc (Nat.le_refl _) _⟩
  have d2 : ((b.qs.length : Int) == 0) = true := by simp [c2]
  by_cases c3 : b.cs = 0
  rotate_left
  · have d3 : (b.cs == 0) = false := by simp [c3]
    have f3 : (b.cs != 0) = true := by simp [c3]
    have HN : Hid (noB b = false) := by show _ = _; unfold noB; simp [c0, c1, c2, c3]
    clear c0 c1 c2 c3
    go_enter Tryz.func73, Tryz.ntmps73
    go_wp2
    go_ret
    exact ⟨ret_bool HN.out.symm, (belowRefl w).alloc (Nat.le_refl _) _⟩
  have d3 : (b.cs == 0) = true := by simp [c3]
  have f3 : (b.cs != 0) = false := by simp [c3]
  by_cases c4 : b.nx = 0
  rotate_left
  · have d4 : (b.nx == 0) = false := by simp [c4]
    have f4 : (b.nx != 0) = true := by simp [c4]
    have HN : Hid (noB b = false) := by show _ = _; unfold noB; simp [c0, c1, c2, c3, c4]
    clear c0 c1 c2 c3 c4
    go_enter Tryz.func73, Tryz.ntmps73
    go_wp2
    go_ret
    exact ⟨ret_bool HN.out.symm, (belowRefl w).alloc (Nat.le_refl _) _⟩
  have d4 : (b.nx == 0) = true := by simp [c4]
  have f4 : (b.nx != 0) = false := by simp [c4]
  have HN : Hid (noB b = true) := by show _ = _; unfold noB; simp [c0, c1, c2, c3, c4]
  clear c0 c1 c2 c3 c4
  go_enter Tryz.func73, Tryz.ntmps73
  go_wp2
  go_ret
  exact ⟨ret_bool HN.out.symm, (belowRefl w).alloc (Nat.le_refl _) _⟩

set_option maxRecDepth 100000 in
set_option maxHeartbeats 2000000 in
theorem snoB (b : Bb) (w : World) : Calls Tryz.prog 30 #[.agg #[.slice b.va b.vs.length b.vc, .slice b.pa b.ps.length b.pc, .slice b.qa b.qs.length b.qc, .int .i64 b.cs, .int .i64 b.nx]] w fun e w' => e = .returned (.bool (noB b)) ∧ Below w.heap.size w w' := by
  by_cases c0 : b.cs = 0
  rotate_left
  · have d0 : (b.cs == 0) = false := by simp [c0]
    have f0 : (b.cs != 0) = true := by simp [c0]
    have HN : Hid (noB b = false) := by show _ = _; unfold noB; simp [c0]
    clear c0
    go_enter Tryz.func30, Tryz.ntmps30
    go_wp2
    go_ret
    exact ⟨ret_bool HN.out.symm, (belowRefl w).alloc (Nat.le_refl _) _⟩
  have d0 : (b.cs == 0) = true := by simp [c0]
  have f0 : (b.cs != 0) = false := by simp [c0]
  by_cases c1 : b.nx = 0
  rotate_left
  · have d1 : (b.nx == 0) = false := by simp [c1]
    have f1 : (b.nx != 0) = true := by simp [c1]
    have HN : Hid (noB b = false) := by show _ = _; unfold noB; simp [c0, c1]
    clear c0 c1
    go_enter Tryz.func30, Tryz.ntmps30
    go_wp2
    go_ret
    exact ⟨ret_bool HN.out.symm, (belowRefl w).alloc (Nat.le_refl _) _⟩
  have d1 : (b.nx == 0) = true := by simp [c1]
  have f1 : (b.nx != 0) = false := by simp [c1]
  by_cases c2 : b.vs.length = 0
  rotate_left
  · have d2 : ((b.vs.length : Int) == 0) = false := by simp [c2]
    have HN : Hid (noB b = false) := by show _ = _; unfold noB; simp [c0, c1, c2]
    clear c0 c1 c2
    go_enter Tryz.func30, Tryz.ntmps30
    go_wp2
    go_ret
    exact ⟨ret_bool HN.out.symm, (belowRefl w).alloc (Nat.le_refl _) _⟩
  have d2 : ((b.vs.length : Int) == 0) = true := by simp [c2]
  by_cases c3 : b.ps.length = 0
  rotate_left
  · have d3 : ((b.ps.length : Int) == 0) = false := by simp [c3]
    have HN : Hid (noB b = false) := by show _ = _; unfold noB; simp [c0, c1, c2, c3]
    clear c0 c1 c2 c3
    go_enter Tryz.func30, Tryz.ntmps30
    go_wp2
    go_ret
    exact ⟨ret_bool HN.out.symm, (belowRefl w).alloc (Nat.le_refl _) _⟩
  have d3 : ((b.ps.length : Int) == 0) = true := by simp [c3]
  by_cases c4 : b.qs.length = 0
  rotate_left
  · have d4 : ((b.qs.length : Int) == 0) = false := by simp [c4]
    have HN : Hid (noB b = false) := by show _ = _; unfold noB; simp [c0, c1, c2, c3, c4]
    clear c0 c1 c2 c3 c4
    go_enter Tryz.func30, Tryz.ntmps30
    go_wp2
    go_ret
    exact ⟨ret_bool HN.out.symm, (belowRefl w).alloc (Nat.le_refl _) _⟩
  have d4 : ((b.qs.length : Int) == 0) = true := by simp [c4]
  have HN : Hid (noB b = true) := by show _ = _; unfold noB; simp [c0, c1, c2, c3, c4]
  clear c0 c1 c2 c3 c4
  go_enter Tryz.func30, Tryz.ntmps30
  go_wp2
  go_ret
  exact ⟨ret_bool HN.out.symm, (belowRefl w).alloc (Nat.le_refl _) _⟩


end Go.Proofs.YtpnnncfbodfnhaaGreat

/- The laws FnExactKeyOk, RangeOk, InRange and WriteOk, walked. -/
import Derived.Test.YthlfddbijlfgeaaK1
namespace Go.Proofs.Ythlfddbijlfgeaa
open Go.RowKit
open KM
attribute [local go_sem ↓] Go.wp_at_zero Go.wp_at_succ

theorem bne_self' (b : Bool) : (b != b) = false := by cases b <;> rfl

set_option maxRecDepth 100000 in
set_option maxHeartbeats 1000000 in
theorem law5 (s : ByteArray) (_hs : s.size ≤ maxLen) (w : World) : Calls Try.prog 5 #[.string s] w fun e w' => e = .returned (.bool true) ∧ Below w.heap.size w w' := by
  by_cases hbig : 1048576 < s.size
  · have hbig' : (1048576 : Int) < (s.size : Int) := by omega
    go_enter Try.func5, Try.ntmps5
    go_wp2
    go_ret
    exact ⟨rfl, belowRefl w⟩
  have hbig' : ¬ (1048576 : Int) < (s.size : Int) := by omega
  have C1 : Hid (∀ w, Calls Try.prog 26 #[.string s] w fun e w' => e = .returned (.bool (keyB s)) ∧ w' = w) := fun w => skey s (by omega) w
  have C2 : Hid (∀ w, Calls Try.prog 25 #[.string s] w fun e w' => e = .returned (.bool (keyB s)) ∧ w' = w) := fun w => ikey s w
  have hb := bne_self' (keyB s)
  go_enter Try.func5, Try.ntmps5
  go_wp2_with (first | (go_at_call 26; refine (C1.out _).mono ?_; rintro e w2 ⟨rfl, rfl⟩) | (go_at_call 25; refine (C2.out _).mono ?_; rintro e w2 ⟨rfl, rfl⟩))
  go_ret
  exact ⟨rfl, belowRefl _⟩

/-- what szRange, szWrite leave: a number below 0, or the two texts fit -/
def Room (a b : ByteArray) (left r : Int) : Prop := r < 0 ∨ (0 ≤ r ∧ r ≤ left ∧ (a.size : Int) + b.size + r = left)

set_option maxRecDepth 100000 in
set_option maxHeartbeats 1000000 in
theorem szr (f t : ByteArray) (left : Int) (h0 : 0 ≤ left) (hl : left ≤ 1048576) (hf : f.size ≤ maxLen) (ht : t.size ≤ maxLen) (w : World) :
    Calls Try.prog 37 #[.agg #[.string f, .string t], .int .i64 left] w fun e w' => ∃ r : Int, e = .returned (.int .i64 r) ∧ Room f t left r ∧ Below w.heap.size w w' := by
  unfold maxLen at hf ht
  have e1 : IntKind.i64.wrap (left - (f.size : Int)) = left - f.size := by rw [IntKind.wrap_i64]; omega
  by_cases h1 : left - (f.size : Int) < 0
  · go_enter Try.func37, Try.ntmps37
    go_wp2
    go_ret
    exact ⟨_, rfl, Or.inl (by omega), (belowRefl w).alloc (Nat.le_refl _) _⟩
  have h1' : ¬ left - (f.size : Int) < 0 := h1
  have e2 : IntKind.i64.wrap (left - (f.size : Int) - (t.size : Int)) = left - f.size - t.size := by rw [IntKind.wrap_i64]; omega
  by_cases h2 : left - (f.size : Int) - (t.size : Int) < 0
  · go_enter Try.func37, Try.ntmps37
    go_wp2
    go_ret
    exact ⟨_, rfl, Or.inl (by omega), (belowRefl w).alloc (Nat.le_refl _) _⟩
  · have h2' : ¬ left - (f.size : Int) - (t.size : Int) < 0 := h2
    go_enter Try.func37, Try.ntmps37
    go_wp2
    go_ret
    exact ⟨_, rfl, Or.inr ⟨by omega, by omega, by omega⟩, (belowRefl w).alloc (Nat.le_refl _) _⟩

set_option maxRecDepth 100000 in
set_option maxHeartbeats 1000000 in
theorem szw (f t : ByteArray) (g : Bool) (left : Int) (h0 : 0 ≤ left) (hl : left ≤ 1048576) (hf : f.size ≤ maxLen) (ht : t.size ≤ maxLen) (w : World) :
    Calls Try.prog 40 #[.agg #[.string f, .string t, .bool g], .int .i64 left] w fun e w' => ∃ r : Int, e = .returned (.int .i64 r) ∧ Room f t left r ∧ Below w.heap.size w w' := by
  unfold maxLen at hf ht
  have e1 : IntKind.i64.wrap (left - (f.size : Int)) = left - f.size := by rw [IntKind.wrap_i64]; omega
  by_cases h1 : left - (f.size : Int) < 0
  · go_enter Try.func40, Try.ntmps40
    go_wp2
    go_ret
    exact ⟨_, rfl, Or.inl (by omega), (belowRefl w).alloc (Nat.le_refl _) _⟩
  have h1' : ¬ left - (f.size : Int) < 0 := h1
  have e2 : IntKind.i64.wrap (left - (f.size : Int) - (t.size : Int)) = left - f.size - t.size := by rw [IntKind.wrap_i64]; omega
  by_cases h2 : left - (f.size : Int) - (t.size : Int) < 0
  · go_enter Try.func40, Try.ntmps40
    go_wp2
    go_ret
    exact ⟨_, rfl, Or.inl (by omega), (belowRefl w).alloc (Nat.le_refl _) _⟩
  · have h2' : ¬ left - (f.size : Int) - (t.size : Int) < 0 := h2
    go_enter Try.func40, Try.ntmps40
    go_wp2
    go_ret
    exact ⟨_, rfl, Or.inr ⟨by omega, by omega, by omega⟩, (belowRefl w).alloc (Nat.le_refl _) _⟩

set_option maxHeartbeats 400000 in
theorem tor (f t : ByteArray) (w : World) :
    Calls Try.prog 38 #[.agg #[.string f, .string t]] w fun e w' => e = .returned (.agg #[.string f, .string t]) ∧ Below w.heap.size w w' := by
  go_enter Try.func38, Try.ntmps38
  go_wp2
  exact bodyPost_ret (v := .agg #[.string f, .string t]) (by simp [results, Try.results38, go_sem]) rfl ⟨rfl, (((belowRefl w).alloc (Nat.le_refl _) _).alloc (by simp) _).alloc (by simp; omega) _⟩

set_option maxHeartbeats 400000 in
theorem tow (f t : ByteArray) (g : Bool) (w : World) :
    Calls Try.prog 41 #[.agg #[.string f, .string t, .bool g]] w fun e w' => e = .returned (.agg #[.string f, .string t, .bool g]) ∧ Below w.heap.size w w' := by
  go_enter Try.func41, Try.ntmps41
  go_wp2
  exact bodyPost_ret (v := .agg #[.string f, .string t, .bool g]) (by simp [results, Try.results41, go_sem]) rfl ⟨rfl, (((belowRefl w).alloc (Nat.le_refl _) _).alloc (by simp) _).alloc (by simp; omega) _⟩

/-- block b bears the cells cs -/
structure Box (w : World) (b : Nat) (cs : List Value) : Prop where
  lt : b < w.heap.size
  at' : ∀ j, j < cs.length → w.cell? ⟨b, j, none⟩ = cs[j]?
theorem Box.below {w w' : World} {b : Nat} {cs : List Value} (h : Box w b cs) (hb : Below w.heap.size w w') : Box w' b cs :=
  ⟨Nat.lt_of_lt_of_le h.lt hb.size, fun j hj => (hb.cell (p := ⟨b, j, none⟩) h.lt).trans (h.at' j hj)⟩
theorem Box.new (w : World) (cs : List Value) (T : Nat) : Box (w.alloc (.cells cs.toArray T)) w.heap.size cs :=
  ⟨by simp, fun j hj => (World.cell?_alloc_mark w _ T (0, 0) j).trans (by simp)⟩
theorem Box.c0 {w : World} {b : Nat} {x : Value} {r : List Value} (h : Box w b (x :: r)) : w.cell? ⟨b, 0, none⟩ = some x := h.at' 0 (by simp)
theorem Box.c1 {w : World} {b : Nat} {x y : Value} {r : List Value} (h : Box w b (x :: y :: r)) : w.cell? ⟨b, 1, none⟩ = some y := h.at' 1 (by simp)
theorem Box.c2 {w : World} {b : Nat} {x y z : Value} {r : List Value} (h : Box w b (x :: y :: z :: r)) : w.cell? ⟨b, 2, none⟩ = some z := h.at' 2 (by simp)


set_option maxRecDepth 100000 in
set_option maxHeartbeats 1000000 in
theorem law6 (f t : ByteArray) (hf : f.size ≤ maxLen) (ht : t.size ≤ maxLen) (w : World) : Calls Try.prog 6 #[.agg #[.string f, .string t]] w fun e w' => e = .returned (.bool true) ∧ Below w.heap.size w w' := by
  have B0 : Hid (Box (w.alloc (.cells #[.string f, .string t] 50)) w.heap.size [.string f, .string t]) := Box.new w [.string f, .string t] 50
  have HB0 : Hid (Below w.heap.size w (w.alloc (.cells #[.string f, .string t] 50))) := (belowRefl w).alloc (Nat.le_refl _) _
  have hbn := bne_self' (rangeB (f, t))
  go_enter Try.func6, Try.ntmps6
  go_wp2_with fail
  refine (szr f t _ (by omega) (by omega) hf ht _).mono ?_
  rintro e w1 ⟨r, rfl, hr, hb1⟩
  have B1 : Hid (Box w1 w.heap.size [.string f, .string t]) := B0.out.below hb1
  have HB1 : Hid (Below w.heap.size w w1) := HB0.out.trans (hb1.mono HB0.out.size)
  clear hb1
  by_cases hn : r < 0
  · clear hr
    go_wp2
    go_ret
    exact ⟨rfl, HB1.out⟩
  have hn' : ¬ r < 0 := hn
  have HF : Hid (f.size ≤ 1048576 ∧ t.size ≤ 1048576) := by
    rcases hr with hr | ⟨h1, h2, h3⟩
    · omega
    · exact ⟨by omega, by omega⟩
  clear hr hn
  have c0 := B1.out.c0
  have c1 := B1.out.c1
  go_wp2_with fail
  refine (tor f t _).mono ?_
  rintro e w2 ⟨rfl, hb2⟩
  have B2 : Hid (Box w2 w.heap.size [.string f, .string t]) := B1.out.below hb2
  have HB2 : Hid (Below w.heap.size w w2) := HB1.out.trans (hb2.mono HB1.out.size)
  clear hb2 c0 c1
  go_wp2_with fail
  refine (srange f t HF.out.1 HF.out.2 _).mono ?_
  rintro e w3 ⟨rfl, hb3⟩
  have B3 : Hid (Box w3 w.heap.size [.string f, .string t]) := B2.out.below hb3
  have HB3 : Hid (Below w.heap.size w w3) := HB2.out.trans (hb3.mono HB2.out.size)
  clear hb3
  have c0 := B3.out.c0
  have c1 := B3.out.c1
  go_wp2_with fail
  refine (tor f t _).mono ?_
  rintro e w4 ⟨rfl, hb4⟩
  have HB4 : Hid (Below w.heap.size w w4) := HB3.out.trans (hb4.mono HB3.out.size)
  clear hb4 c0 c1
  go_wp2_with fail
  refine (irange f t _).mono ?_
  rintro e w5 ⟨rfl, hb5⟩
  have HB5 : Hid (Below w.heap.size w w5) := HB4.out.trans (hb5.mono HB4.out.size)
  clear hb5
  go_wp2
  go_ret
  exact ⟨rfl, HB5.out⟩

set_option maxRecDepth 100000 in
set_option maxHeartbeats 1000000 in
theorem law7 (f t k : ByteArray) (hf : f.size ≤ maxLen) (ht : t.size ≤ maxLen) (_hk : k.size ≤ maxLen) (w : World) : Calls Try.prog 7 #[.agg #[.string f, .string t], .string k] w fun e w' => e = .returned (.bool true) ∧ Below w.heap.size w w' := by
  by_cases hbig : 1048576 < k.size
  · have hbig' : (1048576 : Int) < (k.size : Int) := by omega
    go_enter Try.func7, Try.ntmps7
    go_wp2
    go_ret
    exact ⟨rfl, (belowRefl w).alloc (Nat.le_refl _) _⟩
  have hbig' : ¬ (1048576 : Int) < (k.size : Int) := by omega
  have B0 : Hid (Box (w.alloc (.cells #[.string f, .string t] 50)) w.heap.size [.string f, .string t]) := Box.new w [.string f, .string t] 50
  have HB0 : Hid (Below w.heap.size w (w.alloc (.cells #[.string f, .string t] 50))) := (belowRefl w).alloc (Nat.le_refl _) _
  have hbn := bne_self' (inB (f, t) k)
  go_enter Try.func7, Try.ntmps7
  go_wp2_with fail
  refine (szr f t _ (by omega) (by omega) hf ht _).mono ?_
  rintro e w1 ⟨r, rfl, hr, hb1⟩
  have B1 : Hid (Box w1 w.heap.size [.string f, .string t]) := B0.out.below hb1
  have HB1 : Hid (Below w.heap.size w w1) := HB0.out.trans (hb1.mono HB0.out.size)
  clear hb1
  by_cases hn : r < 0
  · clear hr
    go_wp2
    go_ret
    exact ⟨rfl, HB1.out⟩
  have hn' : ¬ r < 0 := hn
  have HF : Hid (f.size ≤ 1048576 ∧ t.size ≤ 1048576) := by
    rcases hr with hr | ⟨h1, h2, h3⟩
    · omega
    · exact ⟨by omega, by omega⟩
  clear hr hn
  have c0 := B1.out.c0
  have c1 := B1.out.c1
  go_wp2_with fail
  refine (tor f t _).mono ?_
  rintro e w2 ⟨rfl, hb2⟩
  have B2 : Hid (Box w2 w.heap.size [.string f, .string t]) := B1.out.below hb2
  have HB2 : Hid (Below w.heap.size w w2) := HB1.out.trans (hb2.mono HB1.out.size)
  clear hb2 c0 c1
  go_wp2_with fail
  refine (sin f t k _).mono ?_
  rintro e w3 ⟨rfl, hb3⟩
  have B3 : Hid (Box w3 w.heap.size [.string f, .string t]) := B2.out.below hb3
  have HB3 : Hid (Below w.heap.size w w3) := HB2.out.trans (hb3.mono HB2.out.size)
  clear hb3
  have c0 := B3.out.c0
  have c1 := B3.out.c1
  go_wp2_with fail
  refine (tor f t _).mono ?_
  rintro e w4 ⟨rfl, hb4⟩
  have HB4 : Hid (Below w.heap.size w w4) := HB3.out.trans (hb4.mono HB3.out.size)
  clear hb4 c0 c1
  go_wp2_with fail
  refine (iin f t k _).mono ?_
  rintro e w5 ⟨rfl, hb5⟩
  have HB5 : Hid (Below w.heap.size w w5) := HB4.out.trans (hb5.mono HB4.out.size)
  clear hb5
  go_wp2
  go_ret
  exact ⟨rfl, HB5.out⟩

set_option maxRecDepth 100000 in
set_option maxHeartbeats 1000000 in
theorem law8 (f t : ByteArray) (g : Bool) (hf : f.size ≤ maxLen) (ht : t.size ≤ maxLen) (w : World) : Calls Try.prog 8 #[.agg #[.string f, .string t, .bool g]] w fun e w' => e = .returned (.bool true) ∧ Below w.heap.size w w' := by
  have B0 : Hid (Box (w.alloc (.cells #[.string f, .string t, .bool g] 55)) w.heap.size [.string f, .string t, .bool g]) := Box.new w [.string f, .string t, .bool g] 55
  have HB0 : Hid (Below w.heap.size w (w.alloc (.cells #[.string f, .string t, .bool g] 55))) := (belowRefl w).alloc (Nat.le_refl _) _
  have hbn := bne_self' (writeB (f, t, g))
  go_enter Try.func8, Try.ntmps8
  go_wp2_with fail
  refine (szw f t g _ (by omega) (by omega) hf ht _).mono ?_
  rintro e w1 ⟨r, rfl, hr, hb1⟩
  have B1 : Hid (Box w1 w.heap.size [.string f, .string t, .bool g]) := B0.out.below hb1
  have HB1 : Hid (Below w.heap.size w w1) := HB0.out.trans (hb1.mono HB0.out.size)
  clear hb1
  by_cases hn : r < 0
  · clear hr
    go_wp2
    go_ret
    exact ⟨rfl, HB1.out⟩
  have hn' : ¬ r < 0 := hn
  have HF : Hid (f.size ≤ 1048576 ∧ t.size ≤ 1048576) := by
    rcases hr with hr | ⟨h1, h2, h3⟩
    · omega
    · exact ⟨by omega, by omega⟩
  clear hr hn
  have c0 := B1.out.c0
  have c1 := B1.out.c1
  have c2 := B1.out.c2
  go_wp2_with fail
  refine (tow f t g _).mono ?_
  rintro e w2 ⟨rfl, hb2⟩
  have B2 : Hid (Box w2 w.heap.size [.string f, .string t, .bool g]) := B1.out.below hb2
  have HB2 : Hid (Below w.heap.size w w2) := HB1.out.trans (hb2.mono HB1.out.size)
  clear hb2 c0 c1 c2
  go_wp2_with fail
  refine (swrite f t g HF.out.1 _).mono ?_
  rintro e w3 ⟨rfl, hb3⟩
  have B3 : Hid (Box w3 w.heap.size [.string f, .string t, .bool g]) := B2.out.below hb3
  have HB3 : Hid (Below w.heap.size w w3) := HB2.out.trans (hb3.mono HB2.out.size)
  clear hb3
  have c0 := B3.out.c0
  have c1 := B3.out.c1
  have c2 := B3.out.c2
  go_wp2_with fail
  refine (tow f t g _).mono ?_
  rintro e w4 ⟨rfl, hb4⟩
  have HB4 : Hid (Below w.heap.size w w4) := HB3.out.trans (hb4.mono HB3.out.size)
  clear hb4 c0 c1 c2
  go_wp2_with fail
  refine (iwrite f t g _).mono ?_
  rintro e w5 ⟨rfl, hb5⟩
  have HB5 : Hid (Below w.heap.size w w5) := HB4.out.trans (hb5.mono HB4.out.size)
  clear hb5
  go_wp2
  go_ret
  exact ⟨rfl, HB5.out⟩
end Go.Proofs.Ythlfddbijlfgeaa

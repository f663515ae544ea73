/- Cells and pairs: their sizes, copies, likeness and marks. -/
import Derived.Test.YtebcfdomjlikoaaKyR1
import Derived.Test.YtebcfdomjlikoaaVMv
import Derived.Test.YtebcfdomjlikoaaVMr
import Derived.Test.YtebcfdomjlikoaaLie
import Derived.Deep.RegionHeld3
namespace Go.Proofs.Ytebcfdomjlikoaa
open Go.RowKit
open KM
attribute [local go_sem ↓] Go.wp_at_zero Go.wp_at_succ

theorem Try.info80 : (Try.prog.info? 80).map (fun i => (i.zero, i.size, i.bytes)) = some (some (.agg #[.string ByteArray.empty, .string ByteArray.empty]), 2, 32) := by kernel_rfl
theorem Try.info81 : (Try.prog.info? 81).map (fun i => (i.zero, i.size, i.bytes)) = some (some (.agg #[.string ByteArray.empty, .string ByteArray.empty]), 2, 32) := by kernel_rfl
set_option maxRecDepth 100000 in
set_option maxHeartbeats 1000000 in
theorem szc (f t : ByteArray) (left : Int) (h0 : 0 ≤ left) (hl : left ≤ 1048576) (hf : f.size ≤ maxLen) (ht : t.size ≤ maxLen) (w : World) :
    Calls Try.prog 47 #[.agg #[.string f, .string t], .int .i64 left] w fun e w' => ∃ r : Int, e = .returned (.int .i64 r) ∧ Room f t left r ∧ Below w.heap.size w w' := by
  unfold maxLen at hf ht
  have e1 : IntKind.i64.wrap (left - (f.size : Int)) = left - f.size := by rw [IntKind.wrap_i64]; omega
  by_cases h1 : left - (f.size : Int) < 0
  · go_enter Try.func47, Try.ntmps47
    go_wp2
    go_ret
    exact ⟨_, rfl, Or.inl (by omega), (belowRefl w).alloc (Nat.le_refl _) _⟩
  have h1' : ¬ left - (f.size : Int) < 0 := h1
  have e2 : IntKind.i64.wrap (left - (f.size : Int) - (t.size : Int)) = left - f.size - t.size := by rw [IntKind.wrap_i64]; omega
  by_cases h2 : left - (f.size : Int) - (t.size : Int) < 0
  · go_enter Try.func47, Try.ntmps47
    go_wp2
    go_ret
    exact ⟨_, rfl, Or.inl (by omega), (belowRefl w).alloc (Nat.le_refl _) _⟩
  · have h2' : ¬ left - (f.size : Int) - (t.size : Int) < 0 := h2
    go_enter Try.func47, Try.ntmps47
    go_wp2
    go_ret
    exact ⟨_, rfl, Or.inr ⟨by omega, by omega, by omega⟩, (belowRefl w).alloc (Nat.le_refl _) _⟩

set_option maxHeartbeats 400000 in
theorem toc (f t : ByteArray) (w : World) :
    Calls Try.prog 49 #[.agg #[.string f, .string t]] w fun e w' => e = .returned (.agg #[.string f, .string t]) ∧ Below w.heap.size w w' := by
  go_enter Try.func49, Try.ntmps49
  go_wp2
  exact bodyPost_ret (v := .agg #[.string f, .string t]) (by simp [results, Try.results49, go_sem]) rfl ⟨rfl, (((belowRefl w).alloc (Nat.le_refl _) _).alloc (by simp) _).alloc (by simp; omega) _⟩

set_option maxRecDepth 100000 in
set_option maxHeartbeats 1000000 in
theorem szSC (xs : List Rg) (a : Option Addr) (c : Nat) (hn : xs.length ≤ maxLen) (hl : ∀ x ∈ xs, x.1.size ≤ maxLen ∧ x.2.size ≤ maxLen) (L : Int) (h0 : 0 ≤ L) (h1 : L ≤ 1048576) (w : World) (hp : GRow encR w a xs) :
    Calls Try.prog 20 #[.slice a xs.length c, .int .i64 L] w fun e w' => Below w.heap.size w w' ∧ ∃ r : Int, e = .returned (.int .i64 r) ∧ r ≤ 1048576 ∧ (0 ≤ r → xs.length ≤ 1048576 ∧ RFit xs) := by
  have HP : Hid (GRow encR w a xs) := hp
  have HL : Hid (∀ x ∈ xs, x.1.size ≤ maxLen ∧ x.2.size ≤ maxLen) := hl
  clear hp hl
  unfold maxLen at hn
  by_cases hneg : L - (xs.length : Int) < 0
  · go_enter Try.func20, Try.ntmps20
    go_wp2
    go_ret
    exact ⟨belowRefl w, -1, rfl, by omega, fun h => by omega⟩
  · have hneg' : decide (L - (xs.length : Int) < 0) = false := by simpa using hneg
    go_enter Try.func20, Try.ntmps20
    go_wp2
    go_loopw [1, 5] (fun tl t wr => ∃ (k : Nat) (l : Int), k ≤ xs.length ∧ t = .int .i64 k ∧ tl = .int .i64 l ∧ 0 ≤ l ∧ l ≤ 1048576 ∧ Hid (∀ j (hj : j < xs.length), j < k → xs[j].1.size ≤ 1048576 ∧ xs[j].2.size ≤ 1048576) ∧ Hid (Below w.heap.size w wr)) (fun _ t _ => xs.length - (intOf t).toNat)
    case atStart => exact ⟨0, L - (xs.length : Int), Nat.zero_le _, rfl, rfl, by omega, by omega, fun j hj h => by omega, belowRefl w⟩
    case round =>
      obtain ⟨k, l, hk, rfl, rfl, hl0, hl1, HA, HB⟩ := hrel
      by_cases hlt : k < xs.length
      · have hlt' : (k : Int) < (xs.length : Int) := by omega
        have hk0 : (0 : Int) ≤ (k : Int) := by omega
        obtain ⟨b, off, rfl, hbl, hc⟩ := (HP.out.below HB.out) (by omega)
        have r0 := ((rat hc) k hlt).1
        have r1 := ((rat hc) k hlt).2
        have HZ : Hid (xs[k].1.size ≤ maxLen ∧ xs[k].2.size ≤ maxLen) := HL.out _ (List.getElem_mem hlt)
        clear hc
        go_wp2_with fail
        refine (szc xs[k].1 xs[k].2 l hl0 hl1 HZ.out.1 HZ.out.2 _).mono ?_
        rintro e w2 ⟨r, rfl, hr, hb2⟩
        have HB2 : Hid (Below w.heap.size w w2) := HB.out.trans (hb2.mono HB.out.size)
        clear hb2 r0 r1
        by_cases hn2 : r < 0
        · clear hr
          go_wp2
          go_ret
          exact ⟨HB2.out, -1, rfl, by omega, fun h => by omega⟩
        · have hn3 : ¬ r < 0 := hn2
          have HR : Hid (0 ≤ r ∧ r ≤ l ∧ (xs[k].1.size : Int) + xs[k].2.size + r = l) := by
            rcases hr with hr | hr
            · exact absurd hr hn2
            · exact hr
          have HA2 : Hid (∀ j (hj : j < xs.length), j < k + 1 → xs[j].1.size ≤ 1048576 ∧ xs[j].2.size ≤ 1048576) := fun j hj h => by
            by_cases e : j = k
            · subst e; have := HR.out; omega
            · exact HA.out j hj (by omega)
          have hr0 : 0 ≤ r := HR.out.1
          have hr1 : r ≤ 1048576 := Int.le_trans HR.out.2.1 hl1
          clear hn2 hr
          go_wp2
          go_roundw
          case rel => exact ⟨k + 1, r, by omega, by go_num, rfl, hr0, hr1, HA2, HB2⟩
          case measure => simp [intOf]; omega
      · have hlt' : ¬ (k : Int) < (xs.length : Int) := by omega
        have HA2 : Hid (∀ x ∈ xs, x.1.size ≤ 1048576 ∧ x.2.size ≤ 1048576) := fun s hs => by
          obtain ⟨j, hj, rfl⟩ := List.getElem_of_mem hs
          exact HA.out j hj (by omega)
        go_wp2
        go_ret
        exact ⟨HB.out, l, rfl, hl1, fun _ => ⟨by omega, HA2.out⟩⟩

set_option maxRecDepth 100000 in
set_option maxHeartbeats 1000000 in
theorem toSC (xs : List Rg) (a : Option Addr) (c : Nat) (hn : xs.length ≤ 100000000) (w : World) (hp : GRow encR w a xs) :
    Calls Try.prog 23 #[.slice a xs.length c] w fun e w' => ∃ a1 c1, e = .returned (.slice a1 xs.length c1) ∧ GOwn encR 80 w' w.heap.size (.slice a1 xs.length c1) xs ∧ Below w.heap.size w w' := by
  have HP : Hid (GRow encR w a xs) := hp
  clear hp
  have hmk := mkRow 53 80 2 _ _ Try.underlying53 Try.info80 xs.length hn (by omega)
  go_enter Try.func23, Try.ntmps23
  go_wp2
  clear hmk
  obtain ⟨cs0, hcs0⟩ : ∃ cs, cs = madeCells (Value.agg #[.string ByteArray.empty, .string ByteArray.empty]).cells (xs.length * 2) := ⟨_, rfl⟩
  have HO : Hid ((w.alloc (.cells cs0 80)).ownsRow w.heap.size 80 2 (.slice (some ⟨w.heap.size, 0, none⟩) xs.length xs.length) xs.length cs0.toList) :=
    World.ownsRow_lit w _ _ (Nat.le_refl _) (by unfold maxLen; omega) (by rw [hcs0, size_madeCells])
  rw [hcs0] at HO
  clear hcs0 cs0
  go_loopw [4] (fun t wr => ∃ (k : Nat) (cs : List Value), k ≤ xs.length ∧ t = .int .i64 k ∧ Hid (wr.ownsRow w.heap.size 80 2 (.slice (some ⟨w.heap.size, 0, none⟩) xs.length xs.length) xs.length cs) ∧ Hid (∀ j, j < k * 2 → cs[j]? = (encR.cells xs)[j]?) ∧ Hid (Below w.heap.size w wr)) (fun t _ => xs.length - (intOf t).toNat)
  case atStart => exact ⟨0, _, Nat.zero_le _, rfl, HO, fun j hj => by omega, (belowRefl w).alloc (Nat.le_refl _) _⟩
  case round =>
    obtain ⟨k, cs, hk, rfl, HX, HA, HB⟩ := hrel
    by_cases hlt : k < xs.length
    · have hlt' : (k : Int) < (xs.length : Int) := by omega
      have h0 : (0 : Int) ≤ (k : Int) := by omega
      obtain ⟨b, off, rfl, hbl, hc⟩ := (HP.out.below HB.out) (by omega)
      have r0 := ((rat hc) k hlt).1
      have r1 := ((rat hc) k hlt).2
      clear hc
      have hgl : w.heap.size < wr.heap.size := (World.ownsRow.lt HX.out _ rfl).2
      go_wp2_with fail
      refine (toc xs[k].1 xs[k].2 _).mono ?_
      rintro e w2 ⟨rfl, hb2⟩
      have HX0 : Hid (w2.ownsRow w.heap.size 80 2 (.slice (some ⟨w.heap.size, 0, none⟩) xs.length xs.length) xs.length cs) := ownsBelow HX.out hb2
      have HB2 : Hid (Below w.heap.size w w2) := HB.out.trans (hb2.mono HB.out.size)
      clear r0 r1 hb2
      have hlen := HX0.out.1
      have hq0 : w2.cell? ⟨w.heap.size, k * 2, none⟩ = some (cs[k * 2]'(by omega)) := by
        rw [World.ownsRow.cellAt HX0.out (k * 2) (by omega)]; simp
      have hf0 := World.ownsRow.frozenAt HX0.out (k * 2)
      have hq1 : w2.cell? ⟨w.heap.size, k * 2 + 1, none⟩ = some (cs[k * 2 + 1]'(by omega)) := by
        rw [World.ownsRow.cellAt HX0.out (k * 2 + 1) (by omega)]; simp
      have hf1 := World.ownsRow.frozenAt HX0.out (k * 2 + 1)
      have hx2 := (World.ownsRow.stored (World.ownsRow.stored HX0.out (k * 2) (.string xs[k].1)).1 (k * 2 + 1) (.string xs[k].2)).1
      have HX3 : Hid _ := hx2
      clear hx2
      have HA2 : Hid (∀ j, j < (k + 1) * 2 → ((cs.set (k * 2) (.string xs[k].1)).set (k * 2 + 1) (.string xs[k].2))[j]? = (encR.cells xs)[j]?) := fun j hj => by
        by_cases e0 : j = k * 2
        · subst e0
          rw [List.getElem?_set_ne (by omega), List.getElem?_set_self (by omega)]
          have := encR.cells_at xs k hlt 0 (by decide)
          simp only [encR, Nat.add_zero] at this ⊢
          rw [this]; rfl
        by_cases e1 : j = k * 2 + 1
        · subst e1
          rw [List.getElem?_set_self (by simp; omega)]
          have := encR.cells_at xs k hlt 1 (by decide)
          simp only [encR] at this ⊢
          rw [this]; rfl
        rw [List.getElem?_set_ne (by omega), List.getElem?_set_ne (by omega)]
        exact HA.out j (by omega)
      go_wp2
      go_roundw
      case rel => exact ⟨k + 1, _, by omega, by go_num, HX3, HA2, ((HB2.out.setCell (Nat.le_refl _) _).setCell (Nat.le_refl _) _)⟩
      case measure => simp [intOf]; omega
    · have hlt' : ¬ (k : Int) < (xs.length : Int) := by omega
      have HD : Hid (GOwn encR 80 wr w.heap.size (.slice (some ⟨w.heap.size, 0, none⟩) xs.length xs.length) xs) := gown_of rfl HX.out (fun j hj => HA.out j (Nat.lt_of_lt_of_le hj (Nat.mul_le_mul_right _ (by omega))))
      go_wp2
      go_ret
      exact ⟨_, _, rfl, HD.out, HB.out⟩

set_option maxHeartbeats 400000 in
theorem eqc (x0 : ByteArray) (x1 : ByteArray) (w : World) :
    Calls Try.prog 53 #[.agg #[.string x0, .string x1], .agg #[.string x0, .string x1]] w fun e w' => e = .returned (.bool true) ∧ Below w.heap.size w w' := by
  go_enter Try.func53, Try.ntmps53
  go_wp2
  go_ret
  exact ⟨rfl, ((belowRefl w).alloc (Nat.le_refl _) _).alloc (by simp) _⟩

set_option maxRecDepth 100000 in
set_option maxHeartbeats 1000000 in
theorem eqSC (a1 a2 : Option Addr) (c1 c2 : Nat) (xs : List Rg) (hn : xs.length ≤ 100000000) (w : World) (h1 : GRow encR w a1 xs) (h2 : GRow encR w a2 xs) :
    Calls Try.prog 27 #[.slice a1 xs.length c1, .slice a2 xs.length c2] w fun e w' => e = .returned (.bool true) ∧ Below w.heap.size w w' := by
  have H1 : Hid (GRow encR w a1 xs) := h1
  have H2 : Hid (GRow encR w a2 xs) := h2
  clear h1 h2
  go_enter Try.func27, Try.ntmps27
  go_wp2
  go_loopw [5] (fun t wr => ∃ k : Nat, k ≤ xs.length ∧ t = .int .i64 k ∧ Hid (Below w.heap.size w wr)) (fun t _ => xs.length - (intOf t).toNat)
  case atStart => exact ⟨0, Nat.zero_le _, rfl, Below.refl _ _⟩
  case round =>
    obtain ⟨k, hk, rfl, HB⟩ := hrel
    by_cases hlt : k < xs.length
    · have hlt' : (k : Int) < (xs.length : Int) := by omega
      have h0 : (0 : Int) ≤ (k : Int) := by omega
      obtain ⟨b1, off1, rfl, hl1, q1⟩ := (H1.out.below HB.out) (by omega)
      obtain ⟨b2, off2, rfl, hl2, q2⟩ := (H2.out.below HB.out) (by omega)
      have r10 := ((rat q1) k hlt).1
      have r11 := ((rat q1) k hlt).2
      have r20 := ((rat q2) k hlt).1
      have r21 := ((rat q2) k hlt).2
      clear q1 q2
      go_wp2
      go_region_held3 (fun w' => w'.cell? ⟨b1, off1 + k * 2, none⟩ = some (.string xs[k].1) ∧ w'.cell? ⟨b1, off1 + k * 2 + 1, none⟩ = some (.string xs[k].2) ∧ w'.cell? ⟨b2, off2 + k * 2, none⟩ = some (.string xs[k].1) ∧ w'.cell? ⟨b2, off2 + k * 2 + 1, none⟩ = some (.string xs[k].2)) (first | go_keep | exact ⟨(hbm.cell (p := ⟨b1, off1 + k * 2, none⟩) hl1).trans r10, (hbm.cell (p := ⟨b1, off1 + k * 2 + 1, none⟩) hl1).trans r11, (hbm.cell (p := ⟨b2, off2 + k * 2, none⟩) hl2).trans r20, (hbm.cell (p := ⟨b2, off2 + k * 2 + 1, none⟩) hl2).trans r21⟩) ((go_at_call 53; refine (eqc _ _ _).mono ?_; rintro e w2 ⟨rfl, hbm⟩))
      all_goals
        go_wp2
        go_roundw
        case rel => exact ⟨k + 1, by omega, by go_num, (HB.out.drew).trans (hbm.mono HB.out.size)⟩
        case measure => simp [intOf]; omega
    · have hd : ¬ (k : Int) < (xs.length : Int) := by omega
      go_wp2
      go_ret
      exact ⟨rfl, HB.out⟩

set_option maxHeartbeats 400000 in
theorem eqp (x0 : ByteArray) (x1 : ByteArray) (w : World) :
    Calls Try.prog 52 #[.agg #[.string x0, .string x1], .agg #[.string x0, .string x1]] w fun e w' => e = .returned (.bool true) ∧ Below w.heap.size w w' := by
  go_enter Try.func52, Try.ntmps52
  go_wp2
  go_ret
  exact ⟨rfl, ((belowRefl w).alloc (Nat.le_refl _) _).alloc (by simp) _⟩

set_option maxRecDepth 100000 in
set_option maxHeartbeats 1000000 in
theorem eqSP (a1 a2 : Option Addr) (c1 c2 : Nat) (xs : List Rg) (hn : xs.length ≤ 100000000) (w : World) (h1 : GRow encR w a1 xs) (h2 : GRow encR w a2 xs) :
    Calls Try.prog 26 #[.slice a1 xs.length c1, .slice a2 xs.length c2] w fun e w' => e = .returned (.bool true) ∧ Below w.heap.size w w' := by
  have H1 : Hid (GRow encR w a1 xs) := h1
  have H2 : Hid (GRow encR w a2 xs) := h2
  clear h1 h2
  go_enter Try.func26, Try.ntmps26
  go_wp2
  go_loopw [5] (fun t wr => ∃ k : Nat, k ≤ xs.length ∧ t = .int .i64 k ∧ Hid (Below w.heap.size w wr)) (fun t _ => xs.length - (intOf t).toNat)
  case atStart => exact ⟨0, Nat.zero_le _, rfl, Below.refl _ _⟩
  case round =>
    obtain ⟨k, hk, rfl, HB⟩ := hrel
    by_cases hlt : k < xs.length
    · have hlt' : (k : Int) < (xs.length : Int) := by omega
      have h0 : (0 : Int) ≤ (k : Int) := by omega
      obtain ⟨b1, off1, rfl, hl1, q1⟩ := (H1.out.below HB.out) (by omega)
      obtain ⟨b2, off2, rfl, hl2, q2⟩ := (H2.out.below HB.out) (by omega)
      have r10 := ((rat q1) k hlt).1
      have r11 := ((rat q1) k hlt).2
      have r20 := ((rat q2) k hlt).1
      have r21 := ((rat q2) k hlt).2
      clear q1 q2
      go_wp2
      go_region_held3 (fun w' => w'.cell? ⟨b1, off1 + k * 2, none⟩ = some (.string xs[k].1) ∧ w'.cell? ⟨b1, off1 + k * 2 + 1, none⟩ = some (.string xs[k].2) ∧ w'.cell? ⟨b2, off2 + k * 2, none⟩ = some (.string xs[k].1) ∧ w'.cell? ⟨b2, off2 + k * 2 + 1, none⟩ = some (.string xs[k].2)) (first | go_keep | exact ⟨(hbm.cell (p := ⟨b1, off1 + k * 2, none⟩) hl1).trans r10, (hbm.cell (p := ⟨b1, off1 + k * 2 + 1, none⟩) hl1).trans r11, (hbm.cell (p := ⟨b2, off2 + k * 2, none⟩) hl2).trans r20, (hbm.cell (p := ⟨b2, off2 + k * 2 + 1, none⟩) hl2).trans r21⟩) ((go_at_call 52; refine (eqp _ _ _).mono ?_; rintro e w2 ⟨rfl, hbm⟩))
      all_goals
        go_wp2
        go_roundw
        case rel => exact ⟨k + 1, by omega, by go_num, (HB.out.drew).trans (hbm.mono HB.out.size)⟩
        case measure => simp [intOf]; omega
    · have hd : ¬ (k : Int) < (xs.length : Int) := by omega
      go_wp2
      go_ret
      exact ⟨rfl, HB.out⟩

/-- the marks of a row -/
def mkC (k n : Nat) : List Rg := (List.range n).map fun j => (mkB (k + 2 * j), mkB ((k + 2 * j) + 1))
theorem mkC_len (k n : Nat) : (mkC k n).length = n := by simp [mkC]
theorem mkC_at (k n j : Nat) (h : j < n) : (mkC k n)[j]'(by rw [mkC_len]; exact h) = (mkB (k + 2 * j), mkB ((k + 2 * j) + 1)) := by simp [mkC]

set_option maxRecDepth 100000 in
set_option maxHeartbeats 4000000 in
theorem markC (n k0 : Nat) (a : Option Addr) (c base : Nat) (xs0 : List Value) (hn : n ≤ 100000000) (hk0 : 0 < k0) (hk1 : k0 ≤ 100000000) (w : World) (h : w.ownsRow base 80 2 (.slice a n c) n xs0) :
    Calls Try.prog 28 #[.slice a n c, .int .i64 k0] w fun e w' => e = .returned (.int .i64 ((k0 + 2 * n : Nat) : Int)) ∧ GOwn encR 80 w' base (.slice a n c) (mkC k0 n) ∧ w.grownBy w' (Value.slice a n c).ownBlock := by
  have H : Hid (w.ownsRow base 80 2 (.slice a n c) n xs0) := h
  clear h
  go_enter Try.func28, Try.ntmps28
  go_wp2
  go_loopw [1, 5] (fun tk t wr => ∃ (k : Nat) (xs : List Value), k ≤ n ∧ t = .int .i64 k ∧ tk = .int .i64 ((k0 + 2 * k : Nat) : Int) ∧ Hid (wr.ownsRow base 80 2 (.slice a n c) n xs) ∧ Hid (∀ j, j < k * 2 → xs[j]? = (encR.cells (mkC k0 n))[j]?) ∧ Hid (w.grownBy wr (Value.slice a n c).ownBlock)) (fun _ t _ => n - (intOf t).toNat)
  case atStart => exact ⟨0, xs0, Nat.zero_le _, rfl, rfl, H, (fun j hj => by omega), grown_refl _ _⟩
  case round =>
    obtain ⟨k, xs, hk, rfl, rfl, HX, HA, HG⟩ := hrel
    by_cases hlt : k < n
    · have hlt' : (k : Int) < (n : Int) := by omega
      have h0 : (0 : Int) ≤ (k : Int) := by omega
      obtain ⟨g, rfl, hbg, hgl⟩ := own_form HX.out (by omega)
      have hlen := HX.out.1
      obtain ⟨q, hq⟩ : ∃ q, q = k0 + 2 * k := ⟨_, rfl⟩
      have HQ : Hid (q = k0 + 2 * k) := hq
      rw [← hq]
      have hq0 : 0 < q := by omega
      have hq1 : q ≤ 900000000 := by omega
      clear hq
      have W0 := hide HX.out
      have G0 : Hid (wr.grownBy wr (some g)) := grown_refl _ _
      go_wp2_with fail
      refine (mark87 q (by omega) (by omega) _).mono ?_
      rintro e w1 ⟨rfl, hbm⟩
      have V0 := hide (ownsBelow W0.out hbm)
      have F0 : Hid (wr.grownBy w1 (some g)) := grown_trans G0.out (grown_below _ hbm)
      have hgl0 : g < w1.heap.size := Nat.lt_of_lt_of_le hgl F0.out.size
      clear hbm
      have len0 : k * 2 < (xs).length := by omega
      have q0 : (w1).cell? ⟨g, k * 2, none⟩ = some ((xs)[k * 2]'len0) := by rw [World.ownsRow.cellAt V0.out (k * 2) (by omega)]; simp
      have f0 : (w1).frozen? ⟨g, k * 2, none⟩ = false := World.ownsRow.frozenAt V0.out (k * 2)
      have st0 := World.ownsRow.stored V0.out (k * 2) (.string (mkB q))
      have W1 := hide st0.1
      have G1 : Hid (wr.grownBy ((w1).setCell ⟨g, k * 2, none⟩ (.string (mkB q))) (some g)) := grown_trans F0.out st0.2
      clear st0
      have E1 : Hid ((q : Int) + 1 = ((q + 1 : Nat) : Int)) := by show _ = _; omega
      go_wp2_with fail
      rw [E1.out]
      refine (mark87 (q + 1) (by omega) (by omega) _).mono ?_
      rintro e w2 ⟨rfl, hbm⟩
      have V1 := hide (ownsBelow W1.out hbm)
      have F1 : Hid (wr.grownBy w2 (some g)) := grown_trans G1.out (grown_below _ hbm)
      have hgl1 : g < w2.heap.size := Nat.lt_of_lt_of_le hgl F1.out.size
      clear hbm
      have len1 : k * 2 + 1 < ((xs).set (k * 2) (.string (mkB q))).length := by simp only [List.length_set]; omega
      have q1 : (w2).cell? ⟨g, k * 2 + 1, none⟩ = some (((xs).set (k * 2) (.string (mkB q)))[k * 2 + 1]'len1) := by rw [World.ownsRow.cellAt V1.out (k * 2 + 1) (by omega)]; simp
      have f1 : (w2).frozen? ⟨g, k * 2 + 1, none⟩ = false := World.ownsRow.frozenAt V1.out (k * 2 + 1)
      have st1 := World.ownsRow.stored V1.out (k * 2 + 1) (.string (mkB (q + 1)))
      have W2 := hide st1.1
      have G2 : Hid (wr.grownBy ((w2).setCell ⟨g, k * 2 + 1, none⟩ (.string (mkB (q + 1)))) (some g)) := grown_trans F1.out st1.2
      clear st1
      have HA2 : Hid (∀ j, j < (k + 1) * 2 → (((xs).set (k * 2) (.string (mkB q))).set (k * 2 + 1) (.string (mkB (q + 1))))[j]? = (encR.cells (mkC k0 n))[j]?) := fun j hj => by
        have ea := mkC_at k0 n k hlt
        rw [← HQ.out] at ea
        by_cases e0 : j = k * 2
        · subst e0
          rw [List.getElem?_set_ne (by omega), List.getElem?_set_self len0]
          have := encR.cells_at (mkC k0 n) k (by rw [mkC_len]; exact hlt) 0 (by decide)
          rw [ea] at this
          simp only [encR, Nat.add_zero] at this ⊢
          rw [this]; rfl
        by_cases e1 : j = k * 2 + 1
        · subst e1
          rw [List.getElem?_set_self len1]
          have := encR.cells_at (mkC k0 n) k (by rw [mkC_len]; exact hlt) 1 (by decide)
          rw [ea] at this
          simp only [encR] at this ⊢
          rw [this]; rfl
        rw [List.getElem?_set_ne (by omega), List.getElem?_set_ne (by omega)]
        exact HA.out j (by omega)
      have HN2 : Hid (((q + 2 : Nat) : Int) = ((k0 + 2 * (k + 1) : Nat) : Int)) := by show _ = _; have := HQ.out; omega
      have en : (q : Int) + 1 + 1 = ((q + 2 : Nat) : Int) := by omega
      go_wp2
      go_roundw
      case rel => exact ⟨k + 1, _, by omega, by go_num, by rw [← HN2.out]; go_num, W2, HA2, grown_trans HG.out G2.out⟩
      case measure => simp [intOf]; omega
    · have hd : ¬ (k : Int) < (n : Int) := by omega
      have e : k = n := by omega
      have HE : Hid (GOwn encR 80 wr base (.slice a n c) (mkC k0 n)) := gown_ext (mkC_len _ _) HX.out (fun j hj => HA.out j (by have : encR.size = 2 := rfl; rw [this] at hj; omega))
      subst e
      go_wp2
      go_ret
      exact ⟨ret_int rfl, HE.out, HG.out⟩


/-- the marks of a row -/
def mkQ (k n : Nat) : List Rg := (List.range n).map fun j => (mkB (k + 2 * j), mkB ((k + 2 * j) + 1))
theorem mkQ_len (k n : Nat) : (mkQ k n).length = n := by simp [mkQ]
theorem mkQ_at (k n j : Nat) (h : j < n) : (mkQ k n)[j]'(by rw [mkQ_len]; exact h) = (mkB (k + 2 * j), mkB ((k + 2 * j) + 1)) := by simp [mkQ]

set_option maxRecDepth 100000 in
set_option maxHeartbeats 4000000 in
theorem markQ (n k0 : Nat) (a : Option Addr) (c base : Nat) (xs0 : List Value) (hn : n ≤ 100000000) (hk0 : 0 < k0) (hk1 : k0 ≤ 100000000) (w : World) (h : w.ownsRow base 81 2 (.slice a n c) n xs0) :
    Calls Try.prog 29 #[.slice a n c, .int .i64 k0] w fun e w' => e = .returned (.int .i64 ((k0 + 2 * n : Nat) : Int)) ∧ GOwn encR 81 w' base (.slice a n c) (mkQ k0 n) ∧ w.grownBy w' (Value.slice a n c).ownBlock := by
  have H : Hid (w.ownsRow base 81 2 (.slice a n c) n xs0) := h
  clear h
  go_enter Try.func29, Try.ntmps29
  go_wp2
  go_loopw [1, 5] (fun tk t wr => ∃ (k : Nat) (xs : List Value), k ≤ n ∧ t = .int .i64 k ∧ tk = .int .i64 ((k0 + 2 * k : Nat) : Int) ∧ Hid (wr.ownsRow base 81 2 (.slice a n c) n xs) ∧ Hid (∀ j, j < k * 2 → xs[j]? = (encR.cells (mkQ k0 n))[j]?) ∧ Hid (w.grownBy wr (Value.slice a n c).ownBlock)) (fun _ t _ => n - (intOf t).toNat)
  case atStart => exact ⟨0, xs0, Nat.zero_le _, rfl, rfl, H, (fun j hj => by omega), grown_refl _ _⟩
  case round =>
    obtain ⟨k, xs, hk, rfl, rfl, HX, HA, HG⟩ := hrel
    by_cases hlt : k < n
    · have hlt' : (k : Int) < (n : Int) := by omega
      have h0 : (0 : Int) ≤ (k : Int) := by omega
      obtain ⟨g, rfl, hbg, hgl⟩ := own_form HX.out (by omega)
      have hlen := HX.out.1
      obtain ⟨q, hq⟩ : ∃ q, q = k0 + 2 * k := ⟨_, rfl⟩
      have HQ : Hid (q = k0 + 2 * k) := hq
      rw [← hq]
      have hq0 : 0 < q := by omega
      have hq1 : q ≤ 900000000 := by omega
      clear hq
      have W0 := hide HX.out
      have G0 : Hid (wr.grownBy wr (some g)) := grown_refl _ _
      go_wp2_with fail
      refine (mark87 q (by omega) (by omega) _).mono ?_
      rintro e w1 ⟨rfl, hbm⟩
      have V0 := hide (ownsBelow W0.out hbm)
      have F0 : Hid (wr.grownBy w1 (some g)) := grown_trans G0.out (grown_below _ hbm)
      have hgl0 : g < w1.heap.size := Nat.lt_of_lt_of_le hgl F0.out.size
      clear hbm
      have len0 : k * 2 < (xs).length := by omega
      have q0 : (w1).cell? ⟨g, k * 2, none⟩ = some ((xs)[k * 2]'len0) := by rw [World.ownsRow.cellAt V0.out (k * 2) (by omega)]; simp
      have f0 : (w1).frozen? ⟨g, k * 2, none⟩ = false := World.ownsRow.frozenAt V0.out (k * 2)
      have st0 := World.ownsRow.stored V0.out (k * 2) (.string (mkB q))
      have W1 := hide st0.1
      have G1 : Hid (wr.grownBy ((w1).setCell ⟨g, k * 2, none⟩ (.string (mkB q))) (some g)) := grown_trans F0.out st0.2
      clear st0
      have E1 : Hid ((q : Int) + 1 = ((q + 1 : Nat) : Int)) := by show _ = _; omega
      go_wp2_with fail
      rw [E1.out]
      refine (mark87 (q + 1) (by omega) (by omega) _).mono ?_
      rintro e w2 ⟨rfl, hbm⟩
      have V1 := hide (ownsBelow W1.out hbm)
      have F1 : Hid (wr.grownBy w2 (some g)) := grown_trans G1.out (grown_below _ hbm)
      have hgl1 : g < w2.heap.size := Nat.lt_of_lt_of_le hgl F1.out.size
      clear hbm
      have len1 : k * 2 + 1 < ((xs).set (k * 2) (.string (mkB q))).length := by simp only [List.length_set]; omega
      have q1 : (w2).cell? ⟨g, k * 2 + 1, none⟩ = some (((xs).set (k * 2) (.string (mkB q)))[k * 2 + 1]'len1) := by rw [World.ownsRow.cellAt V1.out (k * 2 + 1) (by omega)]; simp
      have f1 : (w2).frozen? ⟨g, k * 2 + 1, none⟩ = false := World.ownsRow.frozenAt V1.out (k * 2 + 1)
      have st1 := World.ownsRow.stored V1.out (k * 2 + 1) (.string (mkB (q + 1)))
      have W2 := hide st1.1
      have G2 : Hid (wr.grownBy ((w2).setCell ⟨g, k * 2 + 1, none⟩ (.string (mkB (q + 1)))) (some g)) := grown_trans F1.out st1.2
      clear st1
      have HA2 : Hid (∀ j, j < (k + 1) * 2 → (((xs).set (k * 2) (.string (mkB q))).set (k * 2 + 1) (.string (mkB (q + 1))))[j]? = (encR.cells (mkQ k0 n))[j]?) := fun j hj => by
        have ea := mkQ_at k0 n k hlt
        rw [← HQ.out] at ea
        by_cases e0 : j = k * 2
        · subst e0
          rw [List.getElem?_set_ne (by omega), List.getElem?_set_self len0]
          have := encR.cells_at (mkQ k0 n) k (by rw [mkQ_len]; exact hlt) 0 (by decide)
          rw [ea] at this
          simp only [encR, Nat.add_zero] at this ⊢
          rw [this]; rfl
        by_cases e1 : j = k * 2 + 1
        · subst e1
          rw [List.getElem?_set_self len1]
          have := encR.cells_at (mkQ k0 n) k (by rw [mkQ_len]; exact hlt) 1 (by decide)
          rw [ea] at this
          simp only [encR] at this ⊢
          rw [this]; rfl
        rw [List.getElem?_set_ne (by omega), List.getElem?_set_ne (by omega)]
        exact HA.out j (by omega)
      have HN2 : Hid (((q + 2 : Nat) : Int) = ((k0 + 2 * (k + 1) : Nat) : Int)) := by show _ = _; have := HQ.out; omega
      have en : (q : Int) + 1 + 1 = ((q + 2 : Nat) : Int) := by omega
      go_wp2
      go_roundw
      case rel => exact ⟨k + 1, _, by omega, by go_num, by rw [← HN2.out]; go_num, W2, HA2, grown_trans HG.out G2.out⟩
      case measure => simp [intOf]; omega
    · have hd : ¬ (k : Int) < (n : Int) := by omega
      have e : k = n := by omega
      have HE : Hid (GOwn encR 81 wr base (.slice a n c) (mkQ k0 n)) := gown_ext (mkQ_len _ _) HX.out (fun j hj => HA.out j (by have : encR.size = 2 := rfl; rw [this] at hj; omega))
      subst e
      go_wp2
      go_ret
      exact ⟨ret_int rfl, HE.out, HG.out⟩

set_option maxRecDepth 100000 in
set_option maxHeartbeats 4000000 in
theorem heldQ (n k0 : Nat) (a : Option Addr) (c : Nat) (hn : n ≤ 100000000) (hk0 : 0 < k0) (hk1 : k0 ≤ 100000000) (w : World) (h : GRow encR w a (mkQ k0 n)) :
    Calls Try.prog 30 #[.slice a n c, .int .i64 k0] w fun e w' => e = .returned (.int .i64 ((k0 + 2 * n : Nat) : Int)) ∧ Below w.heap.size w w' := by
  have H : Hid (GRow encR w a (mkQ k0 n)) := h
  clear h
  go_enter Try.func30, Try.ntmps30
  go_wp2
  go_loopw [1, 5] (fun tk t wr => ∃ k : Nat, k ≤ n ∧ t = .int .i64 k ∧ tk = .int .i64 ((k0 + 2 * k : Nat) : Int) ∧ Hid (Below w.heap.size w wr)) (fun _ t _ => n - (intOf t).toNat)
  case atStart => exact ⟨0, Nat.zero_le _, rfl, rfl, Below.refl _ _⟩
  case round =>
    obtain ⟨k, hk, rfl, rfl, HB⟩ := hrel
    by_cases hlt : k < n
    · have hlt' : (k : Int) < (n : Int) := by omega
      have h0 : (0 : Int) ≤ (k : Int) := by omega
      obtain ⟨b, off, rfl, hgl, hc⟩ := (H.out.below HB.out) (by rw [mkQ_len]; omega)
      have HC := hide (rat hc k (by rw [mkQ_len]; exact hlt))
      rw [mkQ_at k0 n k hlt] at HC
      clear hc
      obtain ⟨q, hq⟩ : ∃ q, q = k0 + 2 * k := ⟨_, rfl⟩
      have HQ : Hid (q = k0 + 2 * k) := hq
      rw [← hq] at HC ⊢
      have hq0 : 0 < q := by omega
      have hq1 : q ≤ 900000000 := by omega
      clear hq
      have HN2 : Hid (((q + 2 : Nat) : Int) = ((k0 + 2 * (k + 1) : Nat) : Int)) := by show _ = _; have := HQ.out; omega
      have eq0 : IntKind.i64.wrap (q : Int) = (q : Int) := by rw [IntKind.wrap_i64]; omega
      go_wp2
      have r0 := HC.out.1
      have tn0 := bne_text (mkB q)
      refine wp_region_held_drew (S := fun w' => w'.cell? ⟨b, off + k * 2, none⟩ = some (.string (mkB q))) (by kernel_rfl) r0 (fun hHeld => ?_)
      (refine wpAnyH_take (i := 0) (v := ?_) rfl (by kernel_rfl) (by kernel_rfl) (by kernel_rfl) (fun _ _ _ h => h) (Or.inl ⟨by rfl, ?_⟩) (by assumption) ?_; rotate_left; (focus (intro w hSw; (try dsimp only at hSw); go_simp; (try with_reducible rfl); done)); simp only [Act.put, List.getElem_toArray, List.getElem_cons_zero, List.setIfInBounds_toArray, List.set_cons_zero, List.set_cons_succ])
      (refine wpAnyH_take (i := 1) (v := ?_) rfl (by kernel_rfl) (by kernel_rfl) (by kernel_rfl) (fun _ _ _ h => h) (Or.inl ⟨by rfl, ?_⟩) (by assumption) ?_; rotate_left; (focus (intro w hSw; (try dsimp only at hSw); go_simp; (try with_reducible rfl); done)); simp only [Act.put, List.getElem_toArray, List.getElem_cons_zero, List.getElem_cons_succ, List.setIfInBounds_toArray, List.set_cons_zero, List.set_cons_succ])
      (refine wpAnyH_take (i := 2) (v := ?_) rfl (by kernel_rfl) (by kernel_rfl) (by kernel_rfl) (fun _ _ _ h => h) (Or.inl ⟨by rfl, ?_⟩) (by assumption) ?_; rotate_left; (focus (intro w hSw; (try dsimp only at hSw); go_simp; (try with_reducible rfl); done)); simp only [Act.put, List.getElem_toArray, List.getElem_cons_zero, List.getElem_cons_succ, List.setIfInBounds_toArray, List.set_cons_zero, List.set_cons_succ])
      (refine wpAnyH_take (i := 3) (v := ?_) rfl (by kernel_rfl) (by kernel_rfl) (by kernel_rfl) (fun _ _ _ h => h) (Or.inl ⟨by rfl, ?_⟩) (by assumption) ?_; rotate_left; (focus (intro w hSw; (try dsimp only at hSw); go_simp; (try with_reducible rfl); done)); simp only [Act.put, List.getElem_toArray, List.getElem_cons_zero, List.getElem_cons_succ, List.setIfInBounds_toArray, List.set_cons_zero, List.set_cons_succ])
      (refine wpAnyH_take (i := 4) (v := ?_) rfl (by kernel_rfl) (by kernel_rfl) (by kernel_rfl) (fun _ _ _ h => h) (Or.inl ⟨by rfl, ?_⟩) (by assumption) ?_; rotate_left; (focus (intro w hSw; (try dsimp only at hSw); go_simp; (try with_reducible rfl); done)); simp only [Act.put, List.getElem_toArray, List.getElem_cons_zero, List.getElem_cons_succ, List.setIfInBounds_toArray, List.set_cons_zero, List.set_cons_succ])
      (refine wpAnyH_take (i := 5) (v := ?_) rfl (by kernel_rfl) (by kernel_rfl) (by kernel_rfl) (fun _ _ _ h => h) (Or.inl ⟨by rfl, ?_⟩) (by assumption) ?_; rotate_left; (focus (intro w hSw; (try dsimp only at hSw); go_simp; (try with_reducible rfl); done)); simp only [Act.put, List.getElem_toArray, List.getElem_cons_zero, List.getElem_cons_succ, List.setIfInBounds_toArray, List.set_cons_zero, List.set_cons_succ])
      refine wpAnyH_ready (rs := [6]) (by kernel_rfl) (by simp) ?_
      refine AllReadyH.cons rfl (fun K hK => ?_) AllReadyH.nil
      go_simp
      go_wp2_with fail
      refine (mark87 q (by omega) (by omega) _).mono ?_
      rintro e w1 ⟨rfl, hbm⟩
      have hbA1 : Below wr.heap.size wr w1 := undrew hbm
      clear hbm
      have s0 := (hbA1.cell (p := ⟨b, off + k * 2, none⟩) hgl).trans HC.out.1
      go_wp2_with fail
      refine hK.out _ _ s0 (fun hHeld2 => ?_)
      clear hK K
      (refine wpAnyH_take (i := 7) (v := ?_) rfl (by kernel_rfl) (by kernel_rfl) (by kernel_rfl) (fun _ _ _ h => h) (Or.inl ⟨by rfl, ?_⟩) (by assumption) ?_; rotate_left; (focus (intro w hSw; (try dsimp only at hSw); go_simp; (try with_reducible rfl); done)); simp only [Act.put, List.getElem_toArray, List.getElem_cons_zero, List.getElem_cons_succ, List.setIfInBounds_toArray, List.set_cons_zero, List.set_cons_succ])
      refine wpAnyH_done (by kernel_rfl) ?_ _
      go_wp2
      have r1 := (hbA1.cell (p := ⟨b, off + k * 2 + 1, none⟩) hgl).trans HC.out.2
      have E1 : Hid ((q : Int) + 1 = ((q + 1 : Nat) : Int)) := by show _ = _; omega
      have e1 : IntKind.i64.wrap ((q : Int) + 1) = (q : Int) + 1 := by rw [IntKind.wrap_i64]; omega
      have tn1 := bne_text (mkB (q + 1))
      refine wp_region_held_drew (S := fun w' => w'.cell? ⟨b, off + k * 2 + 1, none⟩ = some (.string (mkB (q + 1)))) (by kernel_rfl) r1 (fun hHeld => ?_)
      (refine wpAnyH_take (i := 0) (v := ?_) rfl (by kernel_rfl) (by kernel_rfl) (by kernel_rfl) (fun _ _ _ h => h) (Or.inl ⟨by rfl, ?_⟩) (by assumption) ?_; rotate_left; (focus (intro w hSw; (try dsimp only at hSw); go_simp; (try with_reducible rfl); done)); simp only [Act.put, List.getElem_toArray, List.getElem_cons_zero, List.setIfInBounds_toArray, List.set_cons_zero, List.set_cons_succ])
      (refine wpAnyH_take (i := 1) (v := ?_) rfl (by kernel_rfl) (by kernel_rfl) (by kernel_rfl) (fun _ _ _ h => h) (Or.inl ⟨by rfl, ?_⟩) (by assumption) ?_; rotate_left; (focus (intro w hSw; (try dsimp only at hSw); go_simp; (try with_reducible rfl); done)); simp only [Act.put, List.getElem_toArray, List.getElem_cons_zero, List.getElem_cons_succ, List.setIfInBounds_toArray, List.set_cons_zero, List.set_cons_succ])
      (refine wpAnyH_take (i := 2) (v := ?_) rfl (by kernel_rfl) (by kernel_rfl) (by kernel_rfl) (fun _ _ _ h => h) (Or.inl ⟨by rfl, ?_⟩) (by assumption) ?_; rotate_left; (focus (intro w hSw; (try dsimp only at hSw); go_simp; (try with_reducible rfl); done)); simp only [Act.put, List.getElem_toArray, List.getElem_cons_zero, List.getElem_cons_succ, List.setIfInBounds_toArray, List.set_cons_zero, List.set_cons_succ])
      (refine wpAnyH_take (i := 3) (v := ?_) rfl (by kernel_rfl) (by kernel_rfl) (by kernel_rfl) (fun _ _ _ h => h) (Or.inl ⟨by rfl, ?_⟩) (by assumption) ?_; rotate_left; (focus (intro w hSw; (try dsimp only at hSw); go_simp; (try with_reducible rfl); done)); simp only [Act.put, List.getElem_toArray, List.getElem_cons_zero, List.getElem_cons_succ, List.setIfInBounds_toArray, List.set_cons_zero, List.set_cons_succ])
      (refine wpAnyH_take (i := 4) (v := ?_) rfl (by kernel_rfl) (by kernel_rfl) (by kernel_rfl) (fun _ _ _ h => h) (Or.inl ⟨by rfl, ?_⟩) (by assumption) ?_; rotate_left; (focus (intro w hSw; (try dsimp only at hSw); go_simp; (try with_reducible rfl); done)); simp only [Act.put, List.getElem_toArray, List.getElem_cons_zero, List.getElem_cons_succ, List.setIfInBounds_toArray, List.set_cons_zero, List.set_cons_succ])
      (refine wpAnyH_take (i := 5) (v := ?_) rfl (by kernel_rfl) (by kernel_rfl) (by kernel_rfl) (fun _ _ _ h => h) (Or.inl ⟨by rfl, ?_⟩) (by assumption) ?_; rotate_left; (focus (intro w hSw; (try dsimp only at hSw); go_simp; (try with_reducible rfl); done)); simp only [Act.put, List.getElem_toArray, List.getElem_cons_zero, List.getElem_cons_succ, List.setIfInBounds_toArray, List.set_cons_zero, List.set_cons_succ])
      refine wpAnyH_ready (rs := [6]) (by kernel_rfl) (by simp) ?_
      refine AllReadyH.cons rfl (fun K hK => ?_) AllReadyH.nil
      go_simp
      go_wp2_with fail
      rw [E1.out]
      refine (mark87 (q + 1) (by omega) (by omega) _).mono ?_
      rintro e w2 ⟨rfl, hbm⟩
      have hbA2 : Below wr.heap.size wr w2 := hbA1.trans ((undrew hbm).mono hbA1.size)
      clear hbm
      have s1 := (hbA2.cell (p := ⟨b, off + k * 2 + 1, none⟩) hgl).trans HC.out.2
      go_wp2_with fail
      refine hK.out _ _ s1 (fun hHeld2 => ?_)
      clear hK K
      (refine wpAnyH_take (i := 7) (v := ?_) rfl (by kernel_rfl) (by kernel_rfl) (by kernel_rfl) (fun _ _ _ h => h) (Or.inl ⟨by rfl, ?_⟩) (by assumption) ?_; rotate_left; (focus (intro w hSw; (try dsimp only at hSw); go_simp; (try with_reducible rfl); done)); simp only [Act.put, List.getElem_toArray, List.getElem_cons_zero, List.getElem_cons_succ, List.setIfInBounds_toArray, List.set_cons_zero, List.set_cons_succ])
      refine wpAnyH_done (by kernel_rfl) ?_ _
      go_wp2
      go_roundw
      case rel => exact ⟨k + 1, by omega, by go_num, by rw [← HN2.out]; go_num, HB.out.trans (hbA2.mono HB.out.size)⟩
      case measure => simp [intOf]; omega
    · have hd : ¬ (k : Int) < (n : Int) := by omega
      go_wp2
      go_ret
      refine ⟨?_, HB.out⟩
      rw [show k = n by omega]
      rfl

end Go.Proofs.Ytebcfdomjlikoaa

/- Cells and pairs: their sizes, copies, likeness and marks. -/
import Derived.Test.YtjieojfcmigcdaaVMv
import Derived.Test.YtjieojfcmigcdaaVMr
import Derived.Test.YtjieojfcmigcdaaLie
import Derived.Deep.RegionHeld3
import Derived.Test.YtjieojfcmigcdaaCe
namespace Go.Proofs.Ytjieojfcmigcdaa
open Go.RowKit
open KM
attribute [local go_sem ↓] Go.wp_at_zero Go.wp_at_succ

set_option maxRecDepth 100000 in
set_option maxHeartbeats 1000000 in
theorem szc (f t : ByteArray) (left : Int) (h0 : 0 ≤ left) (hl : left ≤ 1048576) (hf : f.size ≤ maxLen) (ht : t.size ≤ maxLen) (w : World) :
    Calls Try.prog 9 #[.agg #[.string f, .string t], .int .i64 left] w fun e w' => ∃ r : Int, e = .returned (.int .i64 r) ∧ Room f t left r ∧ Below w.heap.size w w' := by
  unfold maxLen at hf ht
  have e1 : IntKind.i64.wrap (left - (f.size : Int)) = left - f.size := by rw [IntKind.wrap_i64]; omega
  by_cases h1 : left - (f.size : Int) < 0
  · go_enter Try.func9, Try.ntmps9
    go_wp2
    go_ret
    exact ⟨_, rfl, Or.inl (by omega), (belowRefl w).alloc (Nat.le_refl _) _⟩
  have h1' : ¬ left - (f.size : Int) < 0 := h1
  have e2 : IntKind.i64.wrap (left - (f.size : Int) - (t.size : Int)) = left - f.size - t.size := by rw [IntKind.wrap_i64]; omega
  by_cases h2 : left - (f.size : Int) - (t.size : Int) < 0
  · go_enter Try.func9, Try.ntmps9
    go_wp2
    go_ret
    exact ⟨_, rfl, Or.inl (by omega), (belowRefl w).alloc (Nat.le_refl _) _⟩
  · have h2' : ¬ left - (f.size : Int) - (t.size : Int) < 0 := h2
    go_enter Try.func9, Try.ntmps9
    go_wp2
    go_ret
    exact ⟨_, rfl, Or.inr ⟨by omega, by omega, by omega⟩, (belowRefl w).alloc (Nat.le_refl _) _⟩

set_option maxHeartbeats 400000 in
theorem toc (f t : ByteArray) (w : World) :
    Calls Try.prog 11 #[.agg #[.string f, .string t]] w fun e w' => e = .returned (.agg #[.string f, .string t]) ∧ Below w.heap.size w w' := by
  go_enter Try.func11, Try.ntmps11
  go_wp2
  exact bodyPost_ret (v := .agg #[.string f, .string t]) (by simp [results, Try.results11, go_sem]) rfl ⟨rfl, (((belowRefl w).alloc (Nat.le_refl _) _).alloc (by simp) _).alloc (by simp; omega) _⟩

set_option maxRecDepth 100000 in
set_option maxHeartbeats 1000000 in
theorem szSC (xs : List Rg) (a : Option Addr) (c : Nat) (hn : xs.length ≤ maxLen) (hl : ∀ x ∈ xs, x.1.size ≤ maxLen ∧ x.2.size ≤ maxLen) (L : Int) (h0 : 0 ≤ L) (h1 : L ≤ 1048576) (w : World) (hp : GRow encR w a xs) :
    Calls Try.prog 4 #[.slice a xs.length c, .int .i64 L] w fun e w' => Below w.heap.size w w' ∧ ∃ r : Int, e = .returned (.int .i64 r) ∧ r ≤ 1048576 ∧ (0 ≤ r → xs.length ≤ 1048576 ∧ RFit xs) := by
  have HP : Hid (GRow encR w a xs) := hp
  have HL : Hid (∀ x ∈ xs, x.1.size ≤ maxLen ∧ x.2.size ≤ maxLen) := hl
  clear hp hl
  unfold maxLen at hn
  by_cases hneg : L - (xs.length : Int) < 0
  · go_enter Try.func4, Try.ntmps4
    go_wp2
    go_ret
    exact ⟨belowRefl w, -1, rfl, by omega, fun h => by omega⟩
  · have hneg' : decide (L - (xs.length : Int) < 0) = false := by simpa using hneg
    go_enter Try.func4, Try.ntmps4
    go_wp2
    go_loopw [1, 5] (fun tl t wr => ∃ (k : Nat) (l : Int), k ≤ xs.length ∧ t = .int .i64 k ∧ tl = .int .i64 l ∧ 0 ≤ l ∧ l ≤ 1048576 ∧ Hid (∀ j (hj : j < xs.length), j < k → xs[j].1.size ≤ 1048576 ∧ xs[j].2.size ≤ 1048576) ∧ Hid (Below w.heap.size w wr)) (fun _ t _ => xs.length - (intOf t).toNat)
    case atStart => exact ⟨0, L - (xs.length : Int), Nat.zero_le _, rfl, rfl, by omega, by omega, fun j hj h => by omega, belowRefl w⟩
    case round =>
      obtain ⟨k, l, hk, rfl, rfl, hl0, hl1, HA, HB⟩ := hrel
      by_cases hlt : k < xs.length
      · have hlt' : (k : Int) < (xs.length : Int) := by omega
        have hk0 : (0 : Int) ≤ (k : Int) := by omega
        obtain ⟨b, off, rfl, hbl, hc⟩ := (HP.out.below HB.out) (by omega)
        have r0 := ((rat hc) k hlt).1
        have r1 := ((rat hc) k hlt).2
        have HZ : Hid (xs[k].1.size ≤ maxLen ∧ xs[k].2.size ≤ maxLen) := HL.out _ (List.getElem_mem hlt)
        clear hc
        go_wp2_with fail
        refine (szc xs[k].1 xs[k].2 l hl0 hl1 HZ.out.1 HZ.out.2 _).mono ?_
        rintro e w2 ⟨r, rfl, hr, hb2⟩
        have HB2 : Hid (Below w.heap.size w w2) := HB.out.trans (hb2.mono HB.out.size)
        clear hb2 r0 r1
        by_cases hn2 : r < 0
        · clear hr
          go_wp2
          go_ret
          exact ⟨HB2.out, -1, rfl, by omega, fun h => by omega⟩
        · have hn3 : ¬ r < 0 := hn2
          have HR : Hid (0 ≤ r ∧ r ≤ l ∧ (xs[k].1.size : Int) + xs[k].2.size + r = l) := by
            rcases hr with hr | hr
            · exact absurd hr hn2
            · exact hr
          have HA2 : Hid (∀ j (hj : j < xs.length), j < k + 1 → xs[j].1.size ≤ 1048576 ∧ xs[j].2.size ≤ 1048576) := fun j hj h => by
            by_cases e : j = k
            · subst e; have := HR.out; omega
            · exact HA.out j hj (by omega)
          have hr0 : 0 ≤ r := HR.out.1
          have hr1 : r ≤ 1048576 := Int.le_trans HR.out.2.1 hl1
          clear hn2 hr
          go_wp2
          go_roundw
          case rel => exact ⟨k + 1, r, by omega, by go_num, rfl, hr0, hr1, HA2, HB2⟩
          case measure => simp [intOf]; omega
      · have hlt' : ¬ (k : Int) < (xs.length : Int) := by omega
        have HA2 : Hid (∀ x ∈ xs, x.1.size ≤ 1048576 ∧ x.2.size ≤ 1048576) := fun s hs => by
          obtain ⟨j, hj, rfl⟩ := List.getElem_of_mem hs
          exact HA.out j hj (by omega)
        go_wp2
        go_ret
        exact ⟨HB.out, l, rfl, hl1, fun _ => ⟨by omega, HA2.out⟩⟩

set_option maxRecDepth 100000 in
set_option maxHeartbeats 1000000 in
theorem toSC (xs : List Rg) (a : Option Addr) (c : Nat) (hn : xs.length ≤ 100000000) (w : World) (hp : GRow encR w a xs) :
    Calls Try.prog 6 #[.slice a xs.length c] w fun e w' => ∃ a1 c1, e = .returned (.slice a1 xs.length c1) ∧ GOwn encR 34 w' w.heap.size (.slice a1 xs.length c1) xs ∧ Below w.heap.size w w' := by
  have HP : Hid (GRow encR w a xs) := hp
  clear hp
  have hmk := mkRow 25 34 2 _ _ Try.underlying25 Try.info34 xs.length hn (by omega)
  go_enter Try.func6, Try.ntmps6
  go_wp2
  clear hmk
  obtain ⟨cs0, hcs0⟩ : ∃ cs, cs = madeCells (Value.agg #[.string ByteArray.empty, .string ByteArray.empty]).cells (xs.length * 2) := ⟨_, rfl⟩
  have HO : Hid ((w.alloc (.cells cs0 34)).ownsRow w.heap.size 34 2 (.slice (some ⟨w.heap.size, 0, none⟩) xs.length xs.length) xs.length cs0.toList) :=
    World.ownsRow_lit w _ _ (Nat.le_refl _) (by unfold maxLen; omega) (by rw [hcs0, size_madeCells])
  rw [hcs0] at HO
  clear hcs0 cs0
  go_loopw [4] (fun t wr => ∃ (k : Nat) (cs : List Value), k ≤ xs.length ∧ t = .int .i64 k ∧ Hid (wr.ownsRow w.heap.size 34 2 (.slice (some ⟨w.heap.size, 0, none⟩) xs.length xs.length) xs.length cs) ∧ Hid (∀ j, j < k * 2 → cs[j]? = (encR.cells xs)[j]?) ∧ Hid (Below w.heap.size w wr)) (fun t _ => xs.length - (intOf t).toNat)
  case atStart => exact ⟨0, _, Nat.zero_le _, rfl, HO, fun j hj => by omega, (belowRefl w).alloc (Nat.le_refl _) _⟩
  case round =>
    obtain ⟨k, cs, hk, rfl, HX, HA, HB⟩ := hrel
    by_cases hlt : k < xs.length
    · have hlt' : (k : Int) < (xs.length : Int) := by omega
      have h0 : (0 : Int) ≤ (k : Int) := by omega
      obtain ⟨b, off, rfl, hbl, hc⟩ := (HP.out.below HB.out) (by omega)
      have r0 := ((rat hc) k hlt).1
      have r1 := ((rat hc) k hlt).2
      clear hc
      have hgl : w.heap.size < wr.heap.size := (World.ownsRow.lt HX.out _ rfl).2
      go_wp2_with fail
      refine (toc xs[k].1 xs[k].2 _).mono ?_
      rintro e w2 ⟨rfl, hb2⟩
      have HX0 : Hid (w2.ownsRow w.heap.size 34 2 (.slice (some ⟨w.heap.size, 0, none⟩) xs.length xs.length) xs.length cs) := ownsBelow HX.out hb2
      have HB2 : Hid (Below w.heap.size w w2) := HB.out.trans (hb2.mono HB.out.size)
      clear r0 r1 hb2
      have hlen := HX0.out.1
      have hq0 : w2.cell? ⟨w.heap.size, k * 2, none⟩ = some (cs[k * 2]'(by omega)) := by
        rw [World.ownsRow.cellAt HX0.out (k * 2) (by omega)]; simp
      have hf0 := World.ownsRow.frozenAt HX0.out (k * 2)
      have hq1 : w2.cell? ⟨w.heap.size, k * 2 + 1, none⟩ = some (cs[k * 2 + 1]'(by omega)) := by
        rw [World.ownsRow.cellAt HX0.out (k * 2 + 1) (by omega)]; simp
      have hf1 := World.ownsRow.frozenAt HX0.out (k * 2 + 1)
      have hx2 := (World.ownsRow.stored (World.ownsRow.stored HX0.out (k * 2) (.string xs[k].1)).1 (k * 2 + 1) (.string xs[k].2)).1
      have HX3 : Hid _ := hx2
      clear hx2
      have HA2 : Hid (∀ j, j < (k + 1) * 2 → ((cs.set (k * 2) (.string xs[k].1)).set (k * 2 + 1) (.string xs[k].2))[j]? = (encR.cells xs)[j]?) := fun j hj => by
        by_cases e0 : j = k * 2
        · subst e0
          rw [List.getElem?_set_ne (by omega), List.getElem?_set_self (by omega)]
          have := encR.cells_at xs k hlt 0 (by decide)
          simp only [encR, Nat.add_zero] at this ⊢
          rw [this]; rfl
        by_cases e1 : j = k * 2 + 1
        · subst e1
          rw [List.getElem?_set_self (by simp; omega)]
          have := encR.cells_at xs k hlt 1 (by decide)
          simp only [encR] at this ⊢
          rw [this]; rfl
        rw [List.getElem?_set_ne (by omega), List.getElem?_set_ne (by omega)]
        exact HA.out j (by omega)
      go_wp2
      go_roundw
      case rel => exact ⟨k + 1, _, by omega, by go_num, HX3, HA2, ((HB2.out.setCell (Nat.le_refl _) _).setCell (Nat.le_refl _) _)⟩
      case measure => simp [intOf]; omega
    · have hlt' : ¬ (k : Int) < (xs.length : Int) := by omega
      have HD : Hid (GOwn encR 34 wr w.heap.size (.slice (some ⟨w.heap.size, 0, none⟩) xs.length xs.length) xs) := gown_of rfl HX.out (fun j hj => HA.out j (Nat.lt_of_lt_of_le hj (Nat.mul_le_mul_right _ (by omega))))
      go_wp2
      go_ret
      exact ⟨_, _, rfl, HD.out, HB.out⟩

end Go.Proofs.Ytjieojfcmigcdaa

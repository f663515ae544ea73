/- What DrawDiskOk, DrawReadSector and DrawSectorText draw; sameDisk. -/
import Derived.Test.YtnfkecefkkdedaaY3
import Derived.Laws.StructEq
namespace Go.Proofs.Ytnfkecefkkdedaa
open Go.RowKit
open DM
attribute [local go_sem ↓] Go.wp_at_zero Go.wp_at_succ

theorem pick_cells (w : World) (zs : List Int) (hb : ∀ z ∈ zs, -9223372036854775808 ≤ z ∧ z ≤ 9223372036854775807) : ∀ j, j < zs.length → ∃ z : Int, -9223372036854775808 ≤ z ∧ z ≤ 9223372036854775807 ∧ (w.alloc (.cells (zs.map fun z : Int => Value.int .i64 z).toArray 3)).cell? ⟨w.heap.size, j, none⟩ = some (.int .i64 z) := fun j hj => by
  have h := hb _ (List.getElem_mem hj)
  refine ⟨zs[j], h.1, h.2, ?_⟩
  rw [show (w.alloc (.cells (zs.map fun z : Int => Value.int .i64 z).toArray 3)).cell? ⟨w.heap.size, j, none⟩ = _ from World.cell?_alloc_mark w _ 3 (0, 0) j]
  simp [hj]

set_option maxRecDepth 100000 in
set_option maxHeartbeats 1000000 in
theorem place70 (g len cap : Nat) (a : Option Addr) (hl : len ≤ 1048576) (w : World) (hc : CurOk w g a len cap) (hg : g < w.heap.size) :
    Calls Try.prog 70 #[.pointer (some ⟨g, 0, none⟩), .int .i64 5] w fun e w' => ∃ z : Int, -9223372036854775808 ≤ z ∧ z ≤ 9223372036854775807 ∧ e = .returned (.int .i64 z) ∧ CurOk w' g a len cap ∧ w.grownBy w' (some g) := by
  have HC : Hid (CurOk w g a len cap) := hc
  have HON : Hid (∀ (W : World), CurOk W g a len cap → Calls Try.prog 93 #[.pointer (some ⟨g, 0, none⟩), .int .i64 15] W fun e w' => ∃ b : Bool, e = .returned (.bool b) ∧ CurOk w' g a len cap ∧ W.grownBy w' (some g)) := fun W h => once19 g len cap a 15 (by omega) (by omega) hl W h
  have HB5 : Hid (∀ (W : World), CurOk W g a len cap → Calls Try.prog 57 #[.pointer (some ⟨g, 0, none⟩), .int .i64 5] W fun e w' => ∃ x : Nat, x < 5 ∧ e = .returned (.int .i64 (x : Int)) ∧ CurOk w' g a len cap ∧ W.grownBy w' (some g)) := fun W h => below21 g len cap a 5 (by omega) (by omega) hl W h
  clear hc
  go_enter Try.func70, Try.ntmps70
  go_wp2_with fail
  refine (HON.out _ HC.out).mono ?_
  rintro e w1 ⟨b, rfl, hc1, hg1⟩
  have HC1 : Hid (CurOk w1 g a len cap) := hc1
  have HG1 : Hid (w.grownBy w1 (some g)) := hg1
  have hz1 : g < w1.heap.size := Nat.lt_of_lt_of_le hg hg1.size
  clear hc1 hg1
  cases b with
  | true =>
    go_wp2_with fail
    refine (pick24 g len cap a w1.heap.size 5 5 (by omega) (by omega) hl (w1.alloc (.cells #[.int .i64 (-1), .int .i64 5, .int .i64 6, .int .i64 9223372036854775807, .int .i64 (-9223372036854775808)] 3)) (HC1.out.alloc hz1 _) (by omega) (by simp) (pick_cells w1 [-1, 5, 6, 9223372036854775807, -9223372036854775808] (by decide))).mono ?_
    rintro e w2 ⟨z, h1, h2, rfl, hc2, hg2⟩
    have HC2 : Hid (CurOk w2 g a len cap) := hc2
    have HG2 : Hid (w.grownBy w2 (some g)) := grown_trans (grown_trans HG1.out (grown_alloc w1 g _)) hg2
    have HZ : Hid (-9223372036854775808 ≤ z ∧ z ≤ 9223372036854775807) := ⟨h1, h2⟩
    clear hc2 hg2 h1 h2
    go_wp2
    go_ret
    exact ⟨z, HZ.out.1, HZ.out.2, rfl, HC2.out, HG2.out⟩
  | false =>
    go_wp2_with fail
    refine (HB5.out _ HC1.out).mono ?_
    rintro e w2 ⟨x, hx, rfl, hc2, hg2⟩
    have HC2 : Hid (CurOk w2 g a len cap) := hc2
    have HG2 : Hid (w.grownBy w2 (some g)) := grown_trans HG1.out hg2
    clear hc2 hg2
    go_wp2
    go_ret
    exact ⟨(x : Int), by omega, by omega, rfl, HC2.out, HG2.out⟩

def Q23 (w : World) (e : Ending) (w' : World) : Prop := ∃ (ss : List ByteArray) (cur : List Wr) (b1 : Option Addr) (d1 : Nat) (b2 : Option Addr) (d2 : Nat), e = .returned (.agg #[.slice b1 ss.length d1, .slice b2 cur.length d2]) ∧ DOwn w' w.heap.size b1 d1 b2 d2 ss cur ∧ DaI ss cur ∧ Below w.heap.size w w'
def Q24 (w : World) (e : Ending) (w' : World) : Prop := ∃ (ss : List ByteArray) (cur : List Wr) (b1 : Option Addr) (d1 : Nat) (b2 : Option Addr) (d2 : Nat) (f : Int), e = .returned (.tuple #[.agg #[.slice b1 ss.length d1, .slice b2 cur.length d2], .int .i64 f]) ∧ DOwn w' w.heap.size b1 d1 b2 d2 ss cur ∧ DaI ss cur ∧ (-9223372036854775808 ≤ f ∧ f ≤ 9223372036854775807) ∧ Below w.heap.size w w'
def Q25 (w : World) (e : Ending) (w' : World) : Prop := ∃ (ss : List ByteArray) (cur : List Wr) (b1 : Option Addr) (d1 : Nat) (b2 : Option Addr) (d2 : Nat) (f n : Int), e = .returned (.tuple #[.agg #[.slice b1 ss.length d1, .slice b2 cur.length d2], .int .i64 f, .int .i64 n]) ∧ DOwn w' w.heap.size b1 d1 b2 d2 ss cur ∧ DaI ss cur ∧ (-9223372036854775808 ≤ f ∧ f ≤ 9223372036854775807) ∧ Below w.heap.size w w'

set_option maxRecDepth 100000 in
set_option maxHeartbeats 2000000 in
theorem ddok23 (len cap : Nat) (a : Option Addr) (hl : len ≤ 1048576) (w : World) (hr : CodeRow w a len) :
    Calls Try.prog 23 #[.slice a len cap] w fun e w' => Q23 w e w' := by
  have HR : Hid (CodeRow w a len) := hr
  have HCODE : Hid (∀ b off, a = some ⟨b, off, none⟩ → 0 < len → b < w.heap.size) := hr.blk
  clear hr
  have YR0 : Hid (Bx (w.alloc (.cells #[.slice none 0 0, .slice none 0 0] 27)) w.heap.size (.slice none 0 0) (.slice none 0 0)) := Bx.new w _ _ 27
  have b0 : Hid (Below w.heap.size w (w.alloc (.cells #[.slice none 0 0, .slice none 0 0] 27))) := (belowRefl w).alloc (Nat.le_refl _) _
  have z0 : (w.alloc (.cells #[.slice none 0 0, .slice none 0 0] 27)).heap.size = w.heap.size + 1 := by simp
  go_enter Try.func23, Try.ntmps23
  go_wp2_with fail
  refine (new16 len cap a hl _ (HR.out.below b0.out)).mono ?_
  rintro e w1 ⟨rfl, hc1, hb1, hz1⟩
  rw [z0] at hc1 hz1
  have YR1 : Hid (Bx w1 w.heap.size (.slice none 0 0) (.slice none 0 0)) := YR0.out.keep hb1 YR0.out.lt
  have HB1 : Hid (Below w.heap.size w w1) := b0.out.trans (hb1.mono b0.out.size)
  obtain ⟨g, hgE⟩ : ∃ g, g = w.heap.size + 1 := ⟨_, rfl⟩
  rw [← hgE] at hc1 hz1
  have hgl : w.heap.size < g := by omega
  rw [z0, ← hgE]
  have HC1 : Hid (CurOk w1 g a len cap) := hc1
  clear hb1 hc1 YR0 b0 z0 hgE
  go_wp2_with fail
  refine (sany68 g len cap a hl _ HC1.out hz1 (fun b off e h0 => Nat.lt_of_lt_of_le (HCODE.out b off e h0) HB1.out.size)).mono ?_
  rintro e w2 ⟨ss, cur, x1, x2, x3, x4, rfl, hd2, hI2, hc2, hg2⟩
  have HI : Hid (DaI ss cur) := hI2
  have YR2 : Hid (Bx w2 w.heap.size (.slice none 0 0) (.slice none 0 0)) := YR1.out.keepG hg2 (fun e => by have := Option.some.inj e; omega)
  have HB2 : Hid (Below w.heap.size w w2) := HB1.out.trans (below_of_grown hg2 (by omega) HB1.out.size)
  have HD2 : Hid (DOwn w2 (w.heap.size + 1) x1 x2 x3 x4 ss cur) := hd2.mono (by omega)
  have r0 := YR2.out.c0
  have r1 := YR2.out.c1
  have rf := YR2.out.fz
  have V9 : Hid (Bx ((w2.setCell ⟨w.heap.size, 0, none⟩ (.slice x1 ss.length x2)).setCell ⟨w.heap.size, 1, none⟩ (.slice x3 cur.length x4)) w.heap.size (.slice x1 ss.length x2) (.slice x3 cur.length x4)) := (YR2.out.set0 _).set1 _
  have v0 := V9.out.c0
  have v1 := V9.out.c1
  clear hd2 hI2 hc2 hg2 YR1 HB1 HC1
  go_wp2
  refine bodyPost_ret (v := .agg #[.slice x1 ss.length x2, .slice x3 cur.length x4]) (by simp [results, Try.results23, go_sem, v0, v1]) rfl ⟨ss, cur, x1, x2, x3, x4, rfl, ⟨?_, ?_⟩, HI.out, ?_⟩
  · exact ((HD2.out.s.set (by show w.heap.size < _; omega) _).set (by show w.heap.size < _; omega) _).mono (by omega)
  · exact ((HD2.out.p.set (by show w.heap.size < _; omega) _).set (by show w.heap.size < _; omega) _).mono (by omega)
  · exact (HB2.out.setCell (Nat.le_refl _) _).setCell (Nat.le_refl _) _

set_option maxRecDepth 100000 in
set_option maxHeartbeats 2000000 in
theorem drs24 (len cap : Nat) (a : Option Addr) (hl : len ≤ 1048576) (w : World) (hr : CodeRow w a len) :
    Calls Try.prog 24 #[.slice a len cap] w fun e w' => Q24 w e w' := by
  have HR : Hid (CodeRow w a len) := hr
  have HCODE : Hid (∀ b off, a = some ⟨b, off, none⟩ → 0 < len → b < w.heap.size) := hr.blk
  clear hr
  have YR0 : Hid (Bx (w.alloc (.cells #[.slice none 0 0, .slice none 0 0] 27)) w.heap.size (.slice none 0 0) (.slice none 0 0)) := Bx.new w _ _ 27
  have b0 : Hid (Below w.heap.size w (w.alloc (.cells #[.slice none 0 0, .slice none 0 0] 27))) := (belowRefl w).alloc (Nat.le_refl _) _
  have z0 : (w.alloc (.cells #[.slice none 0 0, .slice none 0 0] 27)).heap.size = w.heap.size + 1 := by simp
  go_enter Try.func24, Try.ntmps24
  go_wp2_with fail
  refine (new16 len cap a hl _ (HR.out.below b0.out)).mono ?_
  rintro e w1 ⟨rfl, hc1, hb1, hz1⟩
  rw [z0] at hc1 hz1
  have YR1 : Hid (Bx w1 w.heap.size (.slice none 0 0) (.slice none 0 0)) := YR0.out.keep hb1 YR0.out.lt
  have HB1 : Hid (Below w.heap.size w w1) := b0.out.trans (hb1.mono b0.out.size)
  obtain ⟨g, hgE⟩ : ∃ g, g = w.heap.size + 1 := ⟨_, rfl⟩
  rw [← hgE] at hc1 hz1
  have hgl : w.heap.size < g := by omega
  rw [z0, ← hgE]
  have HC1 : Hid (CurOk w1 g a len cap) := hc1
  clear hb1 hc1 YR0 b0 z0 hgE
  go_wp2_with fail
  refine (place70 g len cap a hl _ HC1.out hz1).mono ?_
  rintro e w5 ⟨f, hf1, hf2, rfl, hc5, hg5⟩
  have HC5 : Hid (CurOk w5 g a len cap) := hc5
  have YR5 : Hid (Bx w5 w.heap.size (.slice none 0 0) (.slice none 0 0)) := YR1.out.keepG hg5 (fun e => by have := Option.some.inj e; omega)
  have HB5 : Hid (Below w.heap.size w w5) := HB1.out.trans (below_of_grown hg5 (by omega) HB1.out.size)
  have hz5 : g < w5.heap.size := Nat.lt_of_lt_of_le hz1 hg5.size
  have HF : Hid (-9223372036854775808 ≤ f ∧ f ≤ 9223372036854775807) := ⟨hf1, hf2⟩
  clear hc5 hg5 hf1 hf2 HC1 YR1 HB1
  go_wp2_with fail
  refine (sany68 g len cap a hl _ HC5.out hz5 (fun b off e h0 => Nat.lt_of_lt_of_le (HCODE.out b off e h0) HB5.out.size)).mono ?_
  rintro e w2 ⟨ss, cur, x1, x2, x3, x4, rfl, hd2, hI2, hc2, hg2⟩
  have HI : Hid (DaI ss cur) := hI2
  have YR2 : Hid (Bx w2 w.heap.size (.slice none 0 0) (.slice none 0 0)) := YR5.out.keepG hg2 (fun e => by have := Option.some.inj e; omega)
  have HB2 : Hid (Below w.heap.size w w2) := HB5.out.trans (below_of_grown hg2 (by omega) HB5.out.size)
  have HD2 : Hid (DOwn w2 (w.heap.size + 1) x1 x2 x3 x4 ss cur) := hd2.mono (by omega)
  have r0 := YR2.out.c0
  have r1 := YR2.out.c1
  have rf := YR2.out.fz
  have V9 : Hid (Bx ((w2.setCell ⟨w.heap.size, 0, none⟩ (.slice x1 ss.length x2)).setCell ⟨w.heap.size, 1, none⟩ (.slice x3 cur.length x4)) w.heap.size (.slice x1 ss.length x2) (.slice x3 cur.length x4)) := (YR2.out.set0 _).set1 _
  have v0 := V9.out.c0
  have v1 := V9.out.c1
  clear hd2 hI2 hc2 hg2 YR5 HB5 HC5
  go_wp2
  refine bodyPost_ret (v := .tuple #[.agg #[.slice x1 ss.length x2, .slice x3 cur.length x4], .int .i64 f]) (by simp [results, Try.results24, go_sem, v0, v1]) rfl ⟨ss, cur, x1, x2, x3, x4, f, rfl, ⟨?_, ?_⟩, HI.out, HF.out, ?_⟩
  · exact ((HD2.out.s.set (by show w.heap.size < _; omega) _).set (by show w.heap.size < _; omega) _).mono (by omega)
  · exact ((HD2.out.p.set (by show w.heap.size < _; omega) _).set (by show w.heap.size < _; omega) _).mono (by omega)
  · exact (HB2.out.setCell (Nat.le_refl _) _).setCell (Nat.le_refl _) _

set_option maxRecDepth 100000 in
set_option maxHeartbeats 2000000 in
theorem dst25 (len cap : Nat) (a : Option Addr) (hl : len ≤ 1048576) (w : World) (hr : CodeRow w a len) :
    Calls Try.prog 25 #[.slice a len cap] w fun e w' => Q25 w e w' := by
  have HR : Hid (CodeRow w a len) := hr
  have HCODE : Hid (∀ b off, a = some ⟨b, off, none⟩ → 0 < len → b < w.heap.size) := hr.blk
  clear hr
  have YR0 : Hid (Bx (w.alloc (.cells #[.slice none 0 0, .slice none 0 0] 27)) w.heap.size (.slice none 0 0) (.slice none 0 0)) := Bx.new w _ _ 27
  have b0 : Hid (Below w.heap.size w (w.alloc (.cells #[.slice none 0 0, .slice none 0 0] 27))) := (belowRefl w).alloc (Nat.le_refl _) _
  have z0 : (w.alloc (.cells #[.slice none 0 0, .slice none 0 0] 27)).heap.size = w.heap.size + 1 := by simp
  go_enter Try.func25, Try.ntmps25
  go_wp2_with fail
  refine (new16 len cap a hl _ (HR.out.below b0.out)).mono ?_
  rintro e w1 ⟨rfl, hc1, hb1, hz1⟩
  rw [z0] at hc1 hz1
  have YR1 : Hid (Bx w1 w.heap.size (.slice none 0 0) (.slice none 0 0)) := YR0.out.keep hb1 YR0.out.lt
  have HB1 : Hid (Below w.heap.size w w1) := b0.out.trans (hb1.mono b0.out.size)
  obtain ⟨g, hgE⟩ : ∃ g, g = w.heap.size + 1 := ⟨_, rfl⟩
  rw [← hgE] at hc1 hz1
  have hgl : w.heap.size < g := by omega
  rw [z0, ← hgE]
  have HC1 : Hid (CurOk w1 g a len cap) := hc1
  clear hb1 hc1 YR0 b0 z0 hgE
  go_wp2_with fail
  refine (place70 g len cap a hl _ HC1.out hz1).mono ?_
  rintro e w5 ⟨f, hf1, hf2, rfl, hc5, hg5⟩
  have HC5 : Hid (CurOk w5 g a len cap) := hc5
  have YR5 : Hid (Bx w5 w.heap.size (.slice none 0 0) (.slice none 0 0)) := YR1.out.keepG hg5 (fun e => by have := Option.some.inj e; omega)
  have HB5 : Hid (Below w.heap.size w w5) := HB1.out.trans (below_of_grown hg5 (by omega) HB1.out.size)
  have hz5 : g < w5.heap.size := Nat.lt_of_lt_of_le hz1 hg5.size
  have HF : Hid (-9223372036854775808 ≤ f ∧ f ≤ 9223372036854775807) := ⟨hf1, hf2⟩
  clear hc5 hg5 hf1 hf2 HC1 YR1 HB1
  go_wp2_with fail
  refine (pick24 g len cap a w5.heap.size 6 6 (by omega) (by omega) hl (w5.alloc (.cells #[.int .i64 0, .int .i64 1, .int .i64 2, .int .i64 3, .int .i64 (-1), .int .i64 101] 3)) (HC5.out.alloc hz5 _) (by omega) (by simp) (pick_cells w5 [0, 1, 2, 3, -1, 101] (by decide))).mono ?_
  rintro e w6 ⟨n, hn1, hn2, rfl, hc6, hg6⟩
  have bA : Below w.heap.size w (w5.alloc (.cells #[.int .i64 0, .int .i64 1, .int .i64 2, .int .i64 3, .int .i64 (-1), .int .i64 101] 3)) := HB5.out.alloc HB5.out.size _
  have HC6 : Hid (CurOk w6 g a len cap) := hc6
  have YR6 : Hid (Bx w6 w.heap.size (.slice none 0 0) (.slice none 0 0)) := (YR5.out.alloc _).keepG hg6 (fun e => by have := Option.some.inj e; omega)
  have HB6 : Hid (Below w.heap.size w w6) := bA.trans (below_of_grown hg6 (by omega) bA.size)
  have hz6 : g < w6.heap.size := Nat.lt_of_lt_of_le hz5 (Nat.le_trans (by simp) hg6.size)
  clear hc6 hg6 hn1 hn2 HC5 YR5 HB5 bA
  go_wp2_with fail
  refine (sany68 g len cap a hl _ HC6.out hz6 (fun b off e h0 => Nat.lt_of_lt_of_le (HCODE.out b off e h0) HB6.out.size)).mono ?_
  rintro e w2 ⟨ss, cur, x1, x2, x3, x4, rfl, hd2, hI2, hc2, hg2⟩
  have HI : Hid (DaI ss cur) := hI2
  have YR2 : Hid (Bx w2 w.heap.size (.slice none 0 0) (.slice none 0 0)) := YR6.out.keepG hg2 (fun e => by have := Option.some.inj e; omega)
  have HB2 : Hid (Below w.heap.size w w2) := HB6.out.trans (below_of_grown hg2 (by omega) HB6.out.size)
  have HD2 : Hid (DOwn w2 (w.heap.size + 1) x1 x2 x3 x4 ss cur) := hd2.mono (by omega)
  have r0 := YR2.out.c0
  have r1 := YR2.out.c1
  have rf := YR2.out.fz
  have V9 : Hid (Bx ((w2.setCell ⟨w.heap.size, 0, none⟩ (.slice x1 ss.length x2)).setCell ⟨w.heap.size, 1, none⟩ (.slice x3 cur.length x4)) w.heap.size (.slice x1 ss.length x2) (.slice x3 cur.length x4)) := (YR2.out.set0 _).set1 _
  have v0 := V9.out.c0
  have v1 := V9.out.c1
  clear hd2 hI2 hc2 hg2 YR6 HB6 HC6
  go_wp2
  refine bodyPost_ret (v := .tuple #[.agg #[.slice x1 ss.length x2, .slice x3 cur.length x4], .int .i64 f, .int .i64 n]) (by simp [results, Try.results25, go_sem, v0, v1]) rfl ⟨ss, cur, x1, x2, x3, x4, f, n, rfl, ⟨?_, ?_⟩, HI.out, HF.out, ?_⟩
  · exact ((HD2.out.s.set (by show w.heap.size < _; omega) _).set (by show w.heap.size < _; omega) _).mono (by omega)
  · exact ((HD2.out.p.set (by show w.heap.size < _; omega) _).set (by show w.heap.size < _; omega) _).mono (by omega)
  · exact (HB2.out.setCell (Nat.le_refl _) _).setCell (Nat.le_refl _) _

set_option maxRecDepth 100000 in
set_option maxHeartbeats 2000000 in
theorem same21 (ss : List ByteArray) (ps : List Wr) (a1 a2 b1 b2 : Option Addr) (c1 c2 d1 d2 : Nat) (hn : ss.length ≤ 100000000) (hm : ps.length ≤ 100000000) (w : World) (h1 : SRow w a1 ss) (h2 : PRow w a2 ps) (h3 : SRow w b1 ss) (h4 : PRow w b2 ps) :
    Calls Try.prog 21 #[.agg #[.slice a1 ss.length c1, .slice a2 ps.length c2], .agg #[.slice b1 ss.length d1, .slice b2 ps.length d2]] w fun e w' => e = .returned (.bool true) ∧ Below w.heap.size w w' := by
  have HS : Hid (∀ W : World, Below w.heap.size w W → Calls Try.prog 20 #[.slice a1 ss.length c1, .slice b1 ss.length d1] W fun e w' => e = .returned (.bool true) ∧ Below W.heap.size W w') := fun W h => same20 a1 b1 c1 d1 ss hn W (h1.below h) (h3.below h)
  have H2 : Hid (PRow w a2 ps) := h2
  have H4 : Hid (PRow w b2 ps) := h4
  have X0 : Hid (Bx ((w.alloc (.cells #[.slice a1 ss.length c1, .slice a2 ps.length c2] 27)).alloc (.cells #[.slice b1 ss.length d1, .slice b2 ps.length d2] 27)) w.heap.size (.slice a1 ss.length c1) (.slice a2 ps.length c2)) := (Bx.new w _ _ _).alloc _
  have X1 : Hid (Bx ((w.alloc (.cells #[.slice a1 ss.length c1, .slice a2 ps.length c2] 27)).alloc (.cells #[.slice b1 ss.length d1, .slice b2 ps.length d2] 27)) (w.heap.size + 1) (.slice b1 ss.length d1) (.slice b2 ps.length d2)) := by
    have h := Bx.new (w.alloc (.cells #[.slice a1 ss.length c1, .slice a2 ps.length c2] 27)) (.slice b1 ss.length d1) (.slice b2 ps.length d2) 27
    show Bx _ _ _ _
    simpa using h
  have B0 : Hid (Below w.heap.size w ((w.alloc (.cells #[.slice a1 ss.length c1, .slice a2 ps.length c2] 27)).alloc (.cells #[.slice b1 ss.length d1, .slice b2 ps.length d2] 27))) := ((belowRefl w).alloc (Nat.le_refl _) _).alloc (by simp) _
  clear h1 h2 h3 h4
  go_enter Try.func21, Try.ntmps21
  go_wp2_with fail
  refine (HS.out _ B0.out).mono ?_
  rintro e w1 ⟨rfl, hb1⟩
  have Y0 : Hid (Bx w1 w.heap.size (.slice a1 ss.length c1) (.slice a2 ps.length c2)) := X0.out.keep hb1 X0.out.lt
  have Y1 : Hid (Bx w1 (w.heap.size + 1) (.slice b1 ss.length d1) (.slice b2 ps.length d2)) := X1.out.keep hb1 X1.out.lt
  have B1 : Hid (Below w.heap.size w w1) := B0.out.trans (hb1.mono B0.out.size)
  clear hb1 X0 X1 B0
  have g1 := Y0.out.c1
  have k1 := Y1.out.c1
  go_wp2
  go_loopw [5] (fun t wr => ∃ k : Nat, k ≤ ps.length ∧ t = .int .i64 k ∧ Hid (Below w1.heap.size w1 wr)) (fun t _ => ps.length - (intOf t).toNat)
  case atStart => exact ⟨0, Nat.zero_le _, rfl, Below.refl _ _⟩
  case round =>
    obtain ⟨k, hk, rfl, HB⟩ := hrel
    clear g1 k1
    have HBw : Hid (Below w.heap.size w wr) := B1.out.trans (HB.out.mono B1.out.size)
    have Yr0 : Hid (Bx wr w.heap.size (.slice a1 ss.length c1) (.slice a2 ps.length c2)) := Y0.out.keep HB.out Y0.out.lt
    have Yr1 : Hid (Bx wr (w.heap.size + 1) (.slice b1 ss.length d1) (.slice b2 ps.length d2)) := Y1.out.keep HB.out Y1.out.lt
    have g1 := Yr0.out.c1
    have k1 := Yr1.out.c1
    by_cases hlt : k < ps.length
    · have hlt' : (k : Int) < (ps.length : Int) := by omega
      have h0 : (0 : Int) ≤ (k : Int) := by omega
      obtain ⟨e1, off1, rfl, hl1, q1⟩ := (H2.out.below HBw.out) (by omega)
      obtain ⟨e2, off2, rfl, hl2, q2⟩ := (H4.out.below HBw.out) (by omega)
      have r10 := (q1 k hlt).1
      have r11 := (q1 k hlt).2
      have r20 := (q2 k hlt).1
      have r21 := (q2 k hlt).2
      clear q1 q2
      go_wp2
      go_quiet (fail)
      go_wp2
      go_roundw
      case rel => exact ⟨k + 1, by omega, by go_num, below_drewN HB.out _⟩
      case measure => simp [intOf]; omega
    · have hd : ¬ (k : Int) < (ps.length : Int) := by omega
      go_wp2
      go_ret
      exact ⟨rfl, HBw.out⟩
end Go.Proofs.Ytnfkecefkkdedaa

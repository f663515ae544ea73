/- What spec.l03Disk draws: a right disk of at most six sectors with at most 24 writes. -/
import Derived.Test.YtnfkecefkkdedaaG1
import Derived.Test.YtnfkecefkkdedaaW5
import Derived.Test.YtnfkecefkkdedaaY1
namespace Go.Proofs.Ytnfkecefkkdedaa
open Go.RowKit
open DM
attribute [local go_sem ↓] Go.wp_at_zero Go.wp_at_succ

/-- a drawn disk: right, small -/
def DkI (ss : List ByteArray) (ps : List Wr) (m : Nat) : Prop := okB ss ps = true ∧ ss.length ≤ 6 ∧ ps.length ≤ m
theorem DkI.flush {ss : List ByteArray} {ps : List Wr} {m : Nat} (h : DkI ss ps m) : DkI (flS ss ps) (flP ss ps) m :=
  ⟨okB_flush h.1, by rw [flS_yes h.1, flush_len]; exact h.2.1, by rw [flP_yes h.1]; simp⟩
theorem DkI.mono {ss : List ByteArray} {ps : List Wr} {m k : Nat} (h : DkI ss ps m) (hk : m ≤ k) : DkI ss ps k := ⟨h.1, h.2.1, Nat.le_trans h.2.2 hk⟩
theorem DkI.new {x : Nat} (h : x < 6) : DkI (nwS ((1 + x : Nat) : Int)) [] 0 ∧ nwB ((1 + x : Nat) : Int) = true := by
  have hb : nwB ((1 + x : Nat) : Int) = true := by simp [nwB]; omega
  refine ⟨⟨?_, ?_, by simp⟩, hb⟩
  · rw [nwS_yes hb, okB_iff]
    refine ⟨by simp [zerosS]; omega, by simp [zerosS]; omega, by simp, fun s hs => ?_, fun p hp => by cases hp⟩
    rw [(List.mem_replicate.1 hs).2]
    simp [longB, ByteArray.size]
  · rw [nwS_yes hb]; simp [zerosS]; omega

set_option maxRecDepth 100000 in
set_option maxHeartbeats 8000000 in
theorem sdisk54 (g len cap : Nat) (a : Option Addr) (hl : len ≤ 1048576) (w : World) (hc : CurOk w g a len cap) (hg : g < w.heap.size) (hcode : ∀ b off, a = some ⟨b, off, none⟩ → 0 < len → b < w.heap.size) :
    Calls Try.prog 54 #[.pointer (some ⟨g, 0, none⟩)] w fun e w' => ∃ (ss : List ByteArray) (cur : List Wr) (b1 : Option Addr) (d1 : Nat) (b2 : Option Addr) (d2 : Nat), e = .returned (.agg #[.slice b1 ss.length d1, .slice b2 cur.length d2]) ∧ DOwn w' w.heap.size b1 d1 b2 d2 ss cur ∧ DkI ss cur 24 ∧ CurOk w' g a len cap ∧ w.grownBy w' (some g) := by
  have HCODE : Hid (∀ b off, a = some ⟨b, off, none⟩ → 0 < len → b < w.heap.size) := hcode
  have HBL : Hid (∀ (n : Nat) (W : World), 0 < n → n ≤ 1000000000 → CurOk W g a len cap → Calls Try.prog 57 #[.pointer (some ⟨g, 0, none⟩), .int .i64 (n : Int)] W fun e w' => ∃ x : Nat, x < n ∧ e = .returned (.int .i64 (x : Int)) ∧ CurOk w' g a len cap ∧ W.grownBy w' (some g)) := fun n W h0 h1 h => below21 g len cap a n h0 h1 hl W h
  have HB6 : Hid (∀ (W : World), CurOk W g a len cap → Calls Try.prog 57 #[.pointer (some ⟨g, 0, none⟩), .int .i64 6] W fun e w' => ∃ x : Nat, x < 6 ∧ e = .returned (.int .i64 (x : Int)) ∧ CurOk w' g a len cap ∧ W.grownBy w' (some g)) := fun W h => below21 g len cap a 6 (by omega) (by omega) hl W h
  have HB9 : Hid (∀ (W : World), CurOk W g a len cap → Calls Try.prog 57 #[.pointer (some ⟨g, 0, none⟩), .int .i64 9] W fun e w' => ∃ x : Nat, x < 9 ∧ e = .returned (.int .i64 (x : Int)) ∧ CurOk w' g a len cap ∧ W.grownBy w' (some g)) := fun W h => below21 g len cap a 9 (by omega) (by omega) hl W h
  have HB70 : Hid (∀ (W : World), CurOk W g a len cap → Calls Try.prog 57 #[.pointer (some ⟨g, 0, none⟩), .int .i64 70] W fun e w' => ∃ x : Nat, x < 70 ∧ e = .returned (.int .i64 (x : Int)) ∧ CurOk w' g a len cap ∧ W.grownBy w' (some g)) := fun W h => below21 g len cap a 70 (by omega) (by omega) hl W h
  have HB90 : Hid (∀ (W : World), CurOk W g a len cap → Calls Try.prog 57 #[.pointer (some ⟨g, 0, none⟩), .int .i64 90] W fun e w' => ∃ x : Nat, x < 90 ∧ e = .returned (.int .i64 (x : Int)) ∧ CurOk w' g a len cap ∧ W.grownBy w' (some g)) := fun W h => below21 g len cap a 90 (by omega) (by omega) hl W h
  have HON : Hid (∀ (W : World), CurOk W g a len cap → Calls Try.prog 93 #[.pointer (some ⟨g, 0, none⟩), .int .i64 4] W fun e w' => ∃ b : Bool, e = .returned (.bool b) ∧ CurOk w' g a len cap ∧ W.grownBy w' (some g)) := fun W h => once19 g len cap a 4 (by omega) (by omega) hl W h
  have HTX : Hid (∀ (x : Nat) (W : World), x < 90 → DS w g a len cap W → Calls Try.prog 74 #[.pointer (some ⟨g, 0, none⟩), .int .i64 (x : Int)] W fun e w' => ∃ s : ByteArray, s.size < 90 ∧ e = .returned (.string s) ∧ CurOk w' g a len cap ∧ W.grownBy w' (some g)) := fun x W hx h => by
    have h2 := text22 g len cap a x (by omega) hl W h.cur (Nat.lt_of_lt_of_le hg h.gr.size) (fun b off e h0 => Nat.lt_of_lt_of_le (hcode b off e h0) h.gr.size)
    refine h2.mono ?_
    rintro e w' ⟨s, hs, h3⟩
    exact ⟨s, by omega, h3⟩
  obtain ⟨P, hP⟩ : ∃ P : List Wr, P = [] := ⟨_, rfl⟩
  have HNW : Hid (∀ (x : Nat) (W : World), x < 6 → Calls Try.prog 91 #[.int .i64 (1 + (x : Int))] W fun e w' => ∃ (ss : List ByteArray) (f1 : Option Addr) (f2 : Nat) (f3 : Option Addr) (f4 : Nat), e = .returned (.tuple #[.agg #[.slice f1 ss.length f2, .slice f3 P.length f4], .bool true]) ∧ DOwn w' W.heap.size f1 f2 f3 f4 ss P ∧ Hid (DkI ss P 0) ∧ Below W.heap.size W w') := fun x W hx => by
    have h := snew39 ((1 + x : Nat) : Int) W
    have hn := DkI.new hx
    rw [hn.2, size3 hx] at h
    rw [hP]
    refine h.mono ?_
    rintro e w' ⟨f1, f2, f3, f4, h1, h2, h3⟩
    exact ⟨_, f1, f2, f3, f4, h1, h2, by have := hn.1; rw [size3 hx] at this; exact this, h3⟩
  have HWB : Hid (∀ (m k0 q : Nat) (ss : List ByteArray) (cur : List Wr) (t : ByteArray), m ≤ 30 → k0 < ss.length → q < 70 → t.size < 90 → DkI ss cur m → ∀ (W : World) (B : Nat) (x1 : Option Addr) (x2 : Nat) (x3 : Option Addr) (x4 : Nat), DOwn W B x1 x2 x3 x4 ss cur → Calls Try.prog 92 #[.agg #[.slice x1 ss.length x2, .slice x3 cur.length x4], .int .i64 (k0 : Int), .int .i64 (q : Int), .string t] W fun e w' => ∃ (nc : List Wr) (ok : Bool) (f1 : Option Addr) (f2 : Nat) (f3 : Option Addr) (f4 : Nat), e = .returned (.tuple #[.agg #[.slice f1 ss.length f2, .slice f3 nc.length f4], .bool ok]) ∧ DOwn w' W.heap.size f1 f2 f3 f4 ss nc ∧ Hid (DkI ss nc (m + 3)) ∧ Below W.heap.size W w') := fun m k0 q ss cur t hm hk hq ht hI W B x1 x2 x3 x4 h => by
    have h2 := swbR ss cur k0 q t x1 x3 x2 x4 B hI.1 (by have := hI.2.2; omega) hk (by omega) W h
    refine h2.mono ?_
    rintro e w' ⟨nc, ok, f1, f2, f3, f4, h3, h4, h5, h6, h7⟩
    exact ⟨nc, ok, f1, f2, f3, f4, h3, h4, ⟨h5, hI.2.1, by have := hI.2.2; omega⟩, h7⟩
  have HFL : Hid (∀ (m : Nat) (ss : List ByteArray) (cur : List Wr), m ≤ 30 → DkI ss cur m → ∀ (W : World) (B : Nat) (x1 : Option Addr) (x2 : Nat) (x3 : Option Addr) (x4 : Nat), DOwn W B x1 x2 x3 x4 ss cur → Calls Try.prog 30 #[.agg #[.slice x1 ss.length x2, .slice x3 cur.length x4]] W fun e w' => ∃ (ns : List ByteArray) (nc : List Wr) (f1 : Option Addr) (f2 : Nat) (f3 : Option Addr) (f4 : Nat), e = .returned (.agg #[.slice f1 ns.length f2, .slice f3 nc.length f4]) ∧ DOwn w' W.heap.size f1 f2 f3 f4 ns nc ∧ Hid (DkI ns nc m) ∧ Below W.heap.size W w') := fun m ss cur hm hI W B x1 x2 x3 x4 h => by
    refine (sflush38 ss cur x1 x3 x2 x4 B (by have := hI.2.1; omega) (by have := hI.2.2; omega) W h).mono ?_
    rintro e w' ⟨f1, f2, f3, f4, h3, h4, h5⟩
    exact ⟨_, _, f1, f2, f3, f4, h3, h4, hI.flush, h5⟩
  have DS0 : Hid (DS w g a len cap w) := ⟨hc, grown_refl w _⟩
  clear hP hc hcode
  have YR0 : Hid (Bx (w.alloc (.cells #[.slice none 0 0, .slice none 0 0] 27)) w.heap.size (.slice none 0 0) (.slice none 0 0)) := Bx.new w _ _ 27
  have DS1 : Hid (DS w g a len cap (w.alloc (.cells #[.slice none 0 0, .slice none 0 0] 27))) := DS0.out.alloc hg _
  have z0 : w.heap.size + 1 ≤ (w.alloc (.cells #[.slice none 0 0, .slice none 0 0] 27)).heap.size := by simp
  go_enter Try.func54, Try.ntmps54
  go_wp2_with fail
  refine (HB6.out _ DS1.out.cur).mono ?_
  rintro e wa ⟨x, hx, rfl, hca, hga⟩
  have YRa : Hid (Bx wa w.heap.size (.slice none 0 0) (.slice none 0 0)) := YR0.out.keptG hga hg
  have DSa : Hid (DS w g a len cap wa) := DS1.out.step hca hga
  have za : w.heap.size + 1 ≤ wa.heap.size := Nat.le_trans z0 hga.size
  have hwx : IntKind.i64.wrap (1 + (x : Int)) = 1 + (x : Int) := by rw [IntKind.wrap_i64]; omega
  clear hca hga YR0 DS1 DS0 z0
  go_wp2_with fail
  refine (HNW.out x _ hx).mono ?_
  rintro e w1 ⟨ss, z1, z2, z3, z4, rfl, hd1, HI0, hb1⟩
  have YR1 : Hid (Bx (w1.alloc (.cells #[.slice z1 ss.length z2, .slice z3 P.length z4] 27)) w.heap.size (.slice none 0 0) (.slice none 0 0)) := (YRa.out.keep hb1 YRa.out.lt).alloc _
  have YX1 : Hid (Bx (w1.alloc (.cells #[.slice z1 ss.length z2, .slice z3 P.length z4] 27)) w1.heap.size (.slice z1 ss.length z2) (.slice z3 P.length z4)) := Bx.new w1 _ _ 27
  have DX1 : Hid (DOwn (w1.alloc (.cells #[.slice z1 ss.length z2, .slice z3 P.length z4] 27)) (w.heap.size + 1) z1 z2 z3 z4 ss P) := (hd1.mono za).below ((belowRefl w1).alloc (Nat.le_refl _) _)
  have DS2 : Hid (DS w g a len cap (w1.alloc (.cells #[.slice z1 ss.length z2, .slice z3 P.length z4] 27))) := (DSa.out.call hg hb1).alloc hg _
  have hX : w.heap.size + 1 ≤ w1.heap.size := Nat.le_trans za hb1.size
  clear hd1 hb1 za YRa DSa hwx
  go_wp2
  generalize w1.heap.size = X at *
  go_loopw [5] (fun ti wr => ∃ (k : Nat) (ss : List ByteArray) (cur : List Wr) (x1 : Option Addr) (x2 : Nat) (x3 : Option Addr) (x4 : Nat), k ≤ 8 ∧ ti = .int .i64 k ∧ Hid (DkI ss cur (3 * k)) ∧ Hid (Bx wr w.heap.size (.slice none 0 0) (.slice none 0 0)) ∧ Hid (Bx wr X (.slice x1 ss.length x2) (.slice x3 cur.length x4)) ∧ Hid (DOwn wr (w.heap.size + 1) x1 x2 x3 x4 ss cur) ∧ Hid (DS w g a len cap wr)) (fun ti _ => 9 - (intOf ti).toNat)
  case atStart => exact ⟨0, ss, P, z1, z2, z3, z4, by omega, rfl, HI0, YR1, YX1, DX1, DS2⟩
  case round =>
    clear HI0 YR1 YX1 DX1 DS2 HNW
    obtain ⟨k, ss, cur, x1, x2, x3, x4, hk, rfl, HI, YRr, YXr, DXr, DSr⟩ := hrel
    go_wp2_with fail
    refine (HB9.out _ DSr.out.cur).mono ?_
    rintro e w2 ⟨x, hx, rfl, hc2, hg2⟩
    have YR2 : Hid (Bx w2 w.heap.size (.slice none 0 0) (.slice none 0 0)) := YRr.out.keptG hg2 hg
    have YX2 : Hid (Bx w2 X (.slice x1 ss.length x2) (.slice x3 cur.length x4)) := YXr.out.keptG hg2 (by omega)
    have DX2 : Hid (DOwn w2 (w.heap.size + 1) x1 x2 x3 x4 ss cur) := DXr.out.keptG hg2 (by omega)
    have DS2 : Hid (DS w g a len cap w2) := DSr.out.step hc2 hg2
    have q02 := YX2.out.c0
    have q12 := YX2.out.c1
    clear hc2 hg2 YRr YXr DXr DSr
    by_cases hkx : k < x
    · have hkx' : (k : Int) < (x : Int) := by omega
      have hk7 : k ≤ 7 := by omega
      have hs0 : 0 < ss.length ∧ ss.length ≤ 6 := ⟨(okB_iff.1 HI.out.1).1, HI.out.2.1⟩
      have hs1 : Hid (0 < ss.length ∧ ss.length ≤ 1000000000) := ⟨hs0.1, by omega⟩
      clear hx hkx
      go_wp2
      clear hkx'
      go_region_law (go_simp; first
          | (go_at_call 57
             with_reducible refine (HBL.out ss.length _ hs1.out.1 hs1.out.2 (DS2.out.drew hg).cur).mono ?_
             rintro e w3 ⟨k0, hk0, rfl, hc3, hg3'⟩
             have hg3 : w2.grownBy w3 (some g) := grown_trans (grown_below (belowRefl w2).drew) hg3'
             have YR3 : Hid (Bx w3 w.heap.size (.slice none 0 0) (.slice none 0 0)) := YR2.out.keptG hg3 hg
             have YX3 : Hid (Bx w3 X (.slice x1 ss.length x2) (.slice x3 cur.length x4)) := YX2.out.keptG hg3 (by omega)
             have DX3 : Hid (DOwn w3 (w.heap.size + 1) x1 x2 x3 x4 ss cur) := DX2.out.keptG hg3 (by omega)
             have DS3 : Hid (DS w g a len cap w3) := DS2.out.step hc3 hg3
             have q03 := YX3.out.c0
             have q13 := YX3.out.c1
             clear hc3 hg3 hg3')
          | (go_at_call 57
             with_reducible refine (HB70.out _ DS3.out.cur).mono ?_
             rintro e w4 ⟨q, hq, rfl, hc4, hg4⟩
             have YR4 : Hid (Bx w4 w.heap.size (.slice none 0 0) (.slice none 0 0)) := YR3.out.keptG hg4 hg
             have YX4 : Hid (Bx w4 X (.slice x1 ss.length x2) (.slice x3 cur.length x4)) := YX3.out.keptG hg4 (by omega)
             have DX4 : Hid (DOwn w4 (w.heap.size + 1) x1 x2 x3 x4 ss cur) := DX3.out.keptG hg4 (by omega)
             have DS4 : Hid (DS w g a len cap w4) := DS3.out.step hc4 hg4
             have q04 := YX4.out.c0
             have q14 := YX4.out.c1
             clear hc4 hg4)
          | (go_at_call 57
             with_reducible refine (HB90.out _ DS4.out.cur).mono ?_
             rintro e w5 ⟨n, hn, rfl, hc5, hg5⟩
             have YR5 : Hid (Bx w5 w.heap.size (.slice none 0 0) (.slice none 0 0)) := YR4.out.keptG hg5 hg
             have YX5 : Hid (Bx w5 X (.slice x1 ss.length x2) (.slice x3 cur.length x4)) := YX4.out.keptG hg5 (by omega)
             have DX5 : Hid (DOwn w5 (w.heap.size + 1) x1 x2 x3 x4 ss cur) := DX4.out.keptG hg5 (by omega)
             have DS5 : Hid (DS w g a len cap w5) := DS4.out.step hc5 hg5
             have q05 := YX5.out.c0
             have q15 := YX5.out.c1
             clear hc5 hg5)
          | (go_at_call 74
             refine (HTX.out n _ hn DS5.out).mono ?_
             rintro e w6 ⟨s, hs, rfl, hc6, hg6⟩
             have YR6 : Hid (Bx w6 w.heap.size (.slice none 0 0) (.slice none 0 0)) := YR5.out.keptG hg6 hg
             have YX6 : Hid (Bx w6 X (.slice x1 ss.length x2) (.slice x3 cur.length x4)) := YX5.out.keptG hg6 (by omega)
             have DX6 : Hid (DOwn w6 (w.heap.size + 1) x1 x2 x3 x4 ss cur) := DX5.out.keptG hg6 (by omega)
             have DS6 : Hid (DS w g a len cap w6) := DS5.out.step hc6 hg6
             have q06 := YX6.out.c0
             have q16 := YX6.out.c1
             clear hc6 hg6)
          | (go_at_call 92
             refine (HWB.out (3 * k) k0 q ss cur s (by omega) hk0 hq hs HI.out _ _ _ _ _ _ DX6.out).mono ?_
             rintro e w8 ⟨nc, ok, u1, u2, u3, u4, rfl, hd8, HI8, hb8⟩
             have YR8 : Hid (Bx w8 w.heap.size (.slice none 0 0) (.slice none 0 0)) := YR6.out.keep hb8 YR6.out.lt
             have YX8 : Hid (Bx w8 X (.slice x1 ss.length x2) (.slice x3 cur.length x4)) := YX6.out.keep hb8 YX6.out.lt
             have DS8 : Hid (DS w g a len cap w8) := DS6.out.call hg hb8
             have h6s : X + 1 ≤ w6.heap.size := YX6.out.lt
             have DX8 : Hid (DOwn w8 (X + 1) u1 u2 u3 u4 ss nc) := hd8.mono (by omega)
             have q08 := YX8.out.c0
             have q18 := YX8.out.c1
             have qf8 := YX8.out.fz))
      all_goals
        have V1 : Hid (Bx ((w8.setCell ⟨X, 0, none⟩ (.slice u1 ss.length u2)).setCell ⟨X, 1, none⟩ (.slice u3 nc.length u4)) w.heap.size (.slice none 0 0) (.slice none 0 0)) := (YR8.out.setO (by show X ≠ _; omega) _).setO (by show X ≠ _; omega) _
        have V2 : Hid (Bx ((w8.setCell ⟨X, 0, none⟩ (.slice u1 ss.length u2)).setCell ⟨X, 1, none⟩ (.slice u3 nc.length u4)) X (.slice u1 ss.length u2) (.slice u3 nc.length u4)) := (YX8.out.set0 _).set1 _
        have VD : Hid (DOwn ((w8.setCell ⟨X, 0, none⟩ (.slice u1 ss.length u2)).setCell ⟨X, 1, none⟩ (.slice u3 nc.length u4)) (w.heap.size + 1) u1 u2 u3 u4 ss nc) := ⟨((DX8.out.s.set (by show X < _; omega) _).set (by show X < _; omega) _).mono (by omega), ((DX8.out.p.set (by show X < _; omega) _).set (by show X < _; omega) _).mono (by omega)⟩
        have VS : Hid (DS w g a len cap ((w8.setCell ⟨X, 0, none⟩ (.slice u1 ss.length u2)).setCell ⟨X, 1, none⟩ (.slice u3 nc.length u4))) := (DS8.out.set hg HCODE.out _ _ (by show w.heap.size ≤ X; omega)).set hg HCODE.out _ _ (by show w.heap.size ≤ X; omega)
        generalize ((w8.setCell ⟨X, 0, none⟩ (.slice u1 ss.length u2)).setCell ⟨X, 1, none⟩ (.slice u3 nc.length u4)) = W9 at *
        go_wp2_with fail
        refine (HON.out _ VS.out.cur).mono ?_
        rintro e w10 ⟨b, rfl, hc10, hg10⟩
        have YRA : Hid (Bx w10 w.heap.size (.slice none 0 0) (.slice none 0 0)) := V1.out.keptG hg10 hg
        have YXA : Hid (Bx w10 X (.slice u1 ss.length u2) (.slice u3 nc.length u4)) := V2.out.keptG hg10 (by omega)
        have DXA : Hid (DOwn w10 (w.heap.size + 1) u1 u2 u3 u4 ss nc) := VD.out.keptG hg10 (by omega)
        have DSA : Hid (DS w g a len cap w10) := VS.out.step hc10 hg10
        clear hc10 hg10 V1 V2 VD VS
        cases b with
        | true =>
          have e0 := YXA.out.c0
          have e1 := YXA.out.c1
          go_wp2_with fail
          refine (HFL.out (3 * k + 3) ss nc (by omega) HI8.out _ _ _ _ _ _ DXA.out).mono ?_
          rintro e w11 ⟨ns, np, v1, v2, v3, v4, rfl, hd11, HI11, hb11⟩
          have YRB : Hid (Bx w11 w.heap.size (.slice none 0 0) (.slice none 0 0)) := YRA.out.keep hb11 YRA.out.lt
          have YXB : Hid (Bx w11 X (.slice u1 ss.length u2) (.slice u3 nc.length u4)) := YXA.out.keep hb11 YXA.out.lt
          have DSB : Hid (DS w g a len cap w11) := DSA.out.call hg hb11
          have h10s : X + 1 ≤ w10.heap.size := YXA.out.lt
          have DXB : Hid (DOwn w11 (X + 1) v1 v2 v3 v4 ns np) := hd11.mono (by omega)
          have g0 := YXB.out.c0
          have g1 := YXB.out.c1
          have gf := YXB.out.fz
          have V1 : Hid (Bx ((w11.setCell ⟨X, 0, none⟩ (.slice v1 ns.length v2)).setCell ⟨X, 1, none⟩ (.slice v3 np.length v4)) w.heap.size (.slice none 0 0) (.slice none 0 0)) := (YRB.out.setO (by show X ≠ _; omega) _).setO (by show X ≠ _; omega) _
          have V2 : Hid (Bx ((w11.setCell ⟨X, 0, none⟩ (.slice v1 ns.length v2)).setCell ⟨X, 1, none⟩ (.slice v3 np.length v4)) X (.slice v1 ns.length v2) (.slice v3 np.length v4)) := (YXB.out.set0 _).set1 _
          have VD : Hid (DOwn ((w11.setCell ⟨X, 0, none⟩ (.slice v1 ns.length v2)).setCell ⟨X, 1, none⟩ (.slice v3 np.length v4)) (w.heap.size + 1) v1 v2 v3 v4 ns np) := ⟨((DXB.out.s.set (by show X < _; omega) _).set (by show X < _; omega) _).mono (by omega), ((DXB.out.p.set (by show X < _; omega) _).set (by show X < _; omega) _).mono (by omega)⟩
          have VS : Hid (DS w g a len cap ((w11.setCell ⟨X, 0, none⟩ (.slice v1 ns.length v2)).setCell ⟨X, 1, none⟩ (.slice v3 np.length v4))) := (DSB.out.set hg HCODE.out _ _ (by show w.heap.size ≤ X; omega)).set hg HCODE.out _ _ (by show w.heap.size ≤ X; omega)
          clear e0 e1 hd11 hb11
          go_wp2
          go_roundw
          case rel => exact ⟨k + 1, ns, np, v1, v2, v3, v4, by omega, by go_num, HI11.out.mono (by omega), V1, V2, VD, VS⟩
          case measure => simp [intOf]; omega
        | false =>
          go_wp2
          go_roundw
          case rel => exact ⟨k + 1, ss, nc, u1, u2, u3, u4, by omega, by go_num, HI8.out.mono (by omega), YRA, YXA, DXA, DSA⟩
          case measure => simp [intOf]; omega
    · have hkx' : ¬ (k : Int) < (x : Int) := by omega
      have q0 := YX2.out.c0
      have q1 := YX2.out.c1
      have r0 := YR2.out.c0
      have r1 := YR2.out.c1
      have rf := YR2.out.fz
      have V9 : Hid (Bx ((w2.setCell ⟨w.heap.size, 0, none⟩ (.slice x1 ss.length x2)).setCell ⟨w.heap.size, 1, none⟩ (.slice x3 cur.length x4)) w.heap.size (.slice x1 ss.length x2) (.slice x3 cur.length x4)) := (YR2.out.set0 _).set1 _
      have v0 := V9.out.c0
      have v1 := V9.out.c1
      have DS9 : Hid (DS w g a len cap ((w2.setCell ⟨w.heap.size, 0, none⟩ (.slice x1 ss.length x2)).setCell ⟨w.heap.size, 1, none⟩ (.slice x3 cur.length x4))) := (DS2.out.set hg HCODE.out _ _ (by show w.heap.size ≤ w.heap.size; omega)).set hg HCODE.out _ _ (by show w.heap.size ≤ w.heap.size; omega)
      go_wp2
      refine bodyPost_ret (v := .agg #[.slice x1 ss.length x2, .slice x3 cur.length x4]) (by simp [results, Try.results54, go_sem, v0, v1]) rfl ⟨ss, cur, x1, x2, x3, x4, rfl, ⟨?_, ?_⟩, HI.out.mono (by omega), DS9.out.cur, DS9.out.gr⟩
      · exact ((DX2.out.s.set (by show w.heap.size < _; omega) _).set (by show w.heap.size < _; omega) _).mono (by omega)
      · exact ((DX2.out.p.set (by show w.heap.size < _; omega) _).set (by show w.heap.size < _; omega) _).mono (by omega)
end Go.Proofs.Ytnfkecefkkdedaa

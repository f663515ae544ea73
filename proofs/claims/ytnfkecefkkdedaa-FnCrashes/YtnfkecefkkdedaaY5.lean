/- What l03Keep and DrawCrashDisk draw. -/
import Derived.Test.YtnfkecefkkdedaaY4
import Derived.Test.YtnfkecefkkdedaaH1
namespace Go.Proofs.Ytnfkecefkkdedaa
open Go.RowKit
open DM
attribute [local go_sem ↓] Go.wp_at_zero Go.wp_at_succ

def icz (ks : List Int) : List Value := ks.map fun k : Int => Value.int .i64 k
theorem icz_app (ks : List Int) (x : Int) : icz (ks ++ [x]) = icz ks ++ [.int .i64 x] := by simp [icz]
theorem own_krow {w : World} {base G cp : Nat} {ks : List Int} (h : w.ownsRow base 3 1 (.slice (some ⟨G, 0, none⟩) ks.length cp) ks.length (icz ks)) : KRow w (some ⟨G, 0, none⟩) ks := fun _ =>
  ⟨G, 0, rfl, (World.ownsRow.lt h G rfl).2, fun j hj => by
    rw [Nat.zero_add, World.ownsRow.cellAt h j (by omega)]
    simp [icz, hj]⟩
def Q66 (w : World) (g : Nat) (a : Option Addr) (len cap : Nat) (e : Ending) (w' : World) : Prop := ∃ (ks : List Int) (G cp : Nat), e = .returned (.slice (some ⟨G, 0, none⟩) ks.length cp) ∧ ks.length ≤ 13 ∧ w'.ownsRow w.heap.size 3 1 (.slice (some ⟨G, 0, none⟩) ks.length cp) ks.length (icz ks) ∧ CurOk w' g a len cap ∧ w.grownBy w' (some g)

set_option maxRecDepth 100000 in
set_option maxHeartbeats 2000000 in
theorem keep66 (g len cap : Nat) (a : Option Addr) (hl : len ≤ 1048576) (w : World) (hc : CurOk w g a len cap) (hg : g < w.heap.size) (hcode : ∀ b off, a = some ⟨b, off, none⟩ → 0 < len → b < w.heap.size) :
    Calls Try.prog 66 #[.pointer (some ⟨g, 0, none⟩)] w fun e w' => Q66 w g a len cap e w' := by
  have HCODE : Hid (∀ b off, a = some ⟨b, off, none⟩ → 0 < len → b < w.heap.size) := hcode
  have HB14 : Hid (∀ (W : World), CurOk W g a len cap → Calls Try.prog 57 #[.pointer (some ⟨g, 0, none⟩), .int .i64 14] W fun e w' => ∃ x : Nat, x < 14 ∧ e = .returned (.int .i64 (x : Int)) ∧ CurOk w' g a len cap ∧ W.grownBy w' (some g)) := fun W h => below21 g len cap a 14 (by omega) (by omega) hl W h
  have HB3 : Hid (∀ (W : World), CurOk W g a len cap → Calls Try.prog 57 #[.pointer (some ⟨g, 0, none⟩), .int .i64 3] W fun e w' => ∃ x : Nat, x < 3 ∧ e = .returned (.int .i64 (x : Int)) ∧ CurOk w' g a len cap ∧ W.grownBy w' (some g)) := fun W h => below21 g len cap a 3 (by omega) (by omega) hl W h
  have DS0 : Hid (DS w g a len cap w) := ⟨hc, grown_refl w _⟩
  have HO0 : Hid ((w.alloc (.cells #[] 3)).ownsRow w.heap.size 3 1 (.slice (some ⟨w.heap.size, 0, none⟩) 0 0) 0 (icz [])) := World.ownsRow_lit (base := w.heap.size) (e := 3) (size := 1) w #[] 0 (Nat.le_refl _) (by unfold maxLen; omega) rfl
  clear hc hcode
  go_enter Try.func66, Try.ntmps66
  go_wp2
  go_loopw [3, 4] (fun tv ti wr => ∃ (k : Nat) (ks : List Int) (G cp : Nat), k ≤ 13 ∧ ti = .int .i64 k ∧ tv = .slice (some ⟨G, 0, none⟩) k cp ∧ Hid (ks.length = k) ∧ Hid (wr.ownsRow w.heap.size 3 1 (.slice (some ⟨G, 0, none⟩) k cp) k (icz ks)) ∧ Hid (DS w g a len cap wr)) (fun _ ti _ => 14 - (intOf ti).toNat)
  case atStart => exact ⟨0, [], w.heap.size, 0, by omega, rfl, rfl, rfl, HO0, DS0.out.alloc hg _⟩
  case round =>
    clear HO0 DS0
    obtain ⟨k, ks, G, cp, hk, rfl, rfl, HK, HO, HD⟩ := hrel
    go_wp2_with fail
    refine (HB14.out _ HD.out.cur).mono ?_
    rintro e w2 ⟨x, hx, rfl, hc2, hg2⟩
    have HD2 : Hid (DS w g a len cap w2) := HD.out.step hc2 hg2
    have HO2 : Hid (w2.ownsRow w.heap.size 3 1 (.slice (some ⟨G, 0, none⟩) k cp) k (icz ks)) := own_keptG HO.out hg2 hg
    clear hc2 hg2 HD HO
    by_cases hlt : k < x
    · have hlt' : (k : Int) < (x : Int) := by omega
      have hk12 : k ≤ 12 := by omega
      clear hx
      go_wp2_with fail
      refine (HB3.out _ HD2.out.cur).mono ?_
      rintro e w3 ⟨y, hy, rfl, hc3, hg3⟩
      have HD3 : Hid (DS w g a len cap w3) := HD2.out.step hc3 hg3
      have HO3 : Hid (w3.ownsRow w.heap.size 3 1 (.slice (some ⟨G, 0, none⟩) k cp) k (icz ks)) := own_keptG HO2.out hg3 hg
      have hw : IntKind.i64.wrap ((y : Int) - 1) = (y : Int) - 1 := by rw [IntKind.wrap_i64]; omega
      have hsz : w.heap.size ≤ w3.heap.size := HD3.out.gr.size
      have HK3 : Hid ((ks ++ [(y : Int) - 1]).length = k + 1) := by show _ = _; rw [List.length_append, HK.out]; rfl
      clear hc3 hg3 hlt hlt'
      go_wp2_with (at_builtin; refine wpAppH 29 3 1 8 (.int .i64 0) Try.underlying29 Try.info3 rfl (by decide) (by omega) (by rfl) _ _ (by rfl) (base := w.heap.size) (n := k) [.int .i64 ((y : Int) - 1)] (by rfl) (World.ownsRow.alloc HO3.out _) (by rfl) (by exact heap_alloc_new w3 _) rfl (by simp [Value.oneCell']) (by omega) (Nat.le_trans hsz (by simp)) ?_)
      intro g' cp' w4 hown4 hb4 hg4
      have HO4 : Hid (w4.ownsRow w.heap.size 3 1 (.slice (some ⟨g', 0, none⟩) (k + 1) cp') (k + 1) (icz (ks ++ [(y : Int) - 1]))) := by rw [icz_app]; exact hown4
      have HD4 : Hid (DS w g a len cap w4) := (HD3.out.alloc hg _).callB hb4 (Nat.le_refl _) hg HCODE.out
      clear hown4 hb4 hg4
      go_wp2
      go_roundw
      case rel => exact ⟨k + 1, _, g', cp', by omega, by go_num, by go_num, HK3, HO4, HD4⟩
      case measure => simp [intOf]; omega
    · have hlt' : ¬ (k : Int) < (x : Int) := by omega
      have HO5 : Hid (w2.ownsRow w.heap.size 3 1 (.slice (some ⟨G, 0, none⟩) ks.length cp) ks.length (icz ks)) := by show World.ownsRow _ _ _ _ _ _ _; rw [HK.out]; exact HO2.out
      have HL : Hid (ks.length ≤ 13) := by show _ ≤ _; rw [HK.out]; exact hk
      go_wp2
      go_ret
      exact ⟨ks, G, cp, by rw [HK.out]; rfl, HL.out, HO5.out, HD2.out.cur, HD2.out.gr⟩

def Q19 (w : World) (e : Ending) (w' : World) : Prop := ∃ (ss : List ByteArray) (cur : List Wr) (b1 : Option Addr) (d1 : Nat) (b2 : Option Addr) (d2 : Nat) (ks : List Int) (G cp : Nat) (t : Int), e = .returned (.tuple #[.agg #[.slice b1 ss.length d1, .slice b2 cur.length d2], .slice (some ⟨G, 0, none⟩) ks.length cp, .int .i64 t]) ∧ DOwn w' w.heap.size b1 d1 b2 d2 ss cur ∧ DaI ss cur ∧ KRow w' (some ⟨G, 0, none⟩) ks ∧ ks.length ≤ 13 ∧ Below w.heap.size w w'

set_option maxRecDepth 100000 in
set_option maxHeartbeats 2000000 in
theorem dcr19 (len cap : Nat) (a : Option Addr) (hl : len ≤ 1048576) (w : World) (hr : CodeRow w a len) :
    Calls Try.prog 19 #[.slice a len cap] w fun e w' => Q19 w e w' := by
  have HR : Hid (CodeRow w a len) := hr
  have HCODE : Hid (∀ b off, a = some ⟨b, off, none⟩ → 0 < len → b < w.heap.size) := hr.blk
  clear hr
  have YR0 : Hid (Bx (w.alloc (.cells #[.slice none 0 0, .slice none 0 0] 27)) w.heap.size (.slice none 0 0) (.slice none 0 0)) := Bx.new w _ _ 27
  have b0 : Hid (Below w.heap.size w (w.alloc (.cells #[.slice none 0 0, .slice none 0 0] 27))) := (belowRefl w).alloc (Nat.le_refl _) _
  have z0 : (w.alloc (.cells #[.slice none 0 0, .slice none 0 0] 27)).heap.size = w.heap.size + 1 := by simp
  go_enter Try.func19, Try.ntmps19
  go_wp2_with fail
  refine (new16 len cap a hl _ (HR.out.below b0.out)).mono ?_
  rintro e w1 ⟨rfl, hc1, hb1, hz1⟩
  rw [z0] at hc1 hz1
  have YR1 : Hid (Bx w1 w.heap.size (.slice none 0 0) (.slice none 0 0)) := YR0.out.keep hb1 YR0.out.lt
  have HB1 : Hid (Below w.heap.size w w1) := b0.out.trans (hb1.mono b0.out.size)
  obtain ⟨g, hgE⟩ : ∃ g, g = w.heap.size + 1 := ⟨_, rfl⟩
  rw [← hgE] at hc1 hz1
  have hgl : w.heap.size < g := by omega
  rw [z0, ← hgE]
  have HC1 : Hid (CurOk w1 g a len cap) := hc1
  clear hb1 hc1 YR0 b0 z0 hgE
  go_wp2_with fail
  refine (keep66 g len cap a hl _ HC1.out hz1 (fun b off e h0 => Nat.lt_of_lt_of_le (HCODE.out b off e h0) HB1.out.size)).mono ?_
  rintro e w5 ⟨ks, G, cp, rfl, hkl, ho5, hc5, hg5⟩
  have HC5 : Hid (CurOk w5 g a len cap) := hc5
  have YR5 : Hid (Bx w5 w.heap.size (.slice none 0 0) (.slice none 0 0)) := YR1.out.keepG hg5 (fun e => by have := Option.some.inj e; omega)
  have HB5 : Hid (Below w.heap.size w w5) := HB1.out.trans (below_of_grown hg5 (by omega) HB1.out.size)
  have hz5 : g < w5.heap.size := Nat.lt_of_lt_of_le hz1 hg5.size
  have HO5 : Hid (w5.ownsRow (g + 1) 3 1 (.slice (some ⟨G, 0, none⟩) ks.length cp) ks.length (icz ks)) := ownsMono ho5 hz1
  clear hc5 hg5 ho5 HC1 YR1 HB1
  go_wp2_with fail
  refine (pick24 g len cap a w5.heap.size 7 7 (by omega) (by omega) hl (w5.alloc (.cells #[.int .i64 0, .int .i64 1, .int .i64 17, .int .i64 64, .int .i64 65, .int .i64 (-1), .int .i64 9223372036854775807] 3)) (HC5.out.alloc hz5 _) (by omega) (by simp) (pick_cells w5 [0, 1, 17, 64, 65, -1, 9223372036854775807] (by decide))).mono ?_
  rintro e w6 ⟨n, hn1, hn2, rfl, hc6, hg6⟩
  have bA : Below w.heap.size w (w5.alloc (.cells #[.int .i64 0, .int .i64 1, .int .i64 17, .int .i64 64, .int .i64 65, .int .i64 (-1), .int .i64 9223372036854775807] 3)) := HB5.out.alloc HB5.out.size _
  have HC6 : Hid (CurOk w6 g a len cap) := hc6
  have YR6 : Hid (Bx w6 w.heap.size (.slice none 0 0) (.slice none 0 0)) := (YR5.out.alloc _).keepG hg6 (fun e => by have := Option.some.inj e; omega)
  have HB6 : Hid (Below w.heap.size w w6) := bA.trans (below_of_grown hg6 (by omega) bA.size)
  have hz6 : g < w6.heap.size := Nat.lt_of_lt_of_le hz5 (Nat.le_trans (by simp) hg6.size)
  have HO6 : Hid (w6.ownsRow (g + 1) 3 1 (.slice (some ⟨G, 0, none⟩) ks.length cp) ks.length (icz ks)) := own_keptG (World.ownsRow.alloc HO5.out _) hg6 (by omega)
  clear hc6 hg6 hn1 hn2 HC5 YR5 HB5 bA HO5
  go_wp2_with fail
  refine (sany68 g len cap a hl _ HC6.out hz6 (fun b off e h0 => Nat.lt_of_lt_of_le (HCODE.out b off e h0) HB6.out.size)).mono ?_
  rintro e w2 ⟨ss, cur, x1, x2, x3, x4, rfl, hd2, hI2, hc2, hg2⟩
  have HI : Hid (DaI ss cur) := hI2
  have YR2 : Hid (Bx w2 w.heap.size (.slice none 0 0) (.slice none 0 0)) := YR6.out.keepG hg2 (fun e => by have := Option.some.inj e; omega)
  have HB2 : Hid (Below w.heap.size w w2) := HB6.out.trans (below_of_grown hg2 (by omega) HB6.out.size)
  have HD2 : Hid (DOwn w2 (w.heap.size + 1) x1 x2 x3 x4 ss cur) := hd2.mono (by omega)
  have HO2 : Hid (w2.ownsRow (g + 1) 3 1 (.slice (some ⟨G, 0, none⟩) ks.length cp) ks.length (icz ks)) := own_keptG HO6.out hg2 (by omega)
  have HL : Hid (ks.length ≤ 13) := hkl
  have r0 := YR2.out.c0
  have r1 := YR2.out.c1
  have rf := YR2.out.fz
  have V9 : Hid (Bx ((w2.setCell ⟨w.heap.size, 0, none⟩ (.slice x1 ss.length x2)).setCell ⟨w.heap.size, 1, none⟩ (.slice x3 cur.length x4)) w.heap.size (.slice x1 ss.length x2) (.slice x3 cur.length x4)) := (YR2.out.set0 _).set1 _
  have v0 := V9.out.c0
  have v1 := V9.out.c1
  clear hd2 hI2 hc2 hg2 YR6 HB6 HC6 HO6
  go_wp2
  refine bodyPost_ret (v := .tuple #[.agg #[.slice x1 ss.length x2, .slice x3 cur.length x4], .slice (some ⟨G, 0, none⟩) ks.length cp, .int .i64 n]) (by simp [results, Try.results19, go_sem, v0, v1]) rfl ⟨ss, cur, x1, x2, x3, x4, ks, G, cp, n, rfl, ⟨?_, ?_⟩, HI.out, ?_, HL.out, ?_⟩
  · exact ((HD2.out.s.set (by show w.heap.size < _; omega) _).set (by show w.heap.size < _; omega) _).mono (by omega)
  · exact ((HD2.out.p.set (by show w.heap.size < _; omega) _).set (by show w.heap.size < _; omega) _).mono (by omega)
  · exact own_krow (ownsRow_setCell_below (ownsRow_setCell_below HO2.out (by show w.heap.size < _; omega) _) (by show w.heap.size < _; omega) _)
  · exact (HB2.out.setCell (Nat.le_refl _) _).setCell (Nat.le_refl _) _
end Go.Proofs.Ytnfkecefkkdedaa

/- What spec.DrawSwitchLog draws; two texts switched to. -/
import Derived.Test.YtekjpoenbcnhdaaGreatPa22
namespace Go.Proofs.YtekjpoenbcnhdaaGreat
open Go.RowKit
open DM
attribute [local go_sem ↓] Go.wp_at_zero Go.wp_at_succ

theorem own_keptG {w w' : World} {b e s n g : Nat} {v : Value} {xs : List Value} (h : w.ownsRow b e s v n xs) (hg : w.grownBy w' (some g)) (hlt : g < b) : w'.ownsRow b e s v n xs :=
 World.ownsRow.kept h hg (by
  cases e : v.ownBlock with
  | none => exact Or.inl rfl
  | some k => right; intro e2; have := (World.ownsRow.lt h k e).1; have := Option.some.inj e2; omega)
theorem SOwn.app {w : World} {base g cap : Nat} {ts : List ByteArray} {x : ByteArray} (h : w.ownsRow base 9 1 (.slice (some ⟨g, 0, none⟩) (ts.length + 1) cap) (ts.length + 1) (scs ts ++ [.string x])) : SOwn w base (.slice (some ⟨g, 0, none⟩) (ts.length + 1) cap) (ts ++ [x]) := by
 unfold SOwn
 rw [scs_app, List.length_append]
 exact h
def SwQ (w : World) (e : Ending) (w' : World) : Prop := ∃ (ss : List ByteArray) (cur : List Wr) (b1 : Option Addr) (d1 : Nat) (b2 : Option Addr) (d2 : Nat) (ts : List ByteArray) (al : Option Addr) (cl : Nat), e = .returned (.tuple #[.agg #[.slice b1 ss.length d1, .slice b2 cur.length d2], .slice al ts.length cl]) ∧ DOwn w' w.heap.size b1 d1 b2 d2 ss cur ∧ LaI ss cur ∧ SRow w' al ts ∧ (ts.length ≤ 3 ∧ ∀ t ∈ ts, t.size ≤ 30000) ∧ Below w.heap.size w w'

set_option maxRecDepth 100000 in
set_option maxHeartbeats 8000000 in
theorem dsw41 (len cap : Nat) (a : Option Addr) (hl : len ≤ 1048576) (w : World) (hr : CodeRow w a len) :
  Calls Tryz.prog 22 #[.slice a len cap] w fun e w' => SwQ w e w' := by
 have HR : Hid (CodeRow w a len) := hr
 have HCODE : Hid (∀ b off, a = some ⟨b, off, none⟩ → 0 < len → b < w.heap.size) := hr.blk
 clear hr
 have YR0 : Hid (Bx (w.alloc (.cells #[.slice none 0 0, .slice none 0 0] 27)) w.heap.size (.slice none 0 0) (.slice none 0 0)) := Bx.new w _ _ 27
 have b0 : Hid (Below w.heap.size w (w.alloc (.cells #[.slice none 0 0, .slice none 0 0] 27))) := (belowRefl w).alloc (Nat.le_refl _) _
 have z0 : (w.alloc (.cells #[.slice none 0 0, .slice none 0 0] 27)).heap.size = w.heap.size + 1 := by simp
 go_enter Tryz.func22, Tryz.ntmps22
 go_wp2_with fail
 refine (new16 len cap a hl _ (HR.out.below b0.out)).mono ?_
 rintro e w1 ⟨rfl, hc1, hb1, hz1⟩
 rw [z0] at hc1 hz1
 have YR1 : Hid (Bx w1 w.heap.size (.slice none 0 0) (.slice none 0 0)) := YR0.out.keep hb1 YR0.out.lt
 have HB1 : Hid (Below w.heap.size w w1) := b0.out.trans (hb1.mono b0.out.size)
 obtain ⟨g, hgE⟩ : ∃ g, g = w.heap.size + 1 := ⟨_, rfl⟩
 rw [← hgE] at hc1 hz1
 have hgl : w.heap.size < g := by omega
 rw [z0, ← hgE]
 have HC1 : Hid (CurOk w1 g a len cap) := hc1
 clear hb1 hc1 YR0 b0 z0 hgE HR
 have HCG : Hid (∀ b off, a = some ⟨b, off, none⟩ → 0 < len → b < g + 1) := fun b off e h0 => by have := HCODE.out b off e h0; omega
 have HBL : Hid (∀ (W : World), CurOk W g a len cap → Calls Tryz.prog 19 #[.pointer (some ⟨g, 0, none⟩), .int .i64 4] W fun e w' => ∃ x : Nat, x < 4 ∧ e = .returned (.int .i64 (x : Int)) ∧ CurOk w' g a len cap ∧ W.grownBy w' (some g)) := fun W h => below21 g len cap a 4 (by omega) (by omega) hl W h
 have HSD : Hid (∀ (W : World), CurOk W g a len cap → g < W.heap.size → Below w.heap.size w W → Calls Tryz.prog 56 #[.pointer (some ⟨g, 0, none⟩)] W fun e w' => ∃ s : ByteArray, s.size ≤ 30000 ∧ e = .returned (.string s) ∧ CurOk w' g a len cap ∧ W.grownBy w' (some g)) := fun W h h2 h3 => said82 g len cap a hl W h h2 (fun b off e h0 => Nat.lt_of_lt_of_le (HCODE.out b off e h0) h3.size)
 have O1 : Hid (SOwn (w1.alloc (.cells #[] 9)) (g + 1) (.slice (some ⟨w1.heap.size, 0, none⟩) 0 0) []) := SOwn.empty w1 (g + 1) hz1
 have YR2 : Hid (Bx (w1.alloc (.cells #[] 9)) w.heap.size (.slice none 0 0) (.slice none 0 0)) := YR1.out.alloc _
 have HB2 : Hid (Below w.heap.size w (w1.alloc (.cells #[] 9))) := HB1.out.alloc HB1.out.size _
 have HC2 : Hid (CurOk (w1.alloc (.cells #[] 9)) g a len cap) := HC1.out.alloc hz1 _
 have hg2 : g < (w1.alloc (.cells #[] 9)).heap.size := by simp; omega
 have HG2 : Hid (g < (w1.alloc (.cells #[] 9)).heap.size) := hg2
 clear YR1 HB1 HC1 hg2
 go_wp2
 go_loopw [5, 6] (fun v ti wr => ∃ (k : Nat) (ts : List ByteArray), k ≤ 3 ∧ ti = .int .i64 k ∧ Hid (ts.length ≤ k) ∧ Hid (∀ t ∈ ts, t.size ≤ 30000) ∧ Hid (SOwn wr (g + 1) v ts) ∧ Hid (Bx wr w.heap.size (.slice none 0 0) (.slice none 0 0)) ∧ Hid (Below w.heap.size w wr) ∧ Hid (CurOk wr g a len cap) ∧ Hid (g < wr.heap.size)) (fun _ ti _ => 4 - (intOf ti).toNat)
 case atStart => exact ⟨0, [], by omega, rfl, Nat.le_refl _, fun t h => (by cases h), O1, YR2, HB2, HC2, HG2⟩
 case round =>
  clear O1 YR2 HB2 HC2 HG2
  obtain ⟨k, ts, hk, rfl, HTL, HTS, HO, YR, HB, HC, HG⟩ := hrel
  go_wp2_with fail
  refine (HBL.out _ HC.out).mono ?_
  rintro e w2 ⟨x, hx, rfl, hc2, hg2⟩
  have O2 : Hid (SOwn w2 (g + 1) u5 ts) := own_keptG HO.out hg2 (by omega)
  have YR2 : Hid (Bx w2 w.heap.size (.slice none 0 0) (.slice none 0 0)) := YR.out.keepG hg2 (fun e => by have := Option.some.inj e; omega)
  have HB2 : Hid (Below w.heap.size w w2) := HB.out.trans (below_of_grown hg2 (by omega) HB.out.size)
  have HC2 : Hid (CurOk w2 g a len cap) := hc2
  have HG2 : Hid (g < w2.heap.size) := Nat.lt_of_lt_of_le HG.out hg2.size
  clear hc2 hg2 HO YR HB HC HG
  by_cases hkx : k < x
  ·have hkx' : (k : Int) < (x : Int) := by omega
   have hk2 : k ≤ 2 := by omega
   clear hx
   go_wp2_with fail
   refine (HSD.out _ HC2.out HG2.out HB2.out).mono ?_
   rintro e w3 ⟨s, hs, rfl, hc3, hg3⟩
   have O3 : Hid (SOwn w3 (g + 1) u5 ts) := own_keptG O2.out hg3 (by omega)
   have YR3 : Hid (Bx w3 w.heap.size (.slice none 0 0) (.slice none 0 0)) := YR2.out.keepG hg3 (fun e => by have := Option.some.inj e; omega)
   have HB3 : Hid (Below w.heap.size w w3) := HB2.out.trans (below_of_grown hg3 (by omega) HB2.out.size)
   have HC3 : Hid (CurOk w3 g a len cap) := hc3
   have HG3 : Hid (g < w3.heap.size) := Nat.lt_of_lt_of_le HG2.out hg3.size
   have HS : Hid (s.size ≤ 30000) := hs
   have hg1 : g + 1 ≤ w3.heap.size := HG3.out
   have hln : ts.length ≤ 100000000 := by have := HTL.out; omega
   clear hc3 hg3 hs O2 YR2 HB2 HC2 HG2
   go_wp2_with (at_builtin; refine wpAppG 24 9 1 16 (.string ByteArray.empty) Tryz.underlying24 Tryz.info9 rfl (by omega) (by omega) rfl _ _ rfl (W := w3.alloc (.cells #[.string s] 9)) [.string s] rfl (World.ownsRow.alloc O3.out _) rfl (by exact heap_alloc_new w3 _) rfl (by simp [Value.oneCell']) hln (by simp; omega) ?_)
   intro g' cap' w4 ho4 hb4
   have O4 : Hid (SOwn w4 (g + 1) (.slice (some ⟨g', 0, none⟩) (ts.length + 1) cap') (ts ++ [s])) := SOwn.app ho4
   have HB5 : Hid (Below (g + 1) w3 w4) := ((Below.refl _ w3).alloc hg1 _).trans hb4
   have YR4 : Hid (Bx w4 w.heap.size (.slice none 0 0) (.slice none 0 0)) := YR3.out.keep HB5.out (by omega)
   have HB4 : Hid (Below w.heap.size w w4) := HB3.out.trans (HB5.out.mono (by omega))
   have HC4 : Hid (CurOk w4 g a len cap) := HC3.out.belowB HB5.out (by omega) HCG.out
   have HG4 : Hid (g < w4.heap.size) := Nat.lt_of_lt_of_le HG3.out HB5.out.size
   have HTL4 : Hid ((ts ++ [s]).length ≤ k + 1) := by show _ ≤ _; have := HTL.out; simp; omega
   have HTS4 : Hid (∀ t ∈ ts ++ [s], t.size ≤ 30000) := fun t ht => by
    rcases List.mem_append.1 ht with h | h
    ·exact HTS.out t h
    ·rw [List.mem_singleton.1 h]; exact HS.out
   clear ho4 hb4 HB5 O3 YR3 HB3 HC3 HG3 HTL HTS HS
   go_wp2
   go_roundw
   case rel => exact ⟨k + 1, ts ++ [s], by omega, by go_num, HTL4, HTS4, O4, YR4, HB4, HC4, HG4⟩
   case measure => simp [intOf]; omega
  ·have hkx' : ¬ (k : Int) < (x : Int) := by omega
   clear hx
   obtain ⟨al, cl, hv, hsr⟩ := O2.out.row
   subst hv
   go_wp2_with fail
   refine (any83 g len cap a hl _ HC2.out HG2.out (fun b off e h0 => Nat.lt_of_lt_of_le (HCODE.out b off e h0) HB2.out.size)).mono ?_
   rintro e w3 ⟨ss, cur, x1, x2, x3, x4, rfl, hd3, hI3, hc3, hg3⟩
   have HI : Hid (LaI ss cur) := hI3
   have O3 : Hid (SOwn w3 (g + 1) (.slice al ts.length cl) ts) := own_keptG O2.out hg3 (by omega)
   have YR3 : Hid (Bx w3 w.heap.size (.slice none 0 0) (.slice none 0 0)) := YR2.out.keepG hg3 (fun e => by have := Option.some.inj e; omega)
   have HB3 : Hid (Below w.heap.size w w3) := HB2.out.trans (below_of_grown hg3 (by omega) HB2.out.size)
   have HD3 : Hid (DOwn w3 (w.heap.size + 1) x1 x2 x3 x4 ss cur) := hd3.mono (by have := HG2.out; omega)
   have r0 := YR3.out.c0
   have r1 := YR3.out.c1
   have rf := YR3.out.fz
   have V9 : Hid (Bx ((w3.setCell ⟨w.heap.size, 0, none⟩ (.slice x1 ss.length x2)).setCell ⟨w.heap.size, 1, none⟩ (.slice x3 cur.length x4)) w.heap.size (.slice x1 ss.length x2) (.slice x3 cur.length x4)) := (YR3.out.set0 _).set1 _
   have v0 := V9.out.c0
   have v1 := V9.out.c1
   have HTT : Hid (ts.length ≤ 3 ∧ ∀ t ∈ ts, t.size ≤ 30000) := ⟨by have := HTL.out; omega, HTS.out⟩
   clear hd3 hI3 hc3 hg3 O2 YR2 HB2 HC2 HG2 hsr HTL HTS
   go_wp2
   refine bodyPost_ret (v := .tuple #[.agg #[.slice x1 ss.length x2, .slice x3 cur.length x4], .slice al ts.length cl]) (by simp [results, Tryz.results22, go_sem, v0, v1]) rfl ⟨ss, cur, x1, x2, x3, x4, ts, al, cl, rfl, ⟨?_, ?_⟩, HI.out, ?_, HTT.out, ?_⟩
   ·exact ((HD3.out.s.set (by show w.heap.size < _; omega) _).set (by show w.heap.size < _; omega) _).mono (by omega)
   ·exact ((HD3.out.p.set (by show w.heap.size < _; omega) _).set (by show w.heap.size < _; omega) _).mono (by omega)
   ·exact ((O3.out.set (by show w.heap.size < _; omega) _).set (by show w.heap.size < _; omega) _).srow
   ·exact (HB3.out.setCell (Nat.le_refl _) _).setCell (Nat.le_refl _) _

end Go.Proofs.YtekjpoenbcnhdaaGreat

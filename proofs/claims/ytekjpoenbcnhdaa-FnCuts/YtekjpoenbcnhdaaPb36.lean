/- What spec.l03Disk draws: a right disk of at most six sectors with at most 24 writes. -/
import Derived.Test.YtekjpoenbcnhdaaPb11
import Derived.Test.YtekjpoenbcnhdaaPb32
import Derived.Test.YtekjpoenbcnhdaaPb30
import Derived.Test.YtekjpoenbcnhdaaPb13
import Derived.Test.YtekjpoenbcnhdaaPb31
import Derived.Test.YtekjpoenbcnhdaaPb17
import Derived.Laws.StructEq
import Derived.Test.YtekjpoenbcnhdaaPb19
import Derived.Deep.Cut
import Derived.Deep.CutRange
import Derived.Deep.RegionHeld3
import Derived.Test.YtekjpoenbcnhdaaPb33
import Derived.Test.YtekjpoenbcnhdaaPb34
import Derived.Test.YtekjpoenbcnhdaaPb35
namespace Go.Proofs.Ytekjpoenbcnhdaa
open Go.RowKit
open DM
attribute [local go_sem ↓] Go.wp_at_zero Go.wp_at_succ

def DkI (ss : List ByteArray) (ps : List Wr) (m : Nat) : Prop := okB ss ps = true ∧ ss.length ≤ 6 ∧ ps.length ≤ m
theorem DkI.mono {ss : List ByteArray} {ps : List Wr} {m k : Nat} (h : DkI ss ps m) (hk : m ≤ k) : DkI ss ps k := ⟨h.1, h.2.1, Nat.le_trans h.2.2 hk⟩
theorem DkI.new {x : Nat} (h : x < 6) : DkI (nwS ((1 + x : Nat) : Int)) [] 0 ∧ nwB ((1 + x : Nat) : Int) = true := by
  have hb : nwB ((1 + x : Nat) : Int) = true := by simp [nwB]; omega
  refine ⟨⟨?_, ?_, by simp⟩, hb⟩
  · rw [nwS_yes hb, okB_iff]
    refine ⟨by simp [zerosS]; omega, by simp [zerosS]; omega, by simp, fun s hs => ?_, fun p hp => by cases hp⟩
    rw [(List.mem_replicate.1 hs).2]
    simp [longB, ByteArray.size]
  · rw [nwS_yes hb]; simp [zerosS]; omega

end Go.Proofs.Ytekjpoenbcnhdaa

namespace Go.Proofs.Ytekjpoenbcnhdaa
open Go.RowKit
open DM
attribute [local go_sem ↓] Go.wp_at_zero Go.wp_at_succ

def ics (ks : List Nat) : List Value := ks.map fun k : Nat => Value.int .i64 (k : Int)
theorem ics_app (ks : List Nat) (x : Nat) : ics (ks ++ [x]) = ics ks ++ [.int .i64 (x : Int)] := by simp [ics]
theorem ics_at (ks : List Nat) (j : Nat) (hj : j < ks.length) : (ics ks)[j]? = some (.int .i64 (ks[j] : Int)) := by simp [ics, hj]

def PlQ (w : World) (e : Ending) (w' : World) : Prop := ∃ (p0 p1 G cp : Nat), e = .returned (.slice (some ⟨G, 0, none⟩) 12 cp) ∧ (p0 < 10000 ∧ p1 < 10000) ∧ G < w'.heap.size ∧ w'.cell? ⟨G, 0, none⟩ = some (.int .i64 (p0 : Int)) ∧ w'.cell? ⟨G, 1, none⟩ = some (.int .i64 (p1 : Int)) ∧ Below w.heap.size w w'

set_option maxRecDepth 100000 in
set_option maxHeartbeats 2000000 in
theorem places12 (len cap : Nat) (a : Option Addr) (hl : len ≤ 1048576) (w : World) (hr : CodeRow w a len) :
    Calls Try.prog 8 #[.slice a len cap] w fun e w' => PlQ w e w' := by
  have HR : Hid (CodeRow w a len) := hr
  have HCODE : Hid (∀ b off, a = some ⟨b, off, none⟩ → 0 < len → b < w.heap.size) := hr.blk
  clear hr
  have HBL : Hid (∀ (W : World), CurOk W w.heap.size a len cap → Calls Try.prog 19 #[.pointer (some ⟨w.heap.size, 0, none⟩), .int .i64 10000] W fun e w' => ∃ x : Nat, x < 10000 ∧ e = .returned (.int .i64 (x : Int)) ∧ CurOk w' w.heap.size a len cap ∧ W.grownBy w' (some w.heap.size)) := fun W h => below21 w.heap.size len cap a 10000 (by omega) (by omega) hl W h
  go_enter Try.func8, Try.ntmps8
  go_wp2_with fail
  refine (new16 len cap a hl _ HR.out).mono ?_
  rintro e w1 ⟨rfl, hc1, hb1, hz1⟩
  have HC1 : Hid (CurOk w1 w.heap.size a len cap) := hc1
  have HB1 : Hid (Below w.heap.size w w1) := hb1
  clear hc1 hb1
  go_wp2_with fail
  refine (byteOk w.heap.size len cap a hl _ HC1.out).mono ?_
  rintro e w2 ⟨x, hx, rfl, hc2, hg2⟩
  have HC2 : Hid (CurOk w2 w.heap.size a len cap) := hc2
  have HB2 : Hid (Below w.heap.size w w2) := HB1.out.trans (below_of_grown hg2 (Nat.le_refl _) HB1.out.size)
  have s2 : w.heap.size + 1 ≤ w2.heap.size := Nat.le_trans hz1 hg2.size
  have HO0 : Hid ((w2.alloc (.cells #[] 3)).ownsRow (w.heap.size + 1) 3 1 (.slice (some ⟨w2.heap.size, 0, none⟩) 0 0) 0 (ics [])) := World.ownsRow_lit (base := w.heap.size + 1) (e := 3) (size := 1) w2 #[] 0 s2 (by unfold maxLen; omega) rfl
  clear hc2 hg2 hx HC1 HB1
  go_wp2
  go_loopw [4, 5] (fun tv ti wr => ∃ (k : Nat) (ks : List Nat) (G cp : Nat), k ≤ 12 ∧ ti = .int .i64 k ∧ tv = .slice (some ⟨G, 0, none⟩) k cp ∧ Hid (ks.length = k ∧ ∀ x ∈ ks, x < 10000) ∧ Hid (wr.ownsRow (w.heap.size + 1) 3 1 (.slice (some ⟨G, 0, none⟩) k cp) k (ics ks)) ∧ Hid (CurOk wr w.heap.size a len cap) ∧ Hid (Below w.heap.size w wr) ∧ Hid (w.heap.size + 1 ≤ wr.heap.size)) (fun _ ti _ => 12 - (intOf ti).toNat)
  case atStart => exact ⟨0, [], w2.heap.size, 0, by omega, rfl, rfl, ⟨rfl, fun x h => by cases h⟩, HO0, HC2.out.alloc s2 _, HB2.out.alloc HB2.out.size _, (by show _ ≤ _; simp; omega)⟩
  case round =>
    clear HO0 HC2 HB2 s2
    obtain ⟨k, ks, G, cp, hk, rfl, rfl, HK, HO, HC, HB, HS⟩ := hrel
    by_cases hlt : k < 12
    · have hlt' : (k : Int) < 12 := by omega
      go_wp2_with fail
      refine (HBL.out _ HC.out).mono ?_
      rintro e w3 ⟨x, hx, rfl, hc3, hg3⟩
      have HC3 : Hid (CurOk w3 w.heap.size a len cap) := hc3
      have HB3 : Hid (Below w.heap.size w w3) := HB.out.trans (below_of_grown hg3 (Nat.le_refl _) HB.out.size)
      have HO3 : Hid (w3.ownsRow (w.heap.size + 1) 3 1 (.slice (some ⟨G, 0, none⟩) k cp) k (ics ks)) := own_keptG HO.out hg3 (by omega)
      have HS3 : Hid (w.heap.size + 1 ≤ w3.heap.size) := Nat.le_trans HS.out hg3.size
      have HK3 : Hid ((ks ++ [x]).length = k + 1 ∧ ∀ y ∈ ks ++ [x], y < 10000) := ⟨by rw [List.length_append, HK.out.1]; rfl, fun y hy => by
        rcases List.mem_append.1 hy with h | h
        · exact HK.out.2 y h
        · rw [List.mem_singleton.1 h]; exact hx⟩
      clear hc3 hg3 hx
      go_wp2_with (at_builtin; refine wpAppH 30 3 1 8 (.int .i64 0) Try.underlying30 Try.info3 rfl (by decide) (by omega) (by rfl) _ _ (by rfl) (base := w.heap.size + 1) (n := k) [.int .i64 (x : Int)] (by rfl) (World.ownsRow.alloc HO3.out _) (by rfl) (by exact heap_alloc_new w3 _) rfl (by simp [Value.oneCell']) (by omega) (Nat.le_trans HS3.out (by simp)) ?_)
      intro g' cp' w4 hown4 hb4 hg4
      have HO4 : Hid (w4.ownsRow (w.heap.size + 1) 3 1 (.slice (some ⟨g', 0, none⟩) (k + 1) cp') (k + 1) (ics (ks ++ [x]))) := by rw [ics_app]; exact hown4
      have HC4 : Hid (CurOk w4 w.heap.size a len cap) := (HC3.out.alloc HS3.out _).belowB hb4 (by omega) (fun b off e h0 => Nat.lt_succ_of_lt (HCODE.out b off e h0))
      have HB4 : Hid (Below w.heap.size w w4) := (HB3.out.alloc HB3.out.size _).trans (hb4.mono (by omega))
      have HS4 : Hid (w.heap.size + 1 ≤ w4.heap.size) := Nat.le_trans HS3.out (Nat.le_trans (by simp) hb4.size)
      clear hown4 hb4 hg4
      go_wp2
      go_roundw
      case rel => exact ⟨k + 1, _, g', cp', by omega, by go_num, by go_num, HK3, HO4, HC4, HB4, HS4⟩
      case measure => simp [intOf]; omega
    · have hlt' : ¬ (k : Int) < 12 := by omega
      obtain rfl : k = 12 := by omega
      have h0 : 0 < ks.length := by rw [HK.out.1]; omega
      have h1 : 1 < ks.length := by rw [HK.out.1]; omega
      have hl2 := World.ownsRow.lt HO.out G rfl
      have q0 : wr.cell? ⟨G, 0, none⟩ = some (.int .i64 (ks[0] : Int)) := by rw [World.ownsRow.cellAt HO.out 0 (by omega)]; exact ics_at ks 0 h0
      have q1 : wr.cell? ⟨G, 1, none⟩ = some (.int .i64 (ks[1] : Int)) := by rw [World.ownsRow.cellAt HO.out 1 (by omega)]; exact ics_at ks 1 h1
      have Q0 : Hid (wr.cell? ⟨G, 0, none⟩ = some (.int .i64 (ks[0] : Int))) := q0
      have Q1 : Hid (wr.cell? ⟨G, 1, none⟩ = some (.int .i64 (ks[1] : Int))) := q1
      clear q0 q1
      go_wp2
      go_ret
      exact ⟨ks[0], ks[1], G, cp, rfl, ⟨HK.out.2 _ (List.getElem_mem h0), HK.out.2 _ (List.getElem_mem h1)⟩, hl2.2, Q0.out, Q1.out, HB.out⟩
end Go.Proofs.Ytekjpoenbcnhdaa

namespace Go.Proofs.Ytekjpoenbcnhdaa
open Go.RowKit
open DM
attribute [local go_sem ↓] Go.wp_at_zero Go.wp_at_succ

def DaI (ss : List ByteArray) (cur : List Wr) : Prop := ss.length ≤ 6 ∧ cur.length ≤ 61 ∧ (∀ s ∈ ss, s.size ≤ 65) ∧ (∀ p ∈ cur, p.2.size ≤ 65)
theorem DkI.any {ss : List ByteArray} {cur : List Wr} (h : DkI ss cur 24) : DaI ss cur := by
  have hO := okB_iff.1 h.1
  exact ⟨h.2.1, by have := h.2.2; omega, fun s hs => by have := hO.2.2.2.1 s hs; omega, fun p hp => by have := (hO.2.2.2.2 p hp).2.2; omega⟩
theorem DaI.set {ss : List ByteArray} {cur : List Wr} (h : DaI ss cur) (m : Nat) {t : ByteArray} (ht : t.size ≤ 65) : DaI (ss.set m t) cur := ⟨by rw [List.length_set]; exact h.1, h.2.1, fun s hs => by
  rcases List.mem_or_eq_of_mem_set hs with h1 | rfl
  · exact h.2.2.1 s h1
  · exact ht, h.2.2.2⟩
theorem DaI.app {ss : List ByteArray} {cur : List Wr} (h : DaI ss cur) (hl : cur.length ≤ 60) (x : Int) {t : ByteArray} (ht : t.size ≤ 65) : DaI ss (cur ++ [(x, t)]) := ⟨h.1, by simp; omega, h.2.2.1, fun p hp => by
  rcases List.mem_append.1 hp with h1 | h1
  · exact h.2.2.2 p h1
  · rw [List.mem_singleton.1 h1]; exact ht⟩
theorem DS.callB {w0 : World} {g : Nat} {a : Option Addr} {len cap B : Nat} {W W' : World} (h : DS w0 g a len cap W) (hb : Below B W W') (hB : w0.heap.size ≤ B) (hg : g < w0.heap.size) (hcode : ∀ b off, a = some ⟨b, off, none⟩ → 0 < len → b < w0.heap.size) : DS w0 g a len cap W' :=
  ⟨h.cur.belowB hb (by omega) (fun b off e h0 => Nat.lt_of_lt_of_le (hcode b off e h0) hB), grown_belowB h.gr hb hB⟩
end Go.Proofs.Ytekjpoenbcnhdaa

namespace Go.Proofs.Ytekjpoenbcnhdaa
open Go.RowKit
open DM
attribute [local go_sem ↓] Go.wp_at_zero Go.wp_at_succ

end Go.Proofs.Ytekjpoenbcnhdaa

namespace Go.Proofs.Ytekjpoenbcnhdaa
open Go.RowKit
open DM
attribute [local go_sem ↓] Go.wp_at_zero Go.wp_at_succ

def icz (ks : List Int) : List Value := ks.map fun k : Int => Value.int .i64 k
theorem icz_app (ks : List Int) (x : Int) : icz (ks ++ [x]) = icz ks ++ [.int .i64 x] := by simp [icz]
theorem own_krow {w : World} {base G cp : Nat} {ks : List Int} (h : w.ownsRow base 3 1 (.slice (some ⟨G, 0, none⟩) ks.length cp) ks.length (icz ks)) : KRow w (some ⟨G, 0, none⟩) ks := fun _ =>
  ⟨G, 0, rfl, (World.ownsRow.lt h G rfl).2, fun j hj => by
    rw [Nat.zero_add, World.ownsRow.cellAt h j (by omega)]
    simp [icz, hj]⟩
def Q66 (w : World) (g : Nat) (a : Option Addr) (len cap : Nat) (e : Ending) (w' : World) : Prop := ∃ (ks : List Int) (G cp : Nat), e = .returned (.slice (some ⟨G, 0, none⟩) ks.length cp) ∧ ks.length ≤ 13 ∧ w'.ownsRow w.heap.size 3 1 (.slice (some ⟨G, 0, none⟩) ks.length cp) ks.length (icz ks) ∧ CurOk w' g a len cap ∧ w.grownBy w' (some g)

set_option maxRecDepth 100000 in
set_option maxHeartbeats 2000000 in
theorem keep66 (g len cap : Nat) (a : Option Addr) (hl : len ≤ 1048576) (w : World) (hc : CurOk w g a len cap) (hg : g < w.heap.size) (hcode : ∀ b off, a = some ⟨b, off, none⟩ → 0 < len → b < w.heap.size) :
    Calls Try.prog 20 #[.pointer (some ⟨g, 0, none⟩)] w fun e w' => Q66 w g a len cap e w' := by
  have HCODE : Hid (∀ b off, a = some ⟨b, off, none⟩ → 0 < len → b < w.heap.size) := hcode
  have HB14 : Hid (∀ (W : World), CurOk W g a len cap → Calls Try.prog 19 #[.pointer (some ⟨g, 0, none⟩), .int .i64 14] W fun e w' => ∃ x : Nat, x < 14 ∧ e = .returned (.int .i64 (x : Int)) ∧ CurOk w' g a len cap ∧ W.grownBy w' (some g)) := fun W h => below21 g len cap a 14 (by omega) (by omega) hl W h
  have HB3 : Hid (∀ (W : World), CurOk W g a len cap → Calls Try.prog 19 #[.pointer (some ⟨g, 0, none⟩), .int .i64 3] W fun e w' => ∃ x : Nat, x < 3 ∧ e = .returned (.int .i64 (x : Int)) ∧ CurOk w' g a len cap ∧ W.grownBy w' (some g)) := fun W h => below21 g len cap a 3 (by omega) (by omega) hl W h
  have DS0 : Hid (DS w g a len cap w) := ⟨hc, grown_refl w _⟩
  have HO0 : Hid ((w.alloc (.cells #[] 3)).ownsRow w.heap.size 3 1 (.slice (some ⟨w.heap.size, 0, none⟩) 0 0) 0 (icz [])) := World.ownsRow_lit (base := w.heap.size) (e := 3) (size := 1) w #[] 0 (Nat.le_refl _) (by unfold maxLen; omega) rfl
  clear hc hcode
  go_enter Try.func20, Try.ntmps20
  go_wp2
  go_loopw [3, 4] (fun tv ti wr => ∃ (k : Nat) (ks : List Int) (G cp : Nat), k ≤ 13 ∧ ti = .int .i64 k ∧ tv = .slice (some ⟨G, 0, none⟩) k cp ∧ Hid (ks.length = k) ∧ Hid (wr.ownsRow w.heap.size 3 1 (.slice (some ⟨G, 0, none⟩) k cp) k (icz ks)) ∧ Hid (DS w g a len cap wr)) (fun _ ti _ => 14 - (intOf ti).toNat)
  case atStart => exact ⟨0, [], w.heap.size, 0, by omega, rfl, rfl, rfl, HO0, DS0.out.alloc hg _⟩
  case round =>
    clear HO0 DS0
    obtain ⟨k, ks, G, cp, hk, rfl, rfl, HK, HO, HD⟩ := hrel
    go_wp2_with fail
    refine (HB14.out _ HD.out.cur).mono ?_
    rintro e w2 ⟨x, hx, rfl, hc2, hg2⟩
    have HD2 : Hid (DS w g a len cap w2) := HD.out.step hc2 hg2
    have HO2 : Hid (w2.ownsRow w.heap.size 3 1 (.slice (some ⟨G, 0, none⟩) k cp) k (icz ks)) := own_keptG HO.out hg2 hg
    clear hc2 hg2 HD HO
    by_cases hlt : k < x
    · have hlt' : (k : Int) < (x : Int) := by omega
      have hk12 : k ≤ 12 := by omega
      clear hx
      go_wp2_with fail
      refine (HB3.out _ HD2.out.cur).mono ?_
      rintro e w3 ⟨y, hy, rfl, hc3, hg3⟩
      have HD3 : Hid (DS w g a len cap w3) := HD2.out.step hc3 hg3
      have HO3 : Hid (w3.ownsRow w.heap.size 3 1 (.slice (some ⟨G, 0, none⟩) k cp) k (icz ks)) := own_keptG HO2.out hg3 hg
      have hw : IntKind.i64.wrap ((y : Int) - 1) = (y : Int) - 1 := by rw [IntKind.wrap_i64]; omega
      have hsz : w.heap.size ≤ w3.heap.size := HD3.out.gr.size
      have HK3 : Hid ((ks ++ [(y : Int) - 1]).length = k + 1) := by show _ = _; rw [List.length_append, HK.out]; rfl
      clear hc3 hg3 hlt hlt'
      go_wp2_with (at_builtin; refine wpAppH 30 3 1 8 (.int .i64 0) Try.underlying30 Try.info3 rfl (by decide) (by omega) (by rfl) _ _ (by rfl) (base := w.heap.size) (n := k) [.int .i64 ((y : Int) - 1)] (by rfl) (World.ownsRow.alloc HO3.out _) (by rfl) (by exact heap_alloc_new w3 _) rfl (by simp [Value.oneCell']) (by omega) (Nat.le_trans hsz (by simp)) ?_)
      intro g' cp' w4 hown4 hb4 hg4
      have HO4 : Hid (w4.ownsRow w.heap.size 3 1 (.slice (some ⟨g', 0, none⟩) (k + 1) cp') (k + 1) (icz (ks ++ [(y : Int) - 1]))) := by rw [icz_app]; exact hown4
      have HD4 : Hid (DS w g a len cap w4) := (HD3.out.alloc hg _).callB hb4 (Nat.le_refl _) hg HCODE.out
      clear hown4 hb4 hg4
      go_wp2
      go_roundw
      case rel => exact ⟨k + 1, _, g', cp', by omega, by go_num, by go_num, HK3, HO4, HD4⟩
      case measure => simp [intOf]; omega
    · have hlt' : ¬ (k : Int) < (x : Int) := by omega
      have HO5 : Hid (w2.ownsRow w.heap.size 3 1 (.slice (some ⟨G, 0, none⟩) ks.length cp) ks.length (icz ks)) := by show World.ownsRow _ _ _ _ _ _ _; rw [HK.out]; exact HO2.out
      have HL : Hid (ks.length ≤ 13) := by show _ ≤ _; rw [HK.out]; exact hk
      go_wp2
      go_ret
      exact ⟨ks, G, cp, by rw [HK.out]; rfl, HL.out, HO5.out, HD2.out.cur, HD2.out.gr⟩

end Go.Proofs.Ytekjpoenbcnhdaa

namespace Go.Proofs.Ytekjpoenbcnhdaa
open Go.RowKit
open DM
attribute [local go_sem ↓] Go.wp_at_zero Go.wp_at_succ

theorem srow_two (W : World) (s t : ByteArray) : SRow (W.alloc (.cells #[.string s, .string t] 9)) (some ⟨W.heap.size, 0, none⟩) [s, t] := fun _ =>
  ⟨W.heap.size, 0, rfl, by simp, fun j hj => by
    match j, hj with
    | 0, _ => simp [go_sem]
    | 1, _ => simp [go_sem]⟩
end Go.Proofs.Ytekjpoenbcnhdaa

namespace Go.Proofs.Ytekjpoenbcnhdaa
open Go.RowKit
open DM
open FM
attribute [local go_sem ↓] Go.wp_at_zero Go.wp_at_succ

theorem lb97 {ss : List ByteArray} (h : logB ss [] = true) : LbI ss [] := LbI.ok (logB_parts h).1
theorem LbI.four {ss : List ByteArray} {ps : List Wr} (h : LbI ss ps) : ss.length ≤ 1048576 ∧ ps.length ≤ 1048576 ∧ (∀ s ∈ ss, s.size ≤ 1048576) ∧ (∀ p ∈ ps, p.2.size ≤ 1048576) := ⟨h.wide.1, h.wide.2.1, h.wide.2.2.1, h.wide.2.2.2⟩

end Go.Proofs.Ytekjpoenbcnhdaa

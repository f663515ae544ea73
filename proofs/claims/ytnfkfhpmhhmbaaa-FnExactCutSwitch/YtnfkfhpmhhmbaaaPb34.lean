/- What laws.toIntS, eqIntS and markIntS do. -/
import Derived.Test.YtnfkfhpmhhmbaaaPb30
import Derived.Test.YtnfkfhpmhhmbaaaPb08
import Derived.Test.YtnfkfhpmhhmbaaaPb27
import Derived.Test.YtnfkfhpmhhmbaaaPb29
import Derived.Test.YtnfkfhpmhhmbaaaPb31
namespace Go.Proofs.Ytnfkfhpmhhmbaaa
open Go.RowKit
open DM
attribute [local go_sem ↓] Go.wp_at_zero Go.wp_at_succ

def ics (ks : List Int) : List Value := ks.map (Value.int .i64)
theorem ics_len (ks : List Int) : (ics ks).length = ks.length := by simp [ics]
def IOwn (w : World) (base : Nat) (v : Value) (ks : List Int) : Prop := w.ownsRow base 3 1 v ks.length (ics ks)
theorem IOwn.below {w w' : World} {base : Nat} {v : Value} {l : List Int} (h : IOwn w base v l) (hb : Below w.heap.size w w') : IOwn w' base v l := ownsBelow h hb
theorem IOwn.krow {w : World} {base : Nat} {a : Option Addr} {c : Nat} {l : List Int} (h : IOwn w base (.slice a l.length c) l) : KRow w a l := fun h0 => by
  obtain ⟨g, rfl, hb, hl⟩ := own_form h h0
  refine ⟨g, 0, rfl, hl, fun j hj => ?_⟩
  rw [Nat.zero_add, World.ownsRow.cellAt h j (by omega)]
  simp [ics, hj]
theorem KRow.nil (w : World) (a : Option Addr) : KRow w a [] := fun h => by simp at h
theorem KRow.drew {w : World} {a : Option Addr} {ks : List Int} (h : KRow w a ks) : KRow w.drew a ks := h

theorem iown_of {w : World} {base g n : Nat} {xs : List Value} {ks : List Int} (hn : n = ks.length) (h : w.ownsRow base 3 1 (.slice (some ⟨g, 0, none⟩) n n) n xs) (hx : ∀ j, j < n → xs[j]? = (ics ks)[j]?) : IOwn w base (.slice (some ⟨g, 0, none⟩) ks.length n) ks := by
  have e : xs = ics ks := by
    apply List.ext_getElem?
    intro j
    by_cases hj : j < n
    · exact hx j hj
    · rw [List.getElem?_eq_none (by have := h.1; omega), List.getElem?_eq_none (by rw [ics_len]; omega)]
  subst hn
  rw [e] at h
  exact h

set_option maxRecDepth 100000 in
set_option maxHeartbeats 1000000 in
theorem to45 (ks : List Int) (a : Option Addr) (c : Nat) (hn : ks.length ≤ 100000000) (w : World) (hs : KRow w a ks) :
    Calls Try.prog 8 #[.slice a ks.length c] w fun e w' => ∃ a1 c1, e = .returned (.slice a1 ks.length c1) ∧ IOwn w' w.heap.size (.slice a1 ks.length c1) ks ∧ Below w.heap.size w w' := by
  have HS : Hid (KRow w a ks) := hs
  clear hs
  have hmk := mkRow 26 3 1 8 _ Try.underlying26 Try.info3 ks.length hn (by omega)
  go_enter Try.func8, Try.ntmps8
  go_wp2
  clear hmk
  have HO : Hid ((w.alloc (.cells (madeCells #[Value.int .i64 0] ks.length) 3)).ownsRow w.heap.size 3 1 (.slice (some ⟨w.heap.size, 0, none⟩) ks.length ks.length) ks.length (madeCells #[Value.int .i64 0] ks.length).toList) :=
    World.ownsRow_lit w _ _ (Nat.le_refl _) (by unfold maxLen; omega) (by rw [size_madeCells, Nat.mul_one])
  go_loopw [4] (fun t wr => ∃ (k : Nat) (xs : List Value), k ≤ ks.length ∧ t = .int .i64 k ∧ Hid (wr.ownsRow w.heap.size 3 1 (.slice (some ⟨w.heap.size, 0, none⟩) ks.length ks.length) ks.length xs) ∧ Hid (∀ j, j < k → xs[j]? = (ics ks)[j]?) ∧ Hid (Below w.heap.size w wr)) (fun t _ => ks.length - (intOf t).toNat)
  case atStart => exact ⟨0, _, Nat.zero_le _, rfl, HO, fun j hj => by omega, (belowRefl w).alloc (Nat.le_refl _) _⟩
  case round =>
    obtain ⟨k, xs, hk, rfl, HX, HA, HB⟩ := hrel
    by_cases hlt : k < ks.length
    · have hlt' : (k : Int) < (ks.length : Int) := by omega
      have h0 : (0 : Int) ≤ (k : Int) := by omega
      obtain ⟨b, off, rfl, hbl, hc⟩ := (HS.out.below HB.out) (by omega)
      have hck := hc k hlt
      clear hc
      have hlen := HX.out.1
      have hq : wr.cell? ⟨w.heap.size, k, none⟩ = some (xs[k]'(by omega)) := by
        rw [World.ownsRow.cellAt HX.out k (by omega)]; simp
      have hfz := World.ownsRow.frozenAt HX.out k
      have HX2 := (World.ownsRow.stored HX.out k (.int .i64 ks[k])).1
      have HA2 : Hid (∀ j, j < k + 1 → (xs.set k (.int .i64 ks[k]))[j]? = (ics ks)[j]?) := fun j hj => by
        by_cases e : j = k
        · subst e
          rw [List.getElem?_set_self (by omega)]
          simp [ics, hlt]
        · rw [List.getElem?_set_ne (by omega)]
          exact HA.out j (by omega)
      have HX3 : Hid _ := HX2
      clear HX2
      go_wp2
      go_roundw
      case rel => exact ⟨k + 1, _, by omega, by go_num, HX3, HA2, HB.out.setCell (Nat.le_refl _) _⟩
      case measure => simp [intOf]; omega
    · have hlt' : ¬ (k : Int) < (ks.length : Int) := by omega
      have hk2 : k = ks.length := by omega
      have HD : Hid (IOwn wr w.heap.size (.slice (some ⟨w.heap.size, 0, none⟩) ks.length ks.length) ks) := iown_of rfl HX.out (fun j hj => HA.out j (by omega))
      clear hk2
      go_wp2
      go_ret
      exact ⟨_, _, rfl, HD.out, HB.out⟩

set_option maxRecDepth 100000 in
set_option maxHeartbeats 1000000 in
theorem eq47 (a1 a2 : Option Addr) (c1 c2 : Nat) (ks : List Int) (hn : ks.length ≤ 100000000) (w : World) (h1 : KRow w a1 ks) (h2 : KRow w a2 ks) :
    Calls Try.prog 11 #[.slice a1 ks.length c1, .slice a2 ks.length c2] w fun e w' => e = .returned (.bool true) ∧ Below w.heap.size w w' := by
  have H1 : Hid (KRow w a1 ks) := h1
  have H2 : Hid (KRow w a2 ks) := h2
  clear h1 h2
  go_enter Try.func11, Try.ntmps11
  go_wp2
  go_loopw [5] (fun t wr => ∃ k : Nat, k ≤ ks.length ∧ t = .int .i64 k ∧ Hid (Below w.heap.size w wr)) (fun t _ => ks.length - (intOf t).toNat)
  case atStart => exact ⟨0, Nat.zero_le _, rfl, Below.refl _ _⟩
  case round =>
    obtain ⟨k, hk, rfl, HB⟩ := hrel
    by_cases hlt : k < ks.length
    · have hlt' : (k : Int) < (ks.length : Int) := by omega
      have h0 : (0 : Int) ≤ (k : Int) := by omega
      obtain ⟨b1, off1, rfl, hl1, q1⟩ := (H1.out.below HB.out) (by omega)
      obtain ⟨b2, off2, rfl, hl2, q2⟩ := (H2.out.below HB.out) (by omega)
      have r1 := q1 k hlt
      have r2 := q2 k hlt
      clear q1 q2
      go_wp2
      go_quiet (fail)
      go_wp2
      go_roundw
      case rel => exact ⟨k + 1, by omega, by go_num, below_drewN HB.out _⟩
      case measure => simp [intOf]; omega
    · have hd : ¬ (k : Int) < (ks.length : Int) := by omega
      go_wp2
      go_ret
      exact ⟨rfl, HB.out⟩

set_option maxRecDepth 100000 in
set_option maxHeartbeats 1000000 in
theorem mark48 (n k0 : Nat) (a : Option Addr) (c base : Nat) (xs0 : List Value) (hn : n ≤ 100000000) (hk1 : k0 ≤ 1000000000) (w : World) (h : w.ownsRow base 3 1 (.slice a n c) n xs0) :
    Calls Try.prog 13 #[.slice a n c, .int .i64 k0] w fun e w' => e = .returned (.int .i64 ((k0 + n : Nat) : Int)) ∧ Kept2 w w' (.slice a n c) (.slice a n c) := by
  have H : Hid (w.ownsRow base 3 1 (.slice a n c) n xs0) := h
  clear h
  go_enter Try.func13, Try.ntmps13
  go_wp2
  go_loopw [1, 5] (fun tk t wr => ∃ (k : Nat) (xs : List Value), k ≤ n ∧ t = .int .i64 k ∧ tk = .int .i64 ((k0 + k : Nat) : Int) ∧ Hid (wr.ownsRow base 3 1 (.slice a n c) n xs) ∧ Hid (w.grownBy wr (Value.slice a n c).ownBlock)) (fun _ t _ => n - (intOf t).toNat)
  case atStart => exact ⟨0, xs0, Nat.zero_le _, rfl, rfl, H, grown_refl _ _⟩
  case round =>
    obtain ⟨k, xs, hk, rfl, rfl, HX, HG⟩ := hrel
    by_cases hlt : k < n
    · have hlt' : (k : Int) < (n : Int) := by omega
      have h0 : (0 : Int) ≤ (k : Int) := by omega
      obtain ⟨g, rfl, hbg, hgl⟩ := own_form HX.out (by omega)
      have hlen := HX.out.1
      have hl : k < xs.length := by omega
      have hq : wr.cell? ⟨g, k, none⟩ = some (xs[k]'hl) := by rw [World.ownsRow.cellAt HX.out k (by omega)]; simp
      have hfz : wr.frozen? ⟨g, k, none⟩ = false := World.ownsRow.frozenAt HX.out k
      have st := World.ownsRow.stored HX.out k (.int .i64 ((k0 : Int) + (k : Int)))
      have HS1 : Hid _ := st.1
      have HS2 : Hid _ := st.2
      clear hlen st
      go_wp2
      go_roundw
      case rel => exact ⟨k + 1, _, by omega, by go_num, by go_num, HS1, grown_trans HG.out HS2.out⟩
      case measure => simp [intOf]; omega
    · have hd : ¬ (k : Int) < (n : Int) := by omega
      have e : k = n := by omega
      subst e
      have HK : Hid (Kept2 w wr (.slice a k c) (.slice a k c)) := ⟨HG.out.os, HG.out.tape, HG.out.output, HG.out.size, fun j hj n1 _ => HG.out.block j hj n1⟩
      go_wp2
      go_ret
      exact ⟨ret_int rfl, HK.out⟩
end Go.Proofs.Ytnfkfhpmhhmbaaa

namespace Go.Proofs.Ytnfkfhpmhhmbaaa
open Go.RowKit
open DM
attribute [local go_sem ↓] Go.wp_at_zero Go.wp_at_succ

theorem flS_len (ss : List ByteArray) (ps : List Wr) : (flS ss ps).length = ss.length := by
  unfold flS
  split
  · rw [flush_len]
  · rfl
end Go.Proofs.Ytnfkfhpmhhmbaaa

namespace Go.Proofs.Ytnfkfhpmhhmbaaa
open Go.RowKit
open DM
attribute [local go_sem ↓] Go.wp_at_zero Go.wp_at_succ

theorem kept_of_grown {w w' : World} {v : Value} (h : w.grownBy w' v.ownBlock) : Kept2 w w' v v := ⟨h.os, h.tape, h.output, h.size, fun k hk h1 _ => h.block k hk h1⟩
theorem fillO_len {a : Int} : ∀ (ts cur : List ByteArray), (fillO a cur ts).1.length = cur.length
  | [], cur => rfl
  | t :: ts, cur => by
    rw [fillO]
    split
    · rw [fillO_len ts]
      unfold putS
      rw [flS_len, flS_len]
    · rfl
theorem swS_len (ss : List ByteArray) (ps : List Wr) (ts : List ByteArray) : (swS ss ps ts).length = ss.length := by
  unfold swS
  split
  · rw [flS_len, fillO_len]
    unfold zrS
    rw [flS_len]
  · rfl

set_option maxRecDepth 100000 in
set_option maxHeartbeats 1000000 in
theorem sz79b (ps : List Wr) (a : Option Addr) (c : Nat) (hn : ps.length ≤ 9223372036854775807) (hl : ∀ p ∈ ps, p.2.size ≤ 9223372036854775807) (L : Int) (h0 : 0 ≤ L) (h1 : L ≤ 1048576) (w : World) (hp : PRow w a ps) :
    Calls Try.prog 21 #[.slice a ps.length c, .int .i64 L] w fun e w' => Below w.heap.size w w' ∧ ∃ r : Int, e = .returned (.int .i64 r) ∧ r ≤ 1048576 ∧ (0 ≤ r → (ps.length : Int) ≤ 1048576 ∧ PFits ps) := by
  have HP : Hid (PRow w a ps) := hp
  have HL : Hid (∀ p ∈ ps, p.2.size ≤ 9223372036854775807) := hl
  clear hp hl
  by_cases hneg : L - (ps.length : Int) < 0
  · go_enter Try.func21, Try.ntmps21
    go_wp2
    go_ret
    exact ⟨belowRefl w, -1, rfl, by omega, fun h => by omega⟩
  · have hneg' : decide (L - (ps.length : Int) < 0) = false := by simpa using hneg
    go_enter Try.func21, Try.ntmps21
    go_wp2
    go_loopw [1, 5] (fun tl t wr => ∃ (k : Nat) (l : Int), k ≤ ps.length ∧ t = .int .i64 k ∧ tl = .int .i64 l ∧ 0 ≤ l ∧ l ≤ 1048576 ∧ Hid (∀ j (hj : j < ps.length), j < k → ps[j].2.size ≤ 1048576) ∧ Hid (Below w.heap.size w wr)) (fun _ t _ => ps.length - (intOf t).toNat)
    case atStart => exact ⟨0, L - (ps.length : Int), Nat.zero_le _, rfl, rfl, by omega, by omega, fun j hj h => by omega, belowRefl w⟩
    case round =>
      obtain ⟨k, l, hk, rfl, rfl, hl0, hl1, HA, HB⟩ := hrel
      by_cases hlt : k < ps.length
      · have hlt' : (k : Int) < (ps.length : Int) := by omega
        have hk0 : (0 : Int) ≤ (k : Int) := by omega
        obtain ⟨b, off, rfl, hbl, hc⟩ := (HP.out.below HB.out) (by omega)
        have hck := (hc k hlt).1
        have hcl := (hc k hlt).2
        have hsz := HL.out _ (List.getElem_mem hlt)
        clear hc
        by_cases hn2 : l < (ps[k].2.size : Int)
        · have HV : Hid (lft l ps[k].2 = -1) := if_pos hn2
          clear hn2
          go_wp2_with fail
          refine (sz88 _ _ hsz l hl0 hl1 _).mono ?_
          rintro e w2 ⟨rfl, hb2⟩
          rw [HV.out]
          have HB2 : Hid (Below w.heap.size w w2) := HB.out.trans (hb2.mono HB.out.size)
          clear hb2
          go_wp2
          go_ret
          exact ⟨HB2.out, -1, rfl, by omega, fun h => by omega⟩
        · have HV : Hid (lft l ps[k].2 = l - (ps[k].2.size : Int)) := if_neg hn2
          have hn3 : ¬ l - (ps[k].2.size : Int) < 0 := by omega
          have HA2 : Hid (∀ j (hj : j < ps.length), j < k + 1 → ps[j].2.size ≤ 1048576) := fun j hj h => by
            by_cases e : j = k
            · subst e; omega
            · exact HA.out j hj (by omega)
          have hl2 : l - (ps[k].2.size : Int) ≤ 1048576 := by omega
          clear hn2
          go_wp2_with fail
          refine (sz88 _ _ hsz l hl0 hl1 _).mono ?_
          rintro e w2 ⟨rfl, hb2⟩
          rw [HV.out]
          have HB2 : Hid (Below w.heap.size w w2) := HB.out.trans (hb2.mono HB.out.size)
          clear hb2
          go_wp2
          go_roundw
          case rel => exact ⟨k + 1, l - (ps[k].2.size : Int), by omega, by go_num, rfl, by omega, hl2, HA2, HB2⟩
          case measure => simp [intOf]; omega
      · have hlt' : ¬ (k : Int) < (ps.length : Int) := by omega
        have HA2 : Hid (PFits ps) := fun s hs => by
          obtain ⟨j, hj, rfl⟩ := List.getElem_of_mem hs
          exact HA.out j hj (by omega)
        go_wp2
        go_ret
        exact ⟨HB.out, l, rfl, hl1, fun _ => ⟨by omega, HA2.out⟩⟩

set_option maxRecDepth 100000 in
set_option maxHeartbeats 1000000 in
theorem sz43b (ss : List ByteArray) (ps : List Wr) (a1 a2 : Option Addr) (c1 c2 : Nat) (hn : ss.length ≤ 9223372036854775807) (hl : ∀ s ∈ ss, s.size ≤ 9223372036854775807) (hm : ps.length ≤ 9223372036854775807) (hlp : ∀ p ∈ ps, p.2.size ≤ 9223372036854775807) (w : World) (hs : SRow w a1 ss) (hp : PRow w a2 ps) :
    Calls Try.prog 5 #[.agg #[.slice a1 ss.length c1, .slice a2 ps.length c2], .int .i64 1048576] w fun e w' => Below w.heap.size w w' ∧ ∃ r : Int, e = .returned (.int .i64 r) ∧ r ≤ 1048576 ∧ (0 ≤ r → Fits ss ps) := by
  have HS : Hid (SRow w a1 ss) := hs
  have HP : Hid (PRow w a2 ps) := hp
  have HL : Hid (∀ s ∈ ss, s.size ≤ 9223372036854775807) := hl
  have HLP : Hid (∀ p ∈ ps, p.2.size ≤ 9223372036854775807) := hlp
  clear hs hp hl hlp
  go_enter Try.func5, Try.ntmps5
  go_wp2_with fail
  refine (sz78 ss a1 c1 hn HL.out 1048576 (by omega) (by omega) _ (HS.out.below ((belowRefl w).alloc (Nat.le_refl _) _))).mono ?_
  rintro e w1 ⟨rfl, r, rfl, hr1, hr2⟩
  by_cases hr : r < 0
  · clear hr2
    go_wp2
    go_ret
    exact ⟨(belowRefl w).alloc (Nat.le_refl _) _, -1, rfl, by omega, fun h => by omega⟩
  · have hr' : ¬ r < 0 := hr
    have HF := hr2 (by omega)
    have HF1 : Hid ((ss.length : Int) ≤ 1048576 ∧ ∀ s ∈ ss, s.size ≤ 1048576) := HF
    clear hr2 HF
    go_wp2_with fail
    refine (sz79b ps a2 c2 hm HLP.out r (by omega) hr1 _ (HP.out.below ((belowRefl w).alloc (Nat.le_refl _) _))).mono ?_
    rintro e w2 ⟨hb2, r2, rfl, hrb0, hr3⟩
    have hrb : Hid (r2 ≤ 1048576) := hrb0
    clear hrb0
    have HB2 : Hid (Below w.heap.size w w2) := ((belowRefl w).alloc (Nat.le_refl _) _).trans (hb2.mono (by simp))
    clear hb2
    by_cases hq : r2 < 0
    · clear hr3
      go_wp2
      go_ret
      exact ⟨HB2.out, -1, rfl, by omega, fun h => by omega⟩
    · have hq' : ¬ r2 < 0 := hq
      have HF2 : Hid ((ps.length : Int) ≤ 1048576 ∧ PFits ps) := hr3 (by omega)
      clear hr3
      go_wp2
      go_ret
      exact ⟨HB2.out, r2, rfl, hrb.out, fun _ => ⟨by have := HF1.out.1; omega, by have := HF2.out.1; omega, HF1.out.2, HF2.out.2⟩⟩

end Go.Proofs.Ytnfkfhpmhhmbaaa

namespace Go.Proofs.Ytnfkfhpmhhmbaaa
open Go.RowKit
open DM
attribute [local go_sem ↓] Go.wp_at_zero Go.wp_at_succ

theorem wrt_length : ∀ (rows : List (List UInt8)) (ws : List Wr), (wrt rows ws).length = rows.length
  | _, [] => rfl
  | rows, p :: ws => by rw [wrt, wrt_length]; simp
theorem crS_len (ss : List ByteArray) (ps : List Wr) (ks : List Int) (t : Int) : (crS ss ps ks t).length = ss.length := by
  unfold crS
  split
  · rw [txs_len, wrt_length, bys_len]
  · rfl

end Go.Proofs.Ytnfkfhpmhhmbaaa

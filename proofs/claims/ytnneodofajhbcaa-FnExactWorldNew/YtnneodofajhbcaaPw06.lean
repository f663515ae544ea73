/- What laws.markText, markStringS, markPutS, markDisk, heldStringS, heldPutS and heldDisk do. -/
import Derived.Test.YtnneodofajhbcaaPw05
import Derived.Lib.ItoaNum
import Derived.Lib.ItoaLen
import Derived.Test.YtnneodofajhbcaaPw02
import Derived.Test.YtnneodofajhbcaaPw03
import Derived.Deep.QuietTactic
import Derived.BigQuiet
import Derived.Deep.RegionHeld3
import Derived.Deep.DrawnRows
import Derived.Test.YtnneodofajhbcaaPw01
import Derived.Test.YtnneodofajhbcaaProg
import Derived.WalkKit
import Derived.WalkSpells
import Derived.WalkLawsBesides
import Derived.Deep.AppendLies
import Derived.Deep.RegionHeld
import Derived.Maps.OwnSet
import Derived.StringKeys
import Derived.Sort.OwnSorted
import Derived.Lib.RowBridge
namespace Go.Proofs.Ytnneodofajhbcaa
open Go.RowKit
open DM
attribute [local go_sem ↓] Go.wp_at_zero Go.wp_at_succ

/-! marks -/
def marks (k n : Nat) : List ByteArray := (List.range n).map fun j => mkB (k + j)
theorem marks_len (k n : Nat) : (marks k n).length = n := by simp [marks]
theorem marks_at (k n j : Nat) (h : j < n) : (marks k n)[j]'(by rw [marks_len]; exact h) = mkB (k + j) := by simp [marks]
def pmarks (k n : Nat) : List Wr := (List.range n).map fun (j : Nat) => (((k + 2 * j : Nat) : Int), mkB (k + 2 * j + 1))
theorem pmarks_len (k n : Nat) : (pmarks k n).length = n := by simp [pmarks]
theorem pmarks_at (k n j : Nat) (h : j < n) : (pmarks k n)[j]'(by rw [pmarks_len]; exact h) = (((k + 2 * j : Nat) : Int), mkB (k + 2 * j + 1)) := by simp [pmarks]

theorem grown_belowD {w w' : World} {row : Option Nat} (hb : Below w.heap.size w w') : w.grownBy w' row := ⟨hb.os, hb.tape, hb.output, hb.size, fun k hk _ => hb.block k hk⟩
theorem sown_ext {w : World} {base n c : Nat} {a : Option Addr} {xs : List Value} {ss : List ByteArray} (hn : ss.length = n) (h : w.ownsRow base 9 1 (.slice a n c) n xs) (hx : ∀ j, j < n → xs[j]? = (scs ss)[j]?) : SOwn w base (.slice a n c) ss := by
  have e : xs = scs ss := by
    apply List.ext_getElem?
    intro j
    by_cases hj : j < n
    · exact hx j hj
    · rw [List.getElem?_eq_none (by have := h.1; omega), List.getElem?_eq_none (by rw [scs_len]; omega)]
  unfold SOwn
  rw [e] at h
  rw [hn]
  exact h
theorem pown_ext {w : World} {base n c : Nat} {a : Option Addr} {xs : List Value} {ps : List Wr} (hn : ps.length = n) (h : w.ownsRow base 95 2 (.slice a n c) n xs) (hx : ∀ j, j < n * 2 → xs[j]? = (pcs ps)[j]?) : POwn w base (.slice a n c) ps := by
  have e : xs = pcs ps := by
    apply List.ext_getElem?
    intro j
    by_cases hj : j < n * 2
    · exact hx j hj
    · rw [List.getElem?_eq_none (by have := h.1; omega), List.getElem?_eq_none (by rw [pcs_len]; omega)]
  unfold POwn
  rw [e] at h
  rw [hn]
  exact h

set_option maxRecDepth 100000 in
set_option maxHeartbeats 1000000 in
theorem mark74 (n k0 : Nat) (a : Option Addr) (c base : Nat) (xs0 : List Value) (hn : n ≤ 100000000) (hk0 : 0 < k0) (hk1 : k0 ≤ 100000000000000000) (w : World) (h : w.ownsRow base 9 1 (.slice a n c) n xs0) :
    Calls Try.prog 27 #[.slice a n c, .int .i64 k0] w fun e w' => e = .returned (.int .i64 ((k0 + n : Nat) : Int)) ∧ SOwn w' base (.slice a n c) (marks k0 n) ∧ w.grownBy w' (Value.slice a n c).ownBlock := by
  have H : Hid (w.ownsRow base 9 1 (.slice a n c) n xs0) := h
  clear h
  go_enter Try.func27, Try.ntmps27
  go_wp2
  go_loopw [1, 5] (fun tk t wr => ∃ (k : Nat) (xs : List Value), k ≤ n ∧ t = .int .i64 k ∧ tk = .int .i64 ((k0 + k : Nat) : Int) ∧ Hid (wr.ownsRow base 9 1 (.slice a n c) n xs) ∧ Hid (∀ j, j < k → xs[j]? = (scs (marks k0 n))[j]?) ∧ Hid (w.grownBy wr (Value.slice a n c).ownBlock)) (fun _ t _ => n - (intOf t).toNat)
  case atStart => exact ⟨0, xs0, Nat.zero_le _, rfl, rfl, H, (fun j hj => by omega), grown_refl _ _⟩
  case round =>
    obtain ⟨k, xs, hk, rfl, rfl, HX, HA, HG⟩ := hrel
    by_cases hlt : k < n
    · have hlt' : (k : Int) < (n : Int) := by omega
      have h0 : (0 : Int) ≤ (k : Int) := by omega
      obtain ⟨g, rfl, hbg, hgl⟩ := own_form HX.out (by omega)
      have hlen := HX.out.1
      have HL : Hid (k < xs.length) := by show _ < _; omega
      have HQ : Hid (wr.cell? ⟨g, k, none⟩ = some (xs[k]'HL.out)) := by show _ = _; rw [World.ownsRow.cellAt HX.out k (by omega)]; simp
      have HFz : Hid (wr.frozen? ⟨g, k, none⟩ = false) := World.ownsRow.frozenAt HX.out k
      have e1 : ((k0 : Int) + (k : Int)) = ((k0 + k : Nat) : Int) := by omega
      have E1 : Hid _ := e1
      clear e1 hlen
      go_wp2_with (go_at_call 43; rw [E1.out]; refine (mark87 (k0 + k) (by omega) (by omega) _).mono ?_; rintro e w2 ⟨rfl, hbm⟩; have cc := (hbm.cell (p := ⟨g, k, none⟩) hgl).trans HQ.out; have ff := (hbm.frozen (p := ⟨g, k, none⟩) hgl).trans HFz.out)
      have st := World.ownsRow.stored (ownsBelow HX.out hbm) k (.string (mkB (k0 + k)))
      have HA2 : Hid (∀ j, j < k + 1 → (xs.set k (.string (mkB (k0 + k))))[j]? = (scs (marks k0 n))[j]?) := fun j hj => by
        by_cases e : j = k
        · subst e
          rw [List.getElem?_set_self HL.out]
          simp [scs, marks, hlt]
        · rw [List.getElem?_set_ne (by omega)]
          exact HA.out j (by omega)
      go_roundw
      case rel => exact ⟨k + 1, _, by omega, by go_num, by go_num, st.1, HA2, grown_trans HG.out (grown_trans (grown_belowD hbm) st.2)⟩
      case measure => simp [intOf]; omega
    · have hd : ¬ (k : Int) < (n : Int) := by omega
      have e : k = n := by omega
      have HE : Hid (SOwn wr base (.slice a n c) (marks k0 n)) := sown_ext (marks_len _ _) HX.out (fun j hj => HA.out j (by omega))
      subst e
      go_wp2
      go_ret
      exact ⟨ret_int rfl, HE.out, HG.out⟩

set_option maxRecDepth 100000 in
set_option maxHeartbeats 2000000 in
theorem mark75 (n k0 : Nat) (a : Option Addr) (c base : Nat) (xs0 : List Value) (hn : n ≤ 100000000) (hk0 : 0 < k0) (hk1 : k0 ≤ 200000000000000000) (w : World) (h : w.ownsRow base 95 2 (.slice a n c) n xs0) :
    Calls Try.prog 58 #[.slice a n c, .int .i64 k0] w fun e w' => e = .returned (.int .i64 ((k0 + 2 * n : Nat) : Int)) ∧ POwn w' base (.slice a n c) (pmarks k0 n) ∧ w.grownBy w' (Value.slice a n c).ownBlock := by
  have H : Hid (w.ownsRow base 95 2 (.slice a n c) n xs0) := h
  clear h
  go_enter Try.func58, Try.ntmps58
  go_wp2
  go_loopw [1, 5] (fun tk t wr => ∃ (k : Nat) (xs : List Value), k ≤ n ∧ t = .int .i64 k ∧ tk = .int .i64 ((k0 + 2 * k : Nat) : Int) ∧ Hid (wr.ownsRow base 95 2 (.slice a n c) n xs) ∧ Hid (∀ j, j < k * 2 → xs[j]? = (pcs (pmarks k0 n))[j]?) ∧ Hid (w.grownBy wr (Value.slice a n c).ownBlock)) (fun _ t _ => n - (intOf t).toNat)
  case atStart => exact ⟨0, xs0, Nat.zero_le _, rfl, rfl, H, (fun j hj => by omega), grown_refl _ _⟩
  case round =>
    obtain ⟨k, xs, hk, rfl, rfl, HX, HA, HG⟩ := hrel
    by_cases hlt : k < n
    · have hlt' : (k : Int) < (n : Int) := by omega
      have h0 : (0 : Int) ≤ (k : Int) := by omega
      obtain ⟨g, rfl, hbg, hgl⟩ := own_form HX.out (by omega)
      have hlen := HX.out.1
      have HL : Hid (k * 2 + 1 < xs.length) := by show _ < _; omega
      have HL0 : Hid (k * 2 < xs.length) := by show _ < _; omega
      have q0 : wr.cell? ⟨g, k * 2, none⟩ = some (xs[k * 2]'HL0.out) := by rw [World.ownsRow.cellAt HX.out (k * 2) (by omega)]; simp
      have f0 : wr.frozen? ⟨g, k * 2, none⟩ = false := World.ownsRow.frozenAt HX.out (k * 2)
      have st0 := World.ownsRow.stored HX.out (k * 2) (.int .i64 ((k0 + 2 * k : Nat) : Int))
      have HX2 : Hid ((wr.setCell ⟨g, k * 2, none⟩ (.int .i64 ((k0 + 2 * k : Nat) : Int))).ownsRow base 95 2 (.slice (some ⟨g, 0, none⟩) n c) n (xs.set (k * 2) (.int .i64 ((k0 + 2 * k : Nat) : Int)))) := st0.1
      have HG2 : Hid (wr.grownBy (wr.setCell ⟨g, k * 2, none⟩ (.int .i64 ((k0 + 2 * k : Nat) : Int))) (some g)) := st0.2
      have e1 : ((k0 + 2 * k : Nat) : Int) + 1 = ((k0 + 2 * k + 1 : Nat) : Int) := by omega
      have E1 : Hid _ := e1
      have hb1 : ((k0 + 2 * k : Nat) : Int) ≤ 1000000000000000000 := by omega
      have hb0 : (0 : Int) ≤ ((k0 + 2 * k : Nat) : Int) := by omega
      clear e1 st0 hlen
      generalize hKe : ((k0 + 2 * k : Nat) : Int) = K at *
      have HKe : Hid (((k0 + 2 * k : Nat) : Int) = K) := hKe
      clear hKe
      go_wp2_with fail
      rw [E1.out]
      refine (mark87 (k0 + 2 * k + 1) (by omega) (by omega) _).mono ?_
      rintro e w2 ⟨rfl, hbm⟩
      have HX3 : Hid (w2.ownsRow base 95 2 (.slice (some ⟨g, 0, none⟩) n c) n (xs.set (k * 2) (.int .i64 K))) := ownsBelow HX2.out hbm
      have HG3 : Hid (wr.grownBy w2 (some g)) := grown_trans HG2.out (grown_belowD hbm)
      have hgl2 : g < w2.heap.size := Nat.lt_of_lt_of_le hgl HG3.out.size
      have q1 : w2.cell? ⟨g, k * 2 + 1, none⟩ = some ((xs.set (k * 2) (.int .i64 K))[k * 2 + 1]'(by rw [List.length_set]; exact HL.out)) := by rw [World.ownsRow.cellAt HX3.out (k * 2 + 1) (by omega)]; simp
      have f1 : w2.frozen? ⟨g, k * 2 + 1, none⟩ = false := World.ownsRow.frozenAt HX3.out (k * 2 + 1)
      have st1 := World.ownsRow.stored HX3.out (k * 2 + 1) (.string (mkB (k0 + 2 * k + 1)))
      have HX4 : Hid _ := st1.1
      have HG4 : Hid _ := st1.2
      clear hbm q0 f0 st1
      have HA2 : Hid (∀ j, j < (k + 1) * 2 → ((xs.set (k * 2) (.int .i64 K)).set (k * 2 + 1) (.string (mkB (k0 + 2 * k + 1))))[j]? = (pcs (pmarks k0 n))[j]?) := fun j hj => by
        have ha := pcs_at (pmarks k0 n) k (by rw [pmarks_len]; exact hlt)
        rw [pmarks_at k0 n k hlt] at ha
        by_cases e : j = k * 2
        · subst e
          rw [List.getElem?_set_ne (by omega), List.getElem?_set_self HL0.out, ha.1, HKe.out]
        · by_cases e2 : j = k * 2 + 1
          · subst e2
            rw [List.getElem?_set_self (by rw [List.length_set]; exact HL.out), ha.2]
          · rw [List.getElem?_set_ne (by omega), List.getElem?_set_ne (by omega)]
            exact HA.out j (by omega)
      go_wp2
      go_roundw
      case rel => exact ⟨k + 1, _, by omega, by go_num, by first | go_num | (congr 1; have := HKe.out; omega), HX4, HA2, grown_trans HG.out (grown_trans HG3.out HG4.out)⟩
      case measure => simp [intOf]; omega
    · have hd : ¬ (k : Int) < (n : Int) := by omega
      have e : k = n := by omega
      have HE : Hid (POwn wr base (.slice a n c) (pmarks k0 n)) := pown_ext (pmarks_len _ _) HX.out (fun j hj => HA.out j (by omega))
      subst e
      go_wp2
      go_ret
      exact ⟨ret_int rfl, HE.out, HG.out⟩

theorem own_apart {w : World} {b b' e e' s s' n n' : Nat} {v v' : Value} {xs xs' : List Value} (h : w.ownsRow b e s v n xs) (h' : w.ownsRow b' e' s' v' n' xs') (hne : e ≠ e') : v.ownBlock = none ∨ v.ownBlock ≠ v'.ownBlock := by
  rcases h.2 with ⟨rfl, _⟩ | ⟨g, cap, cur, rfl, _, hh, _⟩
  · exact Or.inl rfl
  · right
    intro he
    rcases h'.2 with ⟨rfl, _⟩ | ⟨g', cap', cur', rfl, _, hh', _⟩
    · cases he
    · simp only [Value.ownBlock, Option.some.injEq] at he
      rw [he, hh'] at hh
      simp only [Option.some.injEq, Obj.cells.injEq] at hh
      exact hne hh.2.1.symm

structure Kept2 (w w' : World) (v1 v2 : Value) : Prop where
  os : w'.os = w.os
  tape : w'.tape = w.tape
  output : w'.output = w.output
  size : w.heap.size ≤ w'.heap.size
  block : ∀ k, k < w.heap.size → some k ≠ v1.ownBlock → some k ≠ v2.ownBlock → w'.heap[k]? = w.heap[k]?

theorem Kept2.below {w w' : World} {v1 v2 : Value} (h : Kept2 w w' v1 v2) (B : Nat) (hB : B ≤ w.heap.size) (h1 : ∀ k, v1.ownBlock = some k → B ≤ k) (h2 : ∀ k, v2.ownBlock = some k → B ≤ k) : Below B w w' :=
  ⟨h.os, h.tape, h.output, h.size, fun k hk => h.block k (Nat.lt_of_lt_of_le hk hB) (fun e => by have := h1 k e.symm; omega) (fun e => by have := h2 k e.symm; omega)⟩

set_option maxRecDepth 100000 in
set_option maxHeartbeats 1000000 in
theorem mark41 (n m k0 : Nat) (a1 a2 : Option Addr) (c1 c2 base : Nat) (xs1 xs2 : List Value) (hn : n ≤ 100000000) (hm : m ≤ 100000000) (hk0 : 0 < k0) (hk1 : k0 ≤ 100000000000000000) (w : World) (h1 : w.ownsRow base 9 1 (.slice a1 n c1) n xs1) (h2 : w.ownsRow base 95 2 (.slice a2 m c2) m xs2) :
    Calls Try.prog 40 #[.agg #[.slice a1 n c1, .slice a2 m c2], .int .i64 k0] w fun e w' => e = .returned (.int .i64 ((k0 + n + 2 * m : Nat) : Int)) ∧ SOwn w' base (.slice a1 n c1) (marks k0 n) ∧ POwn w' base (.slice a2 m c2) (pmarks (k0 + n) m) ∧ Kept2 w w' (.slice a1 n c1) (.slice a2 m c2) := by
  have H1 : Hid (w.ownsRow base 9 1 (.slice a1 n c1) n xs1) := h1
  have H2 : Hid (w.ownsRow base 95 2 (.slice a2 m c2) m xs2) := h2
  clear h1 h2
  go_enter Try.func40, Try.ntmps40
  go_wp2_with fail
  refine (mark74 n k0 a1 c1 base xs1 hn hk0 hk1 _ (World.ownsRow.alloc H1.out _)).mono ?_
  rintro e w1 ⟨rfl, hs1, hg1⟩
  have HS1 : Hid (SOwn w1 base (.slice a1 n c1) (marks k0 n)) := hs1
  have hlt1 : ∀ k, (Value.slice a1 n c1).ownBlock = some k → k < w.heap.size := fun k hk => (World.ownsRow.lt H1.out k hk).2
  have HN : Hid (some w.heap.size ≠ (Value.slice a1 n c1).ownBlock) := fun e => by have := hlt1 _ e.symm; omega
  have HX1 : Hid (w1.ownsRow base 95 2 (.slice a2 m c2) m xs2) := by
    have h := World.ownsRow.alloc H2.out (.cells #[.slice a1 n c1, .slice a2 m c2] 40)
    exact World.ownsRow.kept h hg1 (own_apart h (World.ownsRow.alloc H1.out (.cells #[.slice a1 n c1, .slice a2 m c2] 40)) (by decide))
  have g1 : w1.cell? ⟨w.heap.size, 1, none⟩ = some (.slice a2 m c2) := (World.cell?_of_block (w := w.alloc (.cells #[.slice a1 n c1, .slice a2 m c2] 40)) (hg1.block w.heap.size (by simp) HN.out)).trans (by simp [go_sem])
  have HG1 : Hid ((w.alloc (.cells #[.slice a1 n c1, .slice a2 m c2] 40)).grownBy w1 (Value.slice a1 n c1).ownBlock) := hg1
  clear hs1 hg1 hlt1
  go_wp2_with fail
  refine (mark75 m (k0 + n) a2 c2 base xs2 hm (by omega) (by omega) _ HX1.out).mono ?_
  rintro e w2 ⟨rfl, hp2, hg2⟩
  have HP2 : Hid (POwn w2 base (.slice a2 m c2) (pmarks (k0 + n) m)) := hp2
  have HS2 : Hid (SOwn w2 base (.slice a1 n c1) (marks k0 n)) := World.ownsRow.kept HS1.out hg2 (own_apart HS1.out HX1.out (by decide))
  have HK : Hid (Kept2 w w2 (.slice a1 n c1) (.slice a2 m c2)) := by
    have q := HG1.out
    have qs := q.size
    simp only [World.size_alloc] at qs
    refine ⟨hg2.os.trans q.os, hg2.tape.trans q.tape, hg2.output.trans q.output, by have := hg2.size; omega, fun k hk n1 n2 => ?_⟩
    rw [hg2.block k (by omega) n2, q.block k (by simp; omega) n1, Below.heap_alloc _ _ _ hk]
  clear hp2 hg2
  go_wp2
  go_ret
  exact ⟨ret_int rfl, HS2.out, HP2.out, HK.out⟩

/-! held -/
set_option maxRecDepth 100000 in
set_option maxHeartbeats 1000000 in
theorem held76 (n k0 : Nat) (a : Option Addr) (c : Nat) (hn : n ≤ 100000000) (hk0 : 0 < k0) (hk1 : k0 ≤ 100000000000000000) (w : World) (h : SRow w a (marks k0 n)) :
    Calls Try.prog 31 #[.slice a n c, .int .i64 k0] w fun e w' => e = .returned (.int .i64 ((k0 + n : Nat) : Int)) ∧ Below w.heap.size w w' := by
  have H : Hid (SRow w a (marks k0 n)) := h
  clear h
  go_enter Try.func31, Try.ntmps31
  go_wp2
  go_loopw [1, 5] (fun tk t wr => ∃ k : Nat, k ≤ n ∧ t = .int .i64 k ∧ tk = .int .i64 ((k0 + k : Nat) : Int) ∧ Hid (Below w.heap.size w wr)) (fun _ t _ => n - (intOf t).toNat)
  case atStart => exact ⟨0, Nat.zero_le _, rfl, rfl, Below.refl _ _⟩
  case round =>
    obtain ⟨k, hk, rfl, rfl, HB⟩ := hrel
    by_cases hlt : k < n
    · have hlt' : (k : Int) < (n : Int) := by omega
      have h0 : (0 : Int) ≤ (k : Int) := by omega
      obtain ⟨b, off, rfl, hgl, hc⟩ := (H.out.below HB.out) (by rw [marks_len]; omega)
      have q0 := hc k (by rw [marks_len]; exact hlt)
      rw [marks_at k0 n k hlt] at q0
      have e1 : ((k0 : Int) + (k : Int)) = ((k0 + k : Nat) : Int) := by omega
      have E1 : Hid _ := e1
      clear e1 hc
      go_wp2
      go_region_held3 (fun w' => w'.cell? ⟨b, off + k, none⟩ = some (.string (mkB (k0 + k)))) (first | go_keep | exact (hbm.cell (p := ⟨b, off + k, none⟩) hgl).trans q0) ((go_at_call 43; rw [E1.out]; refine (mark87 (k0 + k) (by omega) (by omega) _).mono ?_; rintro e w' ⟨rfl, hbm⟩))
      all_goals
        go_wp2
        go_roundw
        case rel => exact ⟨k + 1, by omega, by go_num, by go_num, (HB.out.drew).trans (hbm.mono HB.out.size)⟩
        case measure => simp [intOf]; omega
    · have hd : ¬ (k : Int) < (n : Int) := by omega
      go_wp2
      go_ret
      refine ⟨?_, HB.out⟩
      rw [show k = n by omega]
      rfl

set_option maxRecDepth 100000 in
set_option maxHeartbeats 2000000 in
theorem held77 (n k0 : Nat) (a : Option Addr) (c : Nat) (hn : n ≤ 100000000) (hk0 : 0 < k0) (hk1 : k0 ≤ 200000000000000000) (w : World) (h : PRow w a (pmarks k0 n)) :
    Calls Try.prog 60 #[.slice a n c, .int .i64 k0] w fun e w' => e = .returned (.int .i64 ((k0 + 2 * n : Nat) : Int)) ∧ Below w.heap.size w w' := by
  have H : Hid (PRow w a (pmarks k0 n)) := h
  clear h
  go_enter Try.func60, Try.ntmps60
  go_wp2
  go_loopw [1, 5] (fun tk t wr => ∃ k : Nat, k ≤ n ∧ t = .int .i64 k ∧ tk = .int .i64 ((k0 + 2 * k : Nat) : Int) ∧ Hid (Below w.heap.size w wr)) (fun _ t _ => n - (intOf t).toNat)
  case atStart => exact ⟨0, Nat.zero_le _, rfl, rfl, Below.refl _ _⟩
  case round =>
    obtain ⟨k, hk, rfl, rfl, HB⟩ := hrel
    by_cases hlt : k < n
    · have hlt' : (k : Int) < (n : Int) := by omega
      have h0 : (0 : Int) ≤ (k : Int) := by omega
      obtain ⟨b, off, rfl, hgl, hc⟩ := (H.out.below HB.out) (by rw [pmarks_len]; omega)
      have q0 := (hc k (by rw [pmarks_len]; exact hlt)).1
      have q1 := (hc k (by rw [pmarks_len]; exact hlt)).2
      rw [pmarks_at k0 n k hlt] at q0 q1
      have hb1 : ((k0 + 2 * k : Nat) : Int) ≤ 1000000000000000000 := by omega
      have hb0 : (0 : Int) ≤ ((k0 + 2 * k : Nat) : Int) := by omega
      have E1 : Hid (((k0 + 2 * k : Nat) : Int) + 1 = ((k0 + 2 * k + 1 : Nat) : Int)) := by show _ = _; omega
      have e2 : IntKind.i64.wrap (((k0 + 2 * k : Nat) : Int) + 1) = ((k0 + 2 * k : Nat) : Int) + 1 := by rw [IntKind.wrap_i64]; omega
      clear hc
      generalize hKe : ((k0 + 2 * k : Nat) : Int) = K at *
      have HKe : Hid (((k0 + 2 * k : Nat) : Int) = K) := hKe
      clear hKe
      go_wp2
      go_region_held3 (fun w' => w'.cell? ⟨b, off + k * 2 + 1, none⟩ = some (.string (mkB (k0 + 2 * k + 1)))) (first | go_keep | exact (hbm.cell (p := ⟨b, off + k * 2 + 1, none⟩) hgl).trans q1) ((go_at_call 43; rw [E1.out]; refine (mark87 (k0 + 2 * k + 1) (by omega) (by omega) _).mono ?_; rintro e w' ⟨rfl, hbm⟩))
      all_goals
        go_wp2
        go_roundw
        case rel => exact ⟨k + 1, by omega, by go_num, by first | go_num | (congr 1; have := HKe.out; omega), (HB.out.drew).trans (hbm.mono HB.out.size)⟩
        case measure => simp [intOf]; omega
    · have hd : ¬ (k : Int) < (n : Int) := by omega
      go_wp2
      go_ret
      refine ⟨?_, HB.out⟩
      rw [show k = n by omega]
      rfl

set_option maxRecDepth 100000 in
set_option maxHeartbeats 1000000 in
theorem held42 (n m k0 : Nat) (a1 a2 : Option Addr) (c1 c2 : Nat) (hn : n ≤ 100000000) (hm : m ≤ 100000000) (hk0 : 0 < k0) (hk1 : k0 ≤ 100000000000000000) (w : World) (h1 : SRow w a1 (marks k0 n)) (h2 : PRow w a2 (pmarks (k0 + n) m)) :
    Calls Try.prog 45 #[.agg #[.slice a1 n c1, .slice a2 m c2], .int .i64 k0] w fun e w' => e = .returned (.int .i64 ((k0 + n + 2 * m : Nat) : Int)) ∧ Below w.heap.size w w' := by
  have H1 : Hid (SRow w a1 (marks k0 n)) := h1
  have H2 : Hid (PRow w a2 (pmarks (k0 + n) m)) := h2
  clear h1 h2
  go_enter Try.func45, Try.ntmps45
  go_wp2_with fail
  refine (held76 n k0 a1 c1 hn hk0 hk1 _ (H1.out.below ((belowRefl w).alloc (Nat.le_refl _) _))).mono ?_
  rintro e w1 ⟨rfl, hb1⟩
  have HB1 : Hid (Below w.heap.size w w1) := ((belowRefl w).alloc (Nat.le_refl _) _).trans (hb1.mono (by simp))
  obtain ⟨hc1, hf1⟩ := bcell hb1
  have hneg : ¬ ((k0 + n : Nat) : Int) < 0 := by omega
  clear hb1
  go_wp2_with fail
  refine (held77 m (k0 + n) a2 c2 hm (by omega) (by omega) _ (H2.out.below HB1.out)).mono ?_
  rintro e w2 ⟨rfl, hb2⟩
  have HB2 : Hid (Below w.heap.size w w2) := HB1.out.trans (hb2.mono HB1.out.size)
  have hneg2 : ¬ ((k0 + n + 2 * m : Nat) : Int) < 0 := by omega
  clear hb2
  go_wp2
  go_ret
  exact ⟨ret_int rfl, HB2.out⟩
end Go.Proofs.Ytnneodofajhbcaa

namespace Go.Proofs.Ytnneodofajhbcaa
open Go.RowKit
open DM
attribute [local go_sem ↓] Go.wp_at_zero Go.wp_at_succ

end Go.Proofs.Ytnneodofajhbcaa

namespace Go.Proofs.Ytnneodofajhbcaa
open Go.RowKit
open DM
attribute [local go_sem ↓] Go.wp_at_zero Go.wp_at_succ

theorem SRow.drew {w : World} {a : Option Addr} {ss : List ByteArray} (h : SRow w a ss) : SRow w.drew a ss := h
theorem PRow.drew {w : World} {a : Option Addr} {ps : List Wr} (h : PRow w a ps) : PRow w.drew a ps := h
def Two (b c : Nat) (x0 x1 x2 x3 : Value) (w : World) : Prop := w.cell? ⟨b, 0, none⟩ = some x0 ∧ w.cell? ⟨b, 1, none⟩ = some x1 ∧ w.cell? ⟨c, 0, none⟩ = some x2 ∧ w.cell? ⟨c, 1, none⟩ = some x3
theorem Two.keep {b c : Nat} {x0 x1 x2 x3 : Value} {W W' : World} (h : Two b c x0 x1 x2 x3 W) (hb : Below W.heap.size W W') (z0 : b < W.heap.size) (z1 : c < W.heap.size) : Two b c x0 x1 x2 x3 W' :=
  ⟨(hb.cell (p := ⟨b, 0, none⟩) z0).trans h.1, (hb.cell (p := ⟨b, 1, none⟩) z0).trans h.2.1, (hb.cell (p := ⟨c, 0, none⟩) z1).trans h.2.2.1, (hb.cell (p := ⟨c, 1, none⟩) z1).trans h.2.2.2⟩
end Go.Proofs.Ytnneodofajhbcaa

namespace Go.Proofs.Ytnneodofajhbcaa
open Go.RowKit
open KM
attribute [local go_sem ↓] Go.wp_at_zero Go.wp_at_succ

end Go.Proofs.Ytnneodofajhbcaa

namespace Go.Proofs.Ytnneodofajhbcaa
open Go.RowKit Go.WideMaps Go.Maps
open KM
attribute [local go_sem ↓] Go.wp_at_zero Go.wp_at_succ

def kl (s : ByteArray) : Lit := .string s.data.toList
end Go.Proofs.Ytnneodofajhbcaa

namespace Go.Proofs.Ytnneodofajhbcaa
open Go.RowKit
open KM
attribute [local go_sem ↓] Go.wp_at_zero Go.wp_at_succ

end Go.Proofs.Ytnneodofajhbcaa

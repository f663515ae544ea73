/- What laws.eqStringS, markStringS and heldStringS do on slices that are not empty, and on empty ones. -/
import Derived.Test.YtneknebckpajaaaP1
namespace Go.Proofs.Ytneknebckpajaaa
open Go.RowKit
attribute [local go_sem ↓] Go.wp_at_zero Go.wp_at_succ

/-- the block g holds the strings ss in w -/
def Holds (w : World) (g : Nat) (ss : List ByteArray) : Prop := g < w.heap.size ∧ ∀ j (hj : j < ss.length), w.cell? ⟨g, j, none⟩ = some (.string ss[j])

theorem Holds.below {w w' : World} {g B : Nat} {ss : List ByteArray} (h : Holds w g ss) (hb : Below B w w') (hg : g < B) : Holds w' g ss :=
  ⟨Nat.lt_of_lt_of_le h.1 hb.size, fun j hj => (hb.cell (p := ⟨g, j, none⟩) hg).trans (h.2 j hj)⟩

set_option maxRecDepth 100000 in
set_option maxHeartbeats 1000000 in
theorem eq24 (g1 g2 c1 c2 : Nat) (ss : List ByteArray) (hn : ss.length ≤ 1000) (w : World) (h1 : Holds w g1 ss) (h2 : Holds w g2 ss) :
    Calls Try.prog 24 #[.slice (some ⟨g1, 0, none⟩) ss.length c1, .slice (some ⟨g2, 0, none⟩) ss.length c2] w fun e w' => e = .returned (.bool true) ∧ Below w.heap.size w w' := by
  have H1 : Hid (Holds w g1 ss) := h1
  have H2 : Hid (Holds w g2 ss) := h2
  clear h1 h2
  go_enter Try.func24, Try.ntmps24
  go_wp2
  go_loopw [5] (fun t wr => ∃ k : Nat, k ≤ ss.length ∧ t = .int .i64 k ∧ Below w.heap.size w wr) (fun t _ => ss.length - (intOf t).toNat)
  case atStart => exact ⟨0, Nat.zero_le _, rfl, Below.refl _ _⟩
  case round =>
    obtain ⟨k, hk, rfl, hb⟩ := hrel
    by_cases hlt : k < ss.length
    · have hlt' : (k : Int) < (ss.length : Int) := by omega
      have h0 : (0 : Int) ≤ (k : Int) := by omega
      have q1 := (H1.out.below hb H1.out.1).2 k hlt
      have q2 := (H2.out.below hb H2.out.1).2 k hlt
      go_wp2
      go_quiet (fail)
      go_wp2
      go_roundw
      case rel => exact ⟨k + 1, by omega, by go_num, below_drewN hb _⟩
      case measure => simp [intOf]; omega
    · have hd : ¬ (k : Int) < (ss.length : Int) := by omega
      go_wp2
      go_ret
      exact ⟨rfl, hb⟩

set_option maxRecDepth 100000 in
set_option maxHeartbeats 1000000 in
theorem eq24_none (a1 a2 : Option Addr) (c1 c2 : Nat) (w : World) :
    Calls Try.prog 24 #[.slice a1 0 c1, .slice a2 0 c2] w fun e w' => e = .returned (.bool true) ∧ w = w' := by
  go_enter Try.func24, Try.ntmps24
  go_wp2
  refine wp_loop_rounds 1 ?_
  rw [rounds_succ]
  go_wp2
  go_ret
  exact ⟨rfl, rfl⟩

set_option maxHeartbeats 400000 in
theorem mark25_none (a : Option Addr) (c : Nat) (k : Int) (w : World) :
    Calls Try.prog 25 #[.slice a 0 c, .int .i64 k] w fun e w' => e = .returned (.int .i64 k) ∧ w = w' := by
  go_enter Try.func25, Try.ntmps25
  go_wp2
  refine wp_loop_rounds 1 ?_
  rw [rounds_succ]
  go_wp2
  go_ret
  exact ⟨rfl, rfl⟩

set_option maxHeartbeats 400000 in
theorem held26_none (a : Option Addr) (c : Nat) (k : Int) (w : World) :
    Calls Try.prog 26 #[.slice a 0 c, .int .i64 k] w fun e w' => e = .returned (.int .i64 k) ∧ w = w' := by
  go_enter Try.func26, Try.ntmps26
  go_wp2
  refine wp_loop_rounds 1 ?_
  rw [rounds_succ]
  go_wp2
  go_ret
  exact ⟨rfl, rfl⟩

/-- the marks from k on -/
def marks (k n : Nat) : List ByteArray := (List.range n).map fun j => mkB (k + j)
theorem marks_len (k n : Nat) : (marks k n).length = n := by simp [marks]
theorem marks_at (k n j : Nat) (h : j < n) : (marks k n)[j]'(by rw [marks_len]; exact h) = mkB (k + j) := by simp [marks]

set_option maxRecDepth 100000 in
set_option maxHeartbeats 1000000 in
theorem held26 (g c n k0 : Nat) (hn : n ≤ 1000) (hk0 : 0 < k0) (hk1 : k0 ≤ 1000) (w : World) (h : Holds w g (marks k0 n)) :
    Calls Try.prog 26 #[.slice (some ⟨g, 0, none⟩) n c, .int .i64 k0] w fun e w' => e = .returned (.int .i64 ((k0 + n : Nat) : Int)) ∧ Below w.heap.size w w' := by
  have H : Hid (Holds w g (marks k0 n)) := h
  clear h
  go_enter Try.func26, Try.ntmps26
  go_wp2
  go_loopw [1, 5] (fun tk t wr => ∃ k : Nat, k ≤ n ∧ t = .int .i64 k ∧ tk = .int .i64 ((k0 + k : Nat) : Int) ∧ Below w.heap.size w wr) (fun _ t _ => n - (intOf t).toNat)
  case atStart => exact ⟨0, Nat.zero_le _, rfl, rfl, Below.refl _ _⟩
  case round =>
    obtain ⟨k, hk, rfl, rfl, hb⟩ := hrel
    by_cases hlt : k < n
    · have hlt' : (k : Int) < (n : Int) := by omega
      have h0 : (0 : Int) ≤ (k : Int) := by omega
      have q0 := (H.out.below hb H.out.1).2 k (by rw [marks_len]; exact hlt)
      rw [marks_at k0 n k hlt] at q0
      have hgl : g < wr.heap.size := Nat.lt_of_lt_of_le H.out.1 hb.size
      have e1 : ((k0 : Int) + (k : Int)) = ((k0 + k : Nat) : Int) := by omega
      have E1 : Hid _ := e1
      clear e1
      go_wp2
      go_region_held3 (fun w' => w'.cell? ⟨g, k, none⟩ = some (.string (mkB (k0 + k)))) (first | go_keep | exact (hbm.cell (p := ⟨g, k, none⟩) hgl).trans q0) ((go_at_call 34; rw [E1.out]; refine (mark34 (k0 + k) (by omega) (by omega) _).mono ?_; rintro e w' ⟨rfl, hbm⟩))
      all_goals
        go_wp2
        go_roundw
        case rel => exact ⟨k + 1, by omega, by go_num, by go_num, (hb.drew).trans (hbm.mono hb.size)⟩
        case measure => simp [intOf]; omega
    · have hd : ¬ (k : Int) < (n : Int) := by omega
      go_wp2
      go_ret
      refine ⟨?_, hb⟩
      rw [show k = n by omega]
      rfl

/-- the marking, k strings of n marked -/
structure MarkInv (w wr : World) (g n k0 k : Nat) : Prop where
  done : ∀ i, i < k → wr.cell? ⟨g, i, none⟩ = some (.string (mkB (k0 + i)))
  left : ∀ i, k ≤ i → i < n → ∃ x, wr.cell? ⟨g, i, none⟩ = some (.string x)
  free : ∀ i, wr.frozen? ⟨g, i, none⟩ = false
  rest : w.grownBy wr (some g)

theorem addr_ne (g : Nat) {i k : Nat} (h : i ≠ k) : (⟨g, i, none⟩ : Addr) ≠ ⟨g, k, none⟩ := fun e => h (by cases e; rfl)

theorem MarkInv.step {w wr w2 : World} {g n k0 k : Nat} (h : MarkInv w wr g n k0 k) (hk : k < n) (hg : g < wr.heap.size) (hb : Below wr.heap.size wr w2) :
    MarkInv w (w2.setCell ⟨g, k, none⟩ (.string (mkB (k0 + k)))) g n k0 (k + 1) := by
  have cc : ∀ i, w2.cell? ⟨g, i, none⟩ = wr.cell? ⟨g, i, none⟩ := fun i => hb.cell (p := ⟨g, i, none⟩) hg
  have ff : ∀ i, w2.frozen? ⟨g, i, none⟩ = wr.frozen? ⟨g, i, none⟩ := fun i => hb.frozen (p := ⟨g, i, none⟩) hg
  obtain ⟨x, hx⟩ := h.left k (Nat.le_refl _) hk
  refine ⟨fun i hi => ?_, fun i h1 h2 => ?_, fun i => ?_, ?_⟩
  · by_cases e : i = k
    · subst e
      exact World.cell?_setCell_same _ _ _ ((cc i).trans hx)
    · rw [World.cell?_setCell_other _ _ _ _ (addr_ne g (Ne.symm e)), cc]
      exact h.done i (by omega)
  · rw [World.cell?_setCell_other _ _ _ _ (addr_ne g (show k ≠ i by omega)), cc]
    exact h.left i (by omega) h2
  · rw [World.frozen?_setCell, ff]; exact h.free i
  · have r := h.rest
    refine ⟨hb.os.trans r.os, hb.tape.trans r.tape, hb.output.trans r.output, ?_, fun j hj hne => ?_⟩
    · have := hb.size; have := r.size; simp [World.setCell]; omega
    · rw [Below.heap_setCell _ _ _ _ (by intro e; apply hne; rw [e]), hb.block j (Nat.lt_of_lt_of_le hj r.size), r.block j hj hne]

set_option maxRecDepth 100000 in
set_option maxHeartbeats 1000000 in
theorem mark25 (g c n k0 : Nat) (hn : n ≤ 1000) (hk0 : 0 < k0) (hk1 : k0 ≤ 1000) (w : World) (hg : g < w.heap.size) (h : MarkInv w w g n k0 0) :
    Calls Try.prog 25 #[.slice (some ⟨g, 0, none⟩) n c, .int .i64 k0] w fun e w' => e = .returned (.int .i64 ((k0 + n : Nat) : Int)) ∧ MarkInv w w' g n k0 n := by
  have H : Hid (MarkInv w w g n k0 0) := h
  clear h
  go_enter Try.func25, Try.ntmps25
  go_wp2
  go_loopw [1, 5] (fun tk t wr => ∃ k : Nat, k ≤ n ∧ t = .int .i64 k ∧ tk = .int .i64 ((k0 + k : Nat) : Int) ∧ Hid (MarkInv w wr g n k0 k)) (fun _ t _ => n - (intOf t).toNat)
  case atStart => exact ⟨0, Nat.zero_le _, rfl, rfl, H⟩
  case round =>
    obtain ⟨k, hk, rfl, rfl, HI⟩ := hrel
    by_cases hlt : k < n
    · have hlt' : (k : Int) < (n : Int) := by omega
      have h0 : (0 : Int) ≤ (k : Int) := by omega
      have hgl : g < wr.heap.size := Nat.lt_of_lt_of_le hg HI.out.rest.size
      obtain ⟨x, q0⟩ := HI.out.left k (Nat.le_refl _) hlt
      have f0 := HI.out.free k
      have e1 : ((k0 : Int) + (k : Int)) = ((k0 + k : Nat) : Int) := by omega
      have E1 : Hid _ := e1
      clear e1
      go_wp2_with (go_at_call 34; rw [E1.out]; refine (mark34 (k0 + k) (by omega) (by omega) _).mono ?_; rintro e w2 ⟨rfl, hbm⟩; have cc := (hbm.cell (p := ⟨g, k, none⟩) hgl).trans q0; have ff := (hbm.frozen (p := ⟨g, k, none⟩) hgl).trans f0)
      go_roundw
      case rel => exact ⟨k + 1, by omega, by go_num, by go_num, HI.out.step hlt hgl hbm⟩
      case measure => simp [intOf]; omega
    · have hd : ¬ (k : Int) < (n : Int) := by omega
      go_wp2
      go_ret
      have e : k = n := by omega
      refine ⟨?_, ?_⟩
      · rw [e]; rfl
      · have := HI.out; rw [e] at this; exact this
end Go.Proofs.Ytneknebckpajaaa

/- StoreNew of both sides, and the law FnExactStoreNew, walked. -/
import Derived.Test.YtmaipaeehalabaaPo13
import Derived.Test.YtmaipaeehalabaaPo15
import Derived.Deep.RegionHeld3
import Derived.Deep.Cut
import Derived.Deep.CutRange
namespace Go.Proofs.Ytmaipaeehalabaa
open Go.RowKit
open KM
open DM
attribute [local go_sem ↓] Go.wp_at_zero Go.wp_at_succ

set_option maxRecDepth 100000 in
set_option maxHeartbeats 2000000 in
theorem enews (w : World) : Calls Try.prog 17 #[] w fun e w' => e = .returned (.agg #[.slice none 0 0, .slice none 0 0, .slice none 0 0, .int .i64 0, .int .i64 1, .slice none 0 0]) ∧ Below w.heap.size w w' := by
  have BR : Hid (Bx (w.alloc (.cells #[.slice none 0 0, .slice none 0 0, .slice none 0 0, .int .i64 0, .int .i64 0, .slice none 0 0] 27)) w.heap.size [.slice none 0 0, .slice none 0 0, .slice none 0 0, .int .i64 0, .int .i64 0, .slice none 0 0]) := Bx.new w [.slice none 0 0, .slice none 0 0, .slice none 0 0, .int .i64 0, .int .i64 0, .slice none 0 0] 27
  have HB : Hid (Below w.heap.size w (w.alloc (.cells #[.slice none 0 0, .slice none 0 0, .slice none 0 0, .int .i64 0, .int .i64 0, .slice none 0 0] 27))) := (belowRefl w).alloc (Nat.le_refl _) _
  go_enter Try.func17, Try.ntmps17
  go_upto_region 1 with fail
  generalize (w.alloc (.cells #[.slice none 0 0, .slice none 0 0, .slice none 0 0, .int .i64 0, .int .i64 0, .slice none 0 0] 27)) = w0 at *
  go_wp2_with fail
  refine (bnew28 _).mono ?_
  rintro e w1 ⟨rfl, hb⟩
  replace BR : Hid (Bx w1 w.heap.size [.slice none 0 0, .slice none 0 0, .slice none 0 0, .int .i64 0, .int .i64 0, .slice none 0 0]) := BR.out.below hb
  replace HB : Hid (Below w.heap.size w w1) := HB.out.trans (hb.mono HB.out.size)
  clear hb
  have q0 := BR.out.c0
  have fq0 := BR.out.fz 0
  have q1 := BR.out.c1
  have fq1 := BR.out.fz 1
  have q2 := BR.out.c2
  have fq2 := BR.out.fz 2
  have q3 := BR.out.c3
  have fq3 := BR.out.fz 3
  have q4 := BR.out.c4
  have fq4 := BR.out.fz 4
  have q5 := BR.out.c5
  have fq5 := BR.out.fz 5
  go_wp2
  refine bodyPost_ret (v := .agg #[.slice none 0 0, .slice none 0 0, .slice none 0 0, .int .i64 0, .int .i64 1, .slice none 0 0]) (by simp [results, Try.results17, go_sem, q0, q1, q2, q3, q4, q5]) rfl ⟨rfl, ?_⟩
  exact (((((HB.out.setCell (p := ⟨w.heap.size, 0, none⟩) (Nat.le_refl _) _).setCell (p := ⟨w.heap.size, 1, none⟩) (Nat.le_refl _) _).setCell (p := ⟨w.heap.size, 2, none⟩) (Nat.le_refl _) _).setCell (p := ⟨w.heap.size, 3, none⟩) (Nat.le_refl _) _).setCell (p := ⟨w.heap.size, 4, none⟩) (Nat.le_refl _) _).setCell (p := ⟨w.heap.size, 5, none⟩) (Nat.le_refl _) _

set_option maxRecDepth 100000 in
set_option maxHeartbeats 2000000 in
theorem enewi (w : World) : Calls Try.prog 19 #[] w fun e w' => e = .returned (.agg #[.slice none 0 0, .slice none 0 0, .slice none 0 0, .int .i64 0, .int .i64 1, .slice none 0 0]) ∧ Below w.heap.size w w' := by
  have BR : Hid (Bx (w.alloc (.cells #[.slice none 0 0, .slice none 0 0, .slice none 0 0, .int .i64 0, .int .i64 0, .slice none 0 0] 27)) w.heap.size [.slice none 0 0, .slice none 0 0, .slice none 0 0, .int .i64 0, .int .i64 0, .slice none 0 0]) := Bx.new w [.slice none 0 0, .slice none 0 0, .slice none 0 0, .int .i64 0, .int .i64 0, .slice none 0 0] 27
  have HB : Hid (Below w.heap.size w (w.alloc (.cells #[.slice none 0 0, .slice none 0 0, .slice none 0 0, .int .i64 0, .int .i64 0, .slice none 0 0] 27))) := (belowRefl w).alloc (Nat.le_refl _) _
  go_enter Try.func19, Try.ntmps19
  go_upto_region 1 with fail
  generalize (w.alloc (.cells #[.slice none 0 0, .slice none 0 0, .slice none 0 0, .int .i64 0, .int .i64 0, .slice none 0 0] 27)) = w0 at *
  go_wp2_with fail
  refine (bnew29 _).mono ?_
  rintro e w1 ⟨rfl, hb⟩
  replace BR : Hid (Bx w1 w.heap.size [.slice none 0 0, .slice none 0 0, .slice none 0 0, .int .i64 0, .int .i64 0, .slice none 0 0]) := BR.out.below hb
  replace HB : Hid (Below w.heap.size w w1) := HB.out.trans (hb.mono HB.out.size)
  clear hb
  have q0 := BR.out.c0
  have fq0 := BR.out.fz 0
  have q1 := BR.out.c1
  have fq1 := BR.out.fz 1
  have q2 := BR.out.c2
  have fq2 := BR.out.fz 2
  have q3 := BR.out.c3
  have fq3 := BR.out.fz 3
  have q4 := BR.out.c4
  have fq4 := BR.out.fz 4
  have q5 := BR.out.c5
  have fq5 := BR.out.fz 5
  go_wp2
  refine bodyPost_ret (v := .agg #[.slice none 0 0, .slice none 0 0, .slice none 0 0, .int .i64 0, .int .i64 1, .slice none 0 0]) (by simp [results, Try.results19, go_sem, q0, q1, q2, q3, q4, q5]) rfl ⟨rfl, ?_⟩
  exact (((((HB.out.setCell (p := ⟨w.heap.size, 0, none⟩) (Nat.le_refl _) _).setCell (p := ⟨w.heap.size, 1, none⟩) (Nat.le_refl _) _).setCell (p := ⟨w.heap.size, 2, none⟩) (Nat.le_refl _) _).setCell (p := ⟨w.heap.size, 3, none⟩) (Nat.le_refl _) _).setCell (p := ⟨w.heap.size, 4, none⟩) (Nat.le_refl _) _).setCell (p := ⟨w.heap.size, 5, none⟩) (Nat.le_refl _) _

def noEn : En := ⟨noBb, [], none, 0⟩
theorem noEn_fit : EnFit noEn := ⟨⟨Nat.zero_le _, fun _ h => (by cases h), ⟨Nat.zero_le _, fun _ h => (by cases h)⟩, ⟨Nat.zero_le _, fun _ h => (by cases h)⟩⟩, ⟨Nat.zero_le _, fun _ h => (by cases h)⟩⟩
theorem noL_lie (w : World) (lo : Nat) : LLie w lo lo (.slice none 0 0) [] := ⟨⟨GOwn.nil _ _, fun g h => by simp [Value.ownBlock] at h⟩, Nat.le_refl _⟩
theorem noEn_lie (w : World) (lo : Nat) : EnLie w lo lo noEn := ⟨lo, Nat.le_refl _, Nat.le_refl _, ⟨lo, lo, Nat.le_refl _, Nat.le_refl _, Nat.le_refl _, ⟨GOwn.nil _ _, fun g h => by simp [noEn, noBb, Value.ownBlock] at h⟩, noL_lie w lo, noL_lie w lo⟩, noL_lie w lo⟩
def nwSt : St := ⟨noEn, ⟨lgS, lgP, none, 0, none, 0⟩⟩
theorem nwSt_fit : StFit nwSt := by
  refine ⟨noEn_fit, ?_, ?_, ?_, ?_⟩
  · exact Nat.le_trans (nwS_len 97) (by omega)
  · exact Nat.zero_le _
  · intro s hs
    have hs' : s ∈ nwS 97 := hs
    unfold nwS at hs'
    split at hs'
    · simp [zerosS] at hs'
      rw [hs']
      decide +kernel
    · cases hs'
  · intro p hp
    cases hp

set_option maxRecDepth 100000 in
set_option maxHeartbeats 2000000 in
theorem snewS0 (w : World) : Calls Try.prog 5 #[] w fun e w' => ∃ b1 d1 b2 d2, e = .returned (.agg #[.slice none 0 0, .slice none 0 0, .slice none 0 0, .int .i64 0, .int .i64 1, .slice none 0 0, .slice b1 lgS.length d1, .slice b2 lgP.length d2]) ∧ DLie w' (w.heap.size + 1) w'.heap.size ⟨lgS, lgP, b1, d1, b2, d2⟩ ∧ Below w.heap.size w w' := by
  have HC : Hid (∀ w : World, Calls Try.prog 18 #[] w fun e w' => ∃ b1 d1 b2 d2, e = .returned (.agg #[.slice b1 lgS.length d1, .slice b2 lgP.length d2]) ∧ DLie w' w.heap.size w'.heap.size ⟨lgS, lgP, b1, d1, b2, d2⟩ ∧ Below w.heap.size w w') := fun w => by
    refine (slog16 w).mono ?_
    rintro e w' ⟨b1, d1, b2, d2, he, ho, hb⟩
    exact ⟨b1, d1, b2, d2, he, DLie.of ho, hb⟩
  generalize lgS = S at *
  generalize lgP = P at *
  have BR : Hid (Bx (w.alloc (.cells #[.slice none 0 0, .slice none 0 0, .slice none 0 0, .int .i64 0, .int .i64 0, .slice none 0 0, .slice none 0 0, .slice none 0 0] 33)) w.heap.size [.slice none 0 0, .slice none 0 0, .slice none 0 0, .int .i64 0, .int .i64 0, .slice none 0 0, .slice none 0 0, .slice none 0 0]) := Bx.new w [.slice none 0 0, .slice none 0 0, .slice none 0 0, .int .i64 0, .int .i64 0, .slice none 0 0, .slice none 0 0, .slice none 0 0] 33
  have HB : Hid (Below w.heap.size w (w.alloc (.cells #[.slice none 0 0, .slice none 0 0, .slice none 0 0, .int .i64 0, .int .i64 0, .slice none 0 0, .slice none 0 0, .slice none 0 0] 33))) := (belowRefl w).alloc (Nat.le_refl _) _
  have HZ : Hid (w.heap.size + 1 ≤ (w.alloc (.cells #[.slice none 0 0, .slice none 0 0, .slice none 0 0, .int .i64 0, .int .i64 0, .slice none 0 0, .slice none 0 0, .slice none 0 0] 33)).heap.size) := by show _ ≤ _; simp
  go_enter Try.func5, Try.ntmps5
  go_upto_region 1 with fail
  generalize (w.alloc (.cells #[.slice none 0 0, .slice none 0 0, .slice none 0 0, .int .i64 0, .int .i64 0, .slice none 0 0, .slice none 0 0, .slice none 0 0] 33)) = w0 at *
  go_wp2_with fail
  refine (enews _).mono ?_
  rintro e w1 ⟨rfl, hb⟩
  replace BR : Hid (Bx w1 w.heap.size [.slice none 0 0, .slice none 0 0, .slice none 0 0, .int .i64 0, .int .i64 0, .slice none 0 0, .slice none 0 0, .slice none 0 0]) := BR.out.below hb
  replace HB : Hid (Below w.heap.size w w1) := HB.out.trans (hb.mono HB.out.size)
  replace HZ : Hid (w.heap.size + 1 ≤ w1.heap.size) := Nat.le_trans HZ.out hb.size
  clear hb
  go_wp2_with fail
  refine (HC.out _).mono ?_
  rintro e w2 ⟨b1, d1, b2, d2, rfl, hl, hb⟩
  replace BR : Hid (Bx w2 w.heap.size [.slice none 0 0, .slice none 0 0, .slice none 0 0, .int .i64 0, .int .i64 0, .slice none 0 0, .slice none 0 0, .slice none 0 0]) := BR.out.below hb
  replace HB : Hid (Below w.heap.size w w2) := HB.out.trans (hb.mono HB.out.size)
  have HL : Hid (DLie w2 (w.heap.size + 1) w2.heap.size ⟨S, P, b1, d1, b2, d2⟩) := hl.mono HZ.out (Nat.le_refl _)
  clear hb hl HZ HC
  have q0 := BR.out.c0
  have fq0 := BR.out.fz 0
  have q1 := BR.out.c1
  have fq1 := BR.out.fz 1
  have q2 := BR.out.c2
  have fq2 := BR.out.fz 2
  have q3 := BR.out.c3
  have fq3 := BR.out.fz 3
  have q4 := BR.out.c4
  have fq4 := BR.out.fz 4
  have q5 := BR.out.c5
  have fq5 := BR.out.fz 5
  have q6 := BR.out.c6
  have fq6 := BR.out.fz 6
  have q7 := BR.out.c7
  have fq7 := BR.out.fz 7
  go_wp2
  refine bodyPost_ret (v := .agg #[.slice none 0 0, .slice none 0 0, .slice none 0 0, .int .i64 0, .int .i64 1, .slice none 0 0, .slice b1 S.length d1, .slice b2 P.length d2]) (by simp [results, Try.results5, go_sem, q0, q1, q2, q3, q4, q5, q6, q7]) rfl ⟨b1, d1, b2, d2, rfl, ?_, ?_⟩
  · exact (((((((((HL.out.set (a := ⟨w.heap.size, 0, none⟩) (by show w.heap.size < w.heap.size + 1; omega) _).set (a := ⟨w.heap.size, 1, none⟩) (by show w.heap.size < w.heap.size + 1; omega) _).set (a := ⟨w.heap.size, 2, none⟩) (by show w.heap.size < w.heap.size + 1; omega) _).set (a := ⟨w.heap.size, 3, none⟩) (by show w.heap.size < w.heap.size + 1; omega) _).set (a := ⟨w.heap.size, 4, none⟩) (by show w.heap.size < w.heap.size + 1; omega) _).set (a := ⟨w.heap.size, 5, none⟩) (by show w.heap.size < w.heap.size + 1; omega) _).set (a := ⟨w.heap.size, 6, none⟩) (by show w.heap.size < w.heap.size + 1; omega) _).set (a := ⟨w.heap.size, 7, none⟩) (by show w.heap.size < w.heap.size + 1; omega) _).mono (Nat.le_refl _) (by simp [World.setCell]))
  · exact (((((((HB.out.setCell (p := ⟨w.heap.size, 0, none⟩) (Nat.le_refl _) _).setCell (p := ⟨w.heap.size, 1, none⟩) (Nat.le_refl _) _).setCell (p := ⟨w.heap.size, 2, none⟩) (Nat.le_refl _) _).setCell (p := ⟨w.heap.size, 3, none⟩) (Nat.le_refl _) _).setCell (p := ⟨w.heap.size, 4, none⟩) (Nat.le_refl _) _).setCell (p := ⟨w.heap.size, 5, none⟩) (Nat.le_refl _) _).setCell (p := ⟨w.heap.size, 6, none⟩) (Nat.le_refl _) _).setCell (p := ⟨w.heap.size, 7, none⟩) (Nat.le_refl _) _

theorem snewS (w : World) : Calls Try.prog 5 #[] w fun e w' => ∃ s : St, e = .returned (.agg #[.slice s.e.b.va s.e.b.vs.length s.e.b.vc, .slice s.e.b.pa s.e.b.ps.length s.e.b.pc, .slice s.e.b.qa s.e.b.qs.length s.e.b.qc, .int .i64 s.e.b.cs, .int .i64 s.e.b.nx, .slice s.e.oa s.e.os.length s.e.oc, .slice s.d.sa s.d.ss.length s.d.sc, .slice s.d.pa s.d.ps.length s.d.pc]) ∧ StSame nwSt s ∧ StLie w' w.heap.size w'.heap.size s ∧ Below w.heap.size w w' := by
  refine (snewS0 w).mono ?_
  rintro e w' ⟨b1, d1, b2, d2, he, hl, hb⟩
  exact ⟨⟨noEn, ⟨lgS, lgP, b1, d1, b2, d2⟩⟩, he, ⟨⟨⟨rfl, rfl, rfl, rfl, rfl⟩, rfl⟩, ⟨rfl, rfl⟩⟩, ⟨w.heap.size, Nat.le_refl _, hb.size, noEn_lie w' _, hl.mono (by omega) (Nat.le_refl _)⟩, hb⟩

set_option maxRecDepth 100000 in
set_option maxHeartbeats 2000000 in
theorem inewS0 (w : World) : Calls Try.prog 6 #[] w fun e w' => ∃ b1 d1 b2 d2, e = .returned (.agg #[.slice none 0 0, .slice none 0 0, .slice none 0 0, .int .i64 0, .int .i64 1, .slice none 0 0, .slice b1 lgS.length d1, .slice b2 lgP.length d2]) ∧ DLie w' (w.heap.size + 1) w'.heap.size ⟨lgS, lgP, b1, d1, b2, d2⟩ ∧ Below w.heap.size w w' := by
  have HC : Hid (∀ w : World, Calls Try.prog 20 #[] w fun e w' => ∃ b1 d1 b2 d2, e = .returned (.agg #[.slice b1 lgS.length d1, .slice b2 lgP.length d2]) ∧ DLie w' w.heap.size w'.heap.size ⟨lgS, lgP, b1, d1, b2, d2⟩ ∧ Below w.heap.size w w') := fun w => by
    refine (ilog17 w).mono ?_
    rintro e w' ⟨b1, d1, b2, d2, he, ho, hb⟩
    exact ⟨b1, d1, b2, d2, he, DLie.of ho, hb⟩
  generalize lgS = S at *
  generalize lgP = P at *
  have BR : Hid (Bx (w.alloc (.cells #[.slice none 0 0, .slice none 0 0, .slice none 0 0, .int .i64 0, .int .i64 0, .slice none 0 0, .slice none 0 0, .slice none 0 0] 33)) w.heap.size [.slice none 0 0, .slice none 0 0, .slice none 0 0, .int .i64 0, .int .i64 0, .slice none 0 0, .slice none 0 0, .slice none 0 0]) := Bx.new w [.slice none 0 0, .slice none 0 0, .slice none 0 0, .int .i64 0, .int .i64 0, .slice none 0 0, .slice none 0 0, .slice none 0 0] 33
  have HB : Hid (Below w.heap.size w (w.alloc (.cells #[.slice none 0 0, .slice none 0 0, .slice none 0 0, .int .i64 0, .int .i64 0, .slice none 0 0, .slice none 0 0, .slice none 0 0] 33))) := (belowRefl w).alloc (Nat.le_refl _) _
  have HZ : Hid (w.heap.size + 1 ≤ (w.alloc (.cells #[.slice none 0 0, .slice none 0 0, .slice none 0 0, .int .i64 0, .int .i64 0, .slice none 0 0, .slice none 0 0, .slice none 0 0] 33)).heap.size) := by show _ ≤ _; simp
  go_enter Try.func6, Try.ntmps6
  go_upto_region 1 with fail
  generalize (w.alloc (.cells #[.slice none 0 0, .slice none 0 0, .slice none 0 0, .int .i64 0, .int .i64 0, .slice none 0 0, .slice none 0 0, .slice none 0 0] 33)) = w0 at *
  go_wp2_with fail
  refine (enewi _).mono ?_
  rintro e w1 ⟨rfl, hb⟩
  replace BR : Hid (Bx w1 w.heap.size [.slice none 0 0, .slice none 0 0, .slice none 0 0, .int .i64 0, .int .i64 0, .slice none 0 0, .slice none 0 0, .slice none 0 0]) := BR.out.below hb
  replace HB : Hid (Below w.heap.size w w1) := HB.out.trans (hb.mono HB.out.size)
  replace HZ : Hid (w.heap.size + 1 ≤ w1.heap.size) := Nat.le_trans HZ.out hb.size
  clear hb
  go_wp2_with fail
  refine (HC.out _).mono ?_
  rintro e w2 ⟨b1, d1, b2, d2, rfl, hl, hb⟩
  replace BR : Hid (Bx w2 w.heap.size [.slice none 0 0, .slice none 0 0, .slice none 0 0, .int .i64 0, .int .i64 0, .slice none 0 0, .slice none 0 0, .slice none 0 0]) := BR.out.below hb
  replace HB : Hid (Below w.heap.size w w2) := HB.out.trans (hb.mono HB.out.size)
  have HL : Hid (DLie w2 (w.heap.size + 1) w2.heap.size ⟨S, P, b1, d1, b2, d2⟩) := hl.mono HZ.out (Nat.le_refl _)
  clear hb hl HZ HC
  have q0 := BR.out.c0
  have fq0 := BR.out.fz 0
  have q1 := BR.out.c1
  have fq1 := BR.out.fz 1
  have q2 := BR.out.c2
  have fq2 := BR.out.fz 2
  have q3 := BR.out.c3
  have fq3 := BR.out.fz 3
  have q4 := BR.out.c4
  have fq4 := BR.out.fz 4
  have q5 := BR.out.c5
  have fq5 := BR.out.fz 5
  have q6 := BR.out.c6
  have fq6 := BR.out.fz 6
  have q7 := BR.out.c7
  have fq7 := BR.out.fz 7
  go_wp2
  refine bodyPost_ret (v := .agg #[.slice none 0 0, .slice none 0 0, .slice none 0 0, .int .i64 0, .int .i64 1, .slice none 0 0, .slice b1 S.length d1, .slice b2 P.length d2]) (by simp [results, Try.results6, go_sem, q0, q1, q2, q3, q4, q5, q6, q7]) rfl ⟨b1, d1, b2, d2, rfl, ?_, ?_⟩
  · exact (((((((((HL.out.set (a := ⟨w.heap.size, 0, none⟩) (by show w.heap.size < w.heap.size + 1; omega) _).set (a := ⟨w.heap.size, 1, none⟩) (by show w.heap.size < w.heap.size + 1; omega) _).set (a := ⟨w.heap.size, 2, none⟩) (by show w.heap.size < w.heap.size + 1; omega) _).set (a := ⟨w.heap.size, 3, none⟩) (by show w.heap.size < w.heap.size + 1; omega) _).set (a := ⟨w.heap.size, 4, none⟩) (by show w.heap.size < w.heap.size + 1; omega) _).set (a := ⟨w.heap.size, 5, none⟩) (by show w.heap.size < w.heap.size + 1; omega) _).set (a := ⟨w.heap.size, 6, none⟩) (by show w.heap.size < w.heap.size + 1; omega) _).set (a := ⟨w.heap.size, 7, none⟩) (by show w.heap.size < w.heap.size + 1; omega) _).mono (Nat.le_refl _) (by simp [World.setCell]))
  · exact (((((((HB.out.setCell (p := ⟨w.heap.size, 0, none⟩) (Nat.le_refl _) _).setCell (p := ⟨w.heap.size, 1, none⟩) (Nat.le_refl _) _).setCell (p := ⟨w.heap.size, 2, none⟩) (Nat.le_refl _) _).setCell (p := ⟨w.heap.size, 3, none⟩) (Nat.le_refl _) _).setCell (p := ⟨w.heap.size, 4, none⟩) (Nat.le_refl _) _).setCell (p := ⟨w.heap.size, 5, none⟩) (Nat.le_refl _) _).setCell (p := ⟨w.heap.size, 6, none⟩) (Nat.le_refl _) _).setCell (p := ⟨w.heap.size, 7, none⟩) (Nat.le_refl _) _

theorem inewS (w : World) : Calls Try.prog 6 #[] w fun e w' => ∃ s : St, e = .returned (.agg #[.slice s.e.b.va s.e.b.vs.length s.e.b.vc, .slice s.e.b.pa s.e.b.ps.length s.e.b.pc, .slice s.e.b.qa s.e.b.qs.length s.e.b.qc, .int .i64 s.e.b.cs, .int .i64 s.e.b.nx, .slice s.e.oa s.e.os.length s.e.oc, .slice s.d.sa s.d.ss.length s.d.sc, .slice s.d.pa s.d.ps.length s.d.pc]) ∧ StSame nwSt s ∧ StLie w' w.heap.size w'.heap.size s ∧ Below w.heap.size w w' := by
  refine (inewS0 w).mono ?_
  rintro e w' ⟨b1, d1, b2, d2, he, hl, hb⟩
  exact ⟨⟨noEn, ⟨lgS, lgP, b1, d1, b2, d2⟩⟩, he, ⟨⟨⟨rfl, rfl, rfl, rfl, rfl⟩, rfl⟩, ⟨rfl, rfl⟩⟩, ⟨w.heap.size, Nat.le_refl _, hb.size, noEn_lie w' _, hl.mono (by omega) (Nat.le_refl _)⟩, hb⟩

set_option maxRecDepth 100000 in
set_option maxHeartbeats 4000000 in
theorem law3 (w : World) : Calls Try.prog 3 #[] w fun e w' => e = .returned (.bool true) ∧ Below w.heap.size w w' := by
  have HFD : Hid (StFit nwSt) := nwSt_fit
  have CI : Hid (∀ W : World, Calls Try.prog 6 #[] W fun e w' => ∃ s : St, e = .returned (.agg #[.slice s.e.b.va s.e.b.vs.length s.e.b.vc, .slice s.e.b.pa s.e.b.ps.length s.e.b.pc, .slice s.e.b.qa s.e.b.qs.length s.e.b.qc, .int .i64 s.e.b.cs, .int .i64 s.e.b.nx, .slice s.e.oa s.e.os.length s.e.oc, .slice s.d.sa s.d.ss.length s.d.sc, .slice s.d.pa s.d.ps.length s.d.pc]) ∧ StSame nwSt s ∧ StLie w' W.heap.size w'.heap.size s ∧ Below W.heap.size W w') := fun W => inewS W
  have CS : Hid (∀ W : World, Calls Try.prog 5 #[] W fun e w' => ∃ s : St, e = .returned (.agg #[.slice s.e.b.va s.e.b.vs.length s.e.b.vc, .slice s.e.b.pa s.e.b.ps.length s.e.b.pc, .slice s.e.b.qa s.e.b.qs.length s.e.b.qc, .int .i64 s.e.b.cs, .int .i64 s.e.b.nx, .slice s.e.oa s.e.os.length s.e.oc, .slice s.d.sa s.d.ss.length s.d.sc, .slice s.d.pa s.d.ps.length s.d.pc]) ∧ StSame nwSt s ∧ StLie w' W.heap.size w'.heap.size s ∧ Below W.heap.size W w') := fun W => snewS W
  generalize nwSt = DD at *
  have HB : Hid (Below w.heap.size w w) := belowRefl w
  go_enter Try.func3, Try.ntmps3
  go_wp2_with fail
  refine (CS.out _).mono ?_
  rintro e w1 ⟨d1, rfl, hs, hl, hb1⟩
  have Z1 : Hid (w.heap.size ≤ w1.heap.size) := by show _ ≤ _; have h := hb1.size; simpa using h
  replace HB : Hid (Below w.heap.size w w1) := HB.out.trans (hb1.mono HB.out.size)
  have D1 : Hid (StSame DD d1) := hs
  clear hs
  clear hb1
  have M1 : Hid (StLie w1 (w.heap.size) w1.heap.size d1) := hl
  clear hl
  have hba : Below w1.heap.size w1 (w1.alloc (.cells #[.slice d1.e.b.va d1.e.b.vs.length d1.e.b.vc, .slice d1.e.b.pa d1.e.b.ps.length d1.e.b.pc, .slice d1.e.b.qa d1.e.b.qs.length d1.e.b.qc, .int .i64 d1.e.b.cs, .int .i64 d1.e.b.nx, .slice d1.e.oa d1.e.os.length d1.e.oc, .slice d1.d.sa d1.d.ss.length d1.d.sc, .slice d1.d.pa d1.d.ps.length d1.d.pc] 33)) := (belowRefl _).alloc (Nat.le_refl _) _
  replace HB : Hid (Below w.heap.size w (w1.alloc (.cells #[.slice d1.e.b.va d1.e.b.vs.length d1.e.b.vc, .slice d1.e.b.pa d1.e.b.ps.length d1.e.b.pc, .slice d1.e.b.qa d1.e.b.qs.length d1.e.b.qc, .int .i64 d1.e.b.cs, .int .i64 d1.e.b.nx, .slice d1.e.oa d1.e.os.length d1.e.oc, .slice d1.d.sa d1.d.ss.length d1.d.sc, .slice d1.d.pa d1.d.ps.length d1.d.pc] 33))) := HB.out.trans (hba.mono HB.out.size)
  replace M1 : Hid (StLie (w1.alloc (.cells #[.slice d1.e.b.va d1.e.b.vs.length d1.e.b.vc, .slice d1.e.b.pa d1.e.b.ps.length d1.e.b.pc, .slice d1.e.b.qa d1.e.b.qs.length d1.e.b.qc, .int .i64 d1.e.b.cs, .int .i64 d1.e.b.nx, .slice d1.e.oa d1.e.os.length d1.e.oc, .slice d1.d.sa d1.d.ss.length d1.d.sc, .slice d1.d.pa d1.d.ps.length d1.d.pc] 33)) (w.heap.size) w1.heap.size d1) := M1.out.below hba
  clear hba
  have OB1 : Hid (Bx (w1.alloc (.cells #[.slice d1.e.b.va d1.e.b.vs.length d1.e.b.vc, .slice d1.e.b.pa d1.e.b.ps.length d1.e.b.pc, .slice d1.e.b.qa d1.e.b.qs.length d1.e.b.qc, .int .i64 d1.e.b.cs, .int .i64 d1.e.b.nx, .slice d1.e.oa d1.e.os.length d1.e.oc, .slice d1.d.sa d1.d.ss.length d1.d.sc, .slice d1.d.pa d1.d.ps.length d1.d.pc] 33)) (w1.heap.size) [.slice d1.e.b.va d1.e.b.vs.length d1.e.b.vc, .slice d1.e.b.pa d1.e.b.ps.length d1.e.b.pc, .slice d1.e.b.qa d1.e.b.qs.length d1.e.b.qc, .int .i64 d1.e.b.cs, .int .i64 d1.e.b.nx, .slice d1.e.oa d1.e.os.length d1.e.oc, .slice d1.d.sa d1.d.ss.length d1.d.sc, .slice d1.d.pa d1.d.ps.length d1.d.pc]) := Bx.new w1 [.slice d1.e.b.va d1.e.b.vs.length d1.e.b.vc, .slice d1.e.b.pa d1.e.b.ps.length d1.e.b.pc, .slice d1.e.b.qa d1.e.b.qs.length d1.e.b.qc, .int .i64 d1.e.b.cs, .int .i64 d1.e.b.nx, .slice d1.e.oa d1.e.os.length d1.e.oc, .slice d1.d.sa d1.d.ss.length d1.d.sc, .slice d1.d.pa d1.d.ps.length d1.d.pc] 33
  go_wp2_with fail
  refine (CI.out _).mono ?_
  rintro e w2 ⟨d2, rfl, hs, hl, hb2⟩
  have Z2 : Hid (w1.heap.size + 1 ≤ w2.heap.size) := by show _ ≤ _; have h := hb2.size; simpa using h
  replace HB : Hid (Below w.heap.size w w2) := HB.out.trans (hb2.mono HB.out.size)
  replace M1 : Hid (StLie w2 (w.heap.size) w1.heap.size d1) := M1.out.below hb2
  replace OB1 : Hid (Bx w2 (w1.heap.size) [.slice d1.e.b.va d1.e.b.vs.length d1.e.b.vc, .slice d1.e.b.pa d1.e.b.ps.length d1.e.b.pc, .slice d1.e.b.qa d1.e.b.qs.length d1.e.b.qc, .int .i64 d1.e.b.cs, .int .i64 d1.e.b.nx, .slice d1.e.oa d1.e.os.length d1.e.oc, .slice d1.d.sa d1.d.ss.length d1.d.sc, .slice d1.d.pa d1.d.ps.length d1.d.pc]) := OB1.out.below hb2
  have D2 : Hid (StSame DD d2) := hs
  clear hs
  clear hb2
  have M2 : Hid (StLie w2 (w1.heap.size + 1) w2.heap.size d2) := (by show StLie _ _ _ _; simpa using hl)
  clear hl
  have hba : Below w2.heap.size w2 (w2.alloc (.cells #[.slice d2.e.b.va d2.e.b.vs.length d2.e.b.vc, .slice d2.e.b.pa d2.e.b.ps.length d2.e.b.pc, .slice d2.e.b.qa d2.e.b.qs.length d2.e.b.qc, .int .i64 d2.e.b.cs, .int .i64 d2.e.b.nx, .slice d2.e.oa d2.e.os.length d2.e.oc, .slice d2.d.sa d2.d.ss.length d2.d.sc, .slice d2.d.pa d2.d.ps.length d2.d.pc] 33)) := (belowRefl _).alloc (Nat.le_refl _) _
  replace HB : Hid (Below w.heap.size w (w2.alloc (.cells #[.slice d2.e.b.va d2.e.b.vs.length d2.e.b.vc, .slice d2.e.b.pa d2.e.b.ps.length d2.e.b.pc, .slice d2.e.b.qa d2.e.b.qs.length d2.e.b.qc, .int .i64 d2.e.b.cs, .int .i64 d2.e.b.nx, .slice d2.e.oa d2.e.os.length d2.e.oc, .slice d2.d.sa d2.d.ss.length d2.d.sc, .slice d2.d.pa d2.d.ps.length d2.d.pc] 33))) := HB.out.trans (hba.mono HB.out.size)
  replace M1 : Hid (StLie (w2.alloc (.cells #[.slice d2.e.b.va d2.e.b.vs.length d2.e.b.vc, .slice d2.e.b.pa d2.e.b.ps.length d2.e.b.pc, .slice d2.e.b.qa d2.e.b.qs.length d2.e.b.qc, .int .i64 d2.e.b.cs, .int .i64 d2.e.b.nx, .slice d2.e.oa d2.e.os.length d2.e.oc, .slice d2.d.sa d2.d.ss.length d2.d.sc, .slice d2.d.pa d2.d.ps.length d2.d.pc] 33)) (w.heap.size) w1.heap.size d1) := M1.out.below hba
  replace OB1 : Hid (Bx (w2.alloc (.cells #[.slice d2.e.b.va d2.e.b.vs.length d2.e.b.vc, .slice d2.e.b.pa d2.e.b.ps.length d2.e.b.pc, .slice d2.e.b.qa d2.e.b.qs.length d2.e.b.qc, .int .i64 d2.e.b.cs, .int .i64 d2.e.b.nx, .slice d2.e.oa d2.e.os.length d2.e.oc, .slice d2.d.sa d2.d.ss.length d2.d.sc, .slice d2.d.pa d2.d.ps.length d2.d.pc] 33)) (w1.heap.size) [.slice d1.e.b.va d1.e.b.vs.length d1.e.b.vc, .slice d1.e.b.pa d1.e.b.ps.length d1.e.b.pc, .slice d1.e.b.qa d1.e.b.qs.length d1.e.b.qc, .int .i64 d1.e.b.cs, .int .i64 d1.e.b.nx, .slice d1.e.oa d1.e.os.length d1.e.oc, .slice d1.d.sa d1.d.ss.length d1.d.sc, .slice d1.d.pa d1.d.ps.length d1.d.pc]) := OB1.out.below hba
  replace M2 : Hid (StLie (w2.alloc (.cells #[.slice d2.e.b.va d2.e.b.vs.length d2.e.b.vc, .slice d2.e.b.pa d2.e.b.ps.length d2.e.b.pc, .slice d2.e.b.qa d2.e.b.qs.length d2.e.b.qc, .int .i64 d2.e.b.cs, .int .i64 d2.e.b.nx, .slice d2.e.oa d2.e.os.length d2.e.oc, .slice d2.d.sa d2.d.ss.length d2.d.sc, .slice d2.d.pa d2.d.ps.length d2.d.pc] 33)) (w1.heap.size + 1) w2.heap.size d2) := M2.out.below hba
  clear hba
  have OB2 : Hid (Bx (w2.alloc (.cells #[.slice d2.e.b.va d2.e.b.vs.length d2.e.b.vc, .slice d2.e.b.pa d2.e.b.ps.length d2.e.b.pc, .slice d2.e.b.qa d2.e.b.qs.length d2.e.b.qc, .int .i64 d2.e.b.cs, .int .i64 d2.e.b.nx, .slice d2.e.oa d2.e.os.length d2.e.oc, .slice d2.d.sa d2.d.ss.length d2.d.sc, .slice d2.d.pa d2.d.ps.length d2.d.pc] 33)) (w2.heap.size) [.slice d2.e.b.va d2.e.b.vs.length d2.e.b.vc, .slice d2.e.b.pa d2.e.b.ps.length d2.e.b.pc, .slice d2.e.b.qa d2.e.b.qs.length d2.e.b.qc, .int .i64 d2.e.b.cs, .int .i64 d2.e.b.nx, .slice d2.e.oa d2.e.os.length d2.e.oc, .slice d2.d.sa d2.d.ss.length d2.d.sc, .slice d2.d.pa d2.d.ps.length d2.d.pc]) := Bx.new w2 [.slice d2.e.b.va d2.e.b.vs.length d2.e.b.vc, .slice d2.e.b.pa d2.e.b.ps.length d2.e.b.pc, .slice d2.e.b.qa d2.e.b.qs.length d2.e.b.qc, .int .i64 d2.e.b.cs, .int .i64 d2.e.b.nx, .slice d2.e.oa d2.e.os.length d2.e.oc, .slice d2.d.sa d2.d.ss.length d2.d.sc, .slice d2.d.pa d2.d.ps.length d2.d.pc] 33
  have x0 := OB2.out.c0
  have x1 := OB2.out.c1
  have x2 := OB2.out.c2
  have x3 := OB2.out.c3
  have x4 := OB2.out.c4
  have x5 := OB2.out.c5
  have x6 := OB2.out.c6
  have x7 := OB2.out.c7
  have y0 := OB1.out.c0
  have y1 := OB1.out.c1
  have y2 := OB1.out.c2
  have y3 := OB1.out.c3
  have y4 := OB1.out.c4
  have y5 := OB1.out.c5
  have y6 := OB1.out.c6
  have y7 := OB1.out.c7
  go_wp2_with fail
  refine (eqS d2 d1 (D2.out.symm.trans D1.out) (D2.out.fit HFD.out) _ M2.out.rows M1.out.rows).mono ?_
  rintro e w3 ⟨rfl, hb3⟩
  have Z3 : Hid (w2.heap.size + 1 ≤ w3.heap.size) := by show _ ≤ _; have h := hb3.size; simpa using h
  replace HB : Hid (Below w.heap.size w w3) := HB.out.trans (hb3.mono HB.out.size)
  replace M1 : Hid (StLie w3 (w.heap.size) w1.heap.size d1) := M1.out.below hb3
  replace OB1 : Hid (Bx w3 (w1.heap.size) [.slice d1.e.b.va d1.e.b.vs.length d1.e.b.vc, .slice d1.e.b.pa d1.e.b.ps.length d1.e.b.pc, .slice d1.e.b.qa d1.e.b.qs.length d1.e.b.qc, .int .i64 d1.e.b.cs, .int .i64 d1.e.b.nx, .slice d1.e.oa d1.e.os.length d1.e.oc, .slice d1.d.sa d1.d.ss.length d1.d.sc, .slice d1.d.pa d1.d.ps.length d1.d.pc]) := OB1.out.below hb3
  replace M2 : Hid (StLie w3 (w1.heap.size + 1) w2.heap.size d2) := M2.out.below hb3
  replace OB2 : Hid (Bx w3 (w2.heap.size) [.slice d2.e.b.va d2.e.b.vs.length d2.e.b.vc, .slice d2.e.b.pa d2.e.b.ps.length d2.e.b.pc, .slice d2.e.b.qa d2.e.b.qs.length d2.e.b.qc, .int .i64 d2.e.b.cs, .int .i64 d2.e.b.nx, .slice d2.e.oa d2.e.os.length d2.e.oc, .slice d2.d.sa d2.d.ss.length d2.d.sc, .slice d2.d.pa d2.d.ps.length d2.d.pc]) := OB2.out.below hb3
  clear hb3 x0 x1 x2 x3 x4 x5 x6 x7 y0 y1 y2 y3 y4 y5 y6 y7
  have x0 := OB2.out.c0
  have x1 := OB2.out.c1
  have x2 := OB2.out.c2
  have x3 := OB2.out.c3
  have x4 := OB2.out.c4
  have x5 := OB2.out.c5
  have x6 := OB2.out.c6
  have x7 := OB2.out.c7
  go_wp2_with fail
  refine (markS d2 (w1.heap.size + 1) (w2.heap.size) (D2.out.fit HFD.out) _ (by have := Z1.out; have := Z2.out; have := Z3.out; omega) M2.out).mono ?_
  rintro e w4 ⟨q3, mm, rfl, hm, hz4, hh⟩
  have Z4 : Hid (w3.heap.size ≤ w4.heap.size) := hz4.size
  replace HB : Hid (Below w.heap.size w w4) := HB.out.trans (hz4.below (by have := Z1.out; have := Z2.out; have := Z3.out; omega) HB.out.size)
  replace M1 : Hid (StLie w4 (w.heap.size) w1.heap.size d1) := M1.out.zn hz4 (by have := Z1.out; have := Z2.out; have := Z3.out; omega)
  replace OB1 : Hid (Bx w4 (w1.heap.size) [.slice d1.e.b.va d1.e.b.vs.length d1.e.b.vc, .slice d1.e.b.pa d1.e.b.ps.length d1.e.b.pc, .slice d1.e.b.qa d1.e.b.qs.length d1.e.b.qc, .int .i64 d1.e.b.cs, .int .i64 d1.e.b.nx, .slice d1.e.oa d1.e.os.length d1.e.oc, .slice d1.d.sa d1.d.ss.length d1.d.sc, .slice d1.d.pa d1.d.ps.length d1.d.pc]) := OB1.out.zn hz4 (by have := Z1.out; have := Z2.out; have := Z3.out; omega)
  replace OB2 : Hid (Bx w4 (w2.heap.size) [.slice d2.e.b.va d2.e.b.vs.length d2.e.b.vc, .slice d2.e.b.pa d2.e.b.ps.length d2.e.b.pc, .slice d2.e.b.qa d2.e.b.qs.length d2.e.b.qc, .int .i64 d2.e.b.cs, .int .i64 d2.e.b.nx, .slice d2.e.oa d2.e.os.length d2.e.oc, .slice d2.d.sa d2.d.ss.length d2.d.sc, .slice d2.d.pa d2.d.ps.length d2.d.pc]) := OB2.out.zn hz4 (by have := Z1.out; have := Z2.out; have := Z3.out; omega)
  have MM : Hid (StLie w4 (w1.heap.size + 1) (w2.heap.size) mm) := hm
  have HH := hide hh
  clear hm hh
  clear hz4 x0 x1 x2 x3 x4 x5 x6 x7 M2
  have hK3a : ¬ (q3 : Int) < 0 := by omega
  have hK3b := ne_self_int (q3 : Int)
  have x0 := OB2.out.c0
  have x1 := OB2.out.c1
  have x2 := OB2.out.c2
  have x3 := OB2.out.c3
  have x4 := OB2.out.c4
  have x5 := OB2.out.c5
  have x6 := OB2.out.c6
  have x7 := OB2.out.c7
  go_wp2_with fail
  refine (HH.out _ MM.out.rows).mono ?_
  rintro e w5 ⟨rfl, hb5⟩
  have Z5 : Hid (w4.heap.size ≤ w5.heap.size) := by show _ ≤ _; have h := hb5.size; simpa using h
  replace HB : Hid (Below w.heap.size w w5) := HB.out.trans (hb5.mono HB.out.size)
  replace M1 : Hid (StLie w5 (w.heap.size) w1.heap.size d1) := M1.out.below hb5
  replace OB1 : Hid (Bx w5 (w1.heap.size) [.slice d1.e.b.va d1.e.b.vs.length d1.e.b.vc, .slice d1.e.b.pa d1.e.b.ps.length d1.e.b.pc, .slice d1.e.b.qa d1.e.b.qs.length d1.e.b.qc, .int .i64 d1.e.b.cs, .int .i64 d1.e.b.nx, .slice d1.e.oa d1.e.os.length d1.e.oc, .slice d1.d.sa d1.d.ss.length d1.d.sc, .slice d1.d.pa d1.d.ps.length d1.d.pc]) := OB1.out.below hb5
  replace OB2 : Hid (Bx w5 (w2.heap.size) [.slice d2.e.b.va d2.e.b.vs.length d2.e.b.vc, .slice d2.e.b.pa d2.e.b.ps.length d2.e.b.pc, .slice d2.e.b.qa d2.e.b.qs.length d2.e.b.qc, .int .i64 d2.e.b.cs, .int .i64 d2.e.b.nx, .slice d2.e.oa d2.e.os.length d2.e.oc, .slice d2.d.sa d2.d.ss.length d2.d.sc, .slice d2.d.pa d2.d.ps.length d2.d.pc]) := OB2.out.below hb5
  replace MM : Hid (StLie w5 (w1.heap.size + 1) (w2.heap.size) mm) := MM.out.below hb5
  clear hb5 x0 x1 x2 x3 x4 x5 x6 x7
  go_wp2_with fail
  refine (CI.out _).mono ?_
  rintro e w6 ⟨d4, rfl, hs, hl, hb6⟩
  have Z6 : Hid (w5.heap.size ≤ w6.heap.size) := by show _ ≤ _; have h := hb6.size; simpa using h
  replace HB : Hid (Below w.heap.size w w6) := HB.out.trans (hb6.mono HB.out.size)
  replace M1 : Hid (StLie w6 (w.heap.size) w1.heap.size d1) := M1.out.below hb6
  replace OB1 : Hid (Bx w6 (w1.heap.size) [.slice d1.e.b.va d1.e.b.vs.length d1.e.b.vc, .slice d1.e.b.pa d1.e.b.ps.length d1.e.b.pc, .slice d1.e.b.qa d1.e.b.qs.length d1.e.b.qc, .int .i64 d1.e.b.cs, .int .i64 d1.e.b.nx, .slice d1.e.oa d1.e.os.length d1.e.oc, .slice d1.d.sa d1.d.ss.length d1.d.sc, .slice d1.d.pa d1.d.ps.length d1.d.pc]) := OB1.out.below hb6
  replace OB2 : Hid (Bx w6 (w2.heap.size) [.slice d2.e.b.va d2.e.b.vs.length d2.e.b.vc, .slice d2.e.b.pa d2.e.b.ps.length d2.e.b.pc, .slice d2.e.b.qa d2.e.b.qs.length d2.e.b.qc, .int .i64 d2.e.b.cs, .int .i64 d2.e.b.nx, .slice d2.e.oa d2.e.os.length d2.e.oc, .slice d2.d.sa d2.d.ss.length d2.d.sc, .slice d2.d.pa d2.d.ps.length d2.d.pc]) := OB2.out.below hb6
  replace MM : Hid (StLie w6 (w1.heap.size + 1) (w2.heap.size) mm) := MM.out.below hb6
  have D4 : Hid (StSame DD d4) := hs
  clear hs
  clear hb6
  have M4 : Hid (StLie w6 (w5.heap.size) w6.heap.size d4) := hl
  clear hl
  have hba : Below w6.heap.size w6 (w6.alloc (.cells #[.slice d4.e.b.va d4.e.b.vs.length d4.e.b.vc, .slice d4.e.b.pa d4.e.b.ps.length d4.e.b.pc, .slice d4.e.b.qa d4.e.b.qs.length d4.e.b.qc, .int .i64 d4.e.b.cs, .int .i64 d4.e.b.nx, .slice d4.e.oa d4.e.os.length d4.e.oc, .slice d4.d.sa d4.d.ss.length d4.d.sc, .slice d4.d.pa d4.d.ps.length d4.d.pc] 33)) := (belowRefl _).alloc (Nat.le_refl _) _
  replace HB : Hid (Below w.heap.size w (w6.alloc (.cells #[.slice d4.e.b.va d4.e.b.vs.length d4.e.b.vc, .slice d4.e.b.pa d4.e.b.ps.length d4.e.b.pc, .slice d4.e.b.qa d4.e.b.qs.length d4.e.b.qc, .int .i64 d4.e.b.cs, .int .i64 d4.e.b.nx, .slice d4.e.oa d4.e.os.length d4.e.oc, .slice d4.d.sa d4.d.ss.length d4.d.sc, .slice d4.d.pa d4.d.ps.length d4.d.pc] 33))) := HB.out.trans (hba.mono HB.out.size)
  replace M1 : Hid (StLie (w6.alloc (.cells #[.slice d4.e.b.va d4.e.b.vs.length d4.e.b.vc, .slice d4.e.b.pa d4.e.b.ps.length d4.e.b.pc, .slice d4.e.b.qa d4.e.b.qs.length d4.e.b.qc, .int .i64 d4.e.b.cs, .int .i64 d4.e.b.nx, .slice d4.e.oa d4.e.os.length d4.e.oc, .slice d4.d.sa d4.d.ss.length d4.d.sc, .slice d4.d.pa d4.d.ps.length d4.d.pc] 33)) (w.heap.size) w1.heap.size d1) := M1.out.below hba
  replace OB1 : Hid (Bx (w6.alloc (.cells #[.slice d4.e.b.va d4.e.b.vs.length d4.e.b.vc, .slice d4.e.b.pa d4.e.b.ps.length d4.e.b.pc, .slice d4.e.b.qa d4.e.b.qs.length d4.e.b.qc, .int .i64 d4.e.b.cs, .int .i64 d4.e.b.nx, .slice d4.e.oa d4.e.os.length d4.e.oc, .slice d4.d.sa d4.d.ss.length d4.d.sc, .slice d4.d.pa d4.d.ps.length d4.d.pc] 33)) (w1.heap.size) [.slice d1.e.b.va d1.e.b.vs.length d1.e.b.vc, .slice d1.e.b.pa d1.e.b.ps.length d1.e.b.pc, .slice d1.e.b.qa d1.e.b.qs.length d1.e.b.qc, .int .i64 d1.e.b.cs, .int .i64 d1.e.b.nx, .slice d1.e.oa d1.e.os.length d1.e.oc, .slice d1.d.sa d1.d.ss.length d1.d.sc, .slice d1.d.pa d1.d.ps.length d1.d.pc]) := OB1.out.below hba
  replace OB2 : Hid (Bx (w6.alloc (.cells #[.slice d4.e.b.va d4.e.b.vs.length d4.e.b.vc, .slice d4.e.b.pa d4.e.b.ps.length d4.e.b.pc, .slice d4.e.b.qa d4.e.b.qs.length d4.e.b.qc, .int .i64 d4.e.b.cs, .int .i64 d4.e.b.nx, .slice d4.e.oa d4.e.os.length d4.e.oc, .slice d4.d.sa d4.d.ss.length d4.d.sc, .slice d4.d.pa d4.d.ps.length d4.d.pc] 33)) (w2.heap.size) [.slice d2.e.b.va d2.e.b.vs.length d2.e.b.vc, .slice d2.e.b.pa d2.e.b.ps.length d2.e.b.pc, .slice d2.e.b.qa d2.e.b.qs.length d2.e.b.qc, .int .i64 d2.e.b.cs, .int .i64 d2.e.b.nx, .slice d2.e.oa d2.e.os.length d2.e.oc, .slice d2.d.sa d2.d.ss.length d2.d.sc, .slice d2.d.pa d2.d.ps.length d2.d.pc]) := OB2.out.below hba
  replace MM : Hid (StLie (w6.alloc (.cells #[.slice d4.e.b.va d4.e.b.vs.length d4.e.b.vc, .slice d4.e.b.pa d4.e.b.ps.length d4.e.b.pc, .slice d4.e.b.qa d4.e.b.qs.length d4.e.b.qc, .int .i64 d4.e.b.cs, .int .i64 d4.e.b.nx, .slice d4.e.oa d4.e.os.length d4.e.oc, .slice d4.d.sa d4.d.ss.length d4.d.sc, .slice d4.d.pa d4.d.ps.length d4.d.pc] 33)) (w1.heap.size + 1) (w2.heap.size) mm) := MM.out.below hba
  replace M4 : Hid (StLie (w6.alloc (.cells #[.slice d4.e.b.va d4.e.b.vs.length d4.e.b.vc, .slice d4.e.b.pa d4.e.b.ps.length d4.e.b.pc, .slice d4.e.b.qa d4.e.b.qs.length d4.e.b.qc, .int .i64 d4.e.b.cs, .int .i64 d4.e.b.nx, .slice d4.e.oa d4.e.os.length d4.e.oc, .slice d4.d.sa d4.d.ss.length d4.d.sc, .slice d4.d.pa d4.d.ps.length d4.d.pc] 33)) (w5.heap.size) w6.heap.size d4) := M4.out.below hba
  clear hba
  have OB4 : Hid (Bx (w6.alloc (.cells #[.slice d4.e.b.va d4.e.b.vs.length d4.e.b.vc, .slice d4.e.b.pa d4.e.b.ps.length d4.e.b.pc, .slice d4.e.b.qa d4.e.b.qs.length d4.e.b.qc, .int .i64 d4.e.b.cs, .int .i64 d4.e.b.nx, .slice d4.e.oa d4.e.os.length d4.e.oc, .slice d4.d.sa d4.d.ss.length d4.d.sc, .slice d4.d.pa d4.d.ps.length d4.d.pc] 33)) (w6.heap.size) [.slice d4.e.b.va d4.e.b.vs.length d4.e.b.vc, .slice d4.e.b.pa d4.e.b.ps.length d4.e.b.pc, .slice d4.e.b.qa d4.e.b.qs.length d4.e.b.qc, .int .i64 d4.e.b.cs, .int .i64 d4.e.b.nx, .slice d4.e.oa d4.e.os.length d4.e.oc, .slice d4.d.sa d4.d.ss.length d4.d.sc, .slice d4.d.pa d4.d.ps.length d4.d.pc]) := Bx.new w6 [.slice d4.e.b.va d4.e.b.vs.length d4.e.b.vc, .slice d4.e.b.pa d4.e.b.ps.length d4.e.b.pc, .slice d4.e.b.qa d4.e.b.qs.length d4.e.b.qc, .int .i64 d4.e.b.cs, .int .i64 d4.e.b.nx, .slice d4.e.oa d4.e.os.length d4.e.oc, .slice d4.d.sa d4.d.ss.length d4.d.sc, .slice d4.d.pa d4.d.ps.length d4.d.pc] 33
  have x0 := OB4.out.c0
  have x1 := OB4.out.c1
  have x2 := OB4.out.c2
  have x3 := OB4.out.c3
  have x4 := OB4.out.c4
  have x5 := OB4.out.c5
  have x6 := OB4.out.c6
  have x7 := OB4.out.c7
  have y0 := OB1.out.c0
  have y1 := OB1.out.c1
  have y2 := OB1.out.c2
  have y3 := OB1.out.c3
  have y4 := OB1.out.c4
  have y5 := OB1.out.c5
  have y6 := OB1.out.c6
  have y7 := OB1.out.c7
  go_wp2_with fail
  refine (eqS d4 d1 (D4.out.symm.trans D1.out) (D4.out.fit HFD.out) _ M4.out.rows M1.out.rows).mono ?_
  rintro e w7 ⟨rfl, hb7⟩
  have Z7 : Hid (w6.heap.size + 1 ≤ w7.heap.size) := by show _ ≤ _; have h := hb7.size; simpa using h
  replace HB : Hid (Below w.heap.size w w7) := HB.out.trans (hb7.mono HB.out.size)
  replace M1 : Hid (StLie w7 (w.heap.size) w1.heap.size d1) := M1.out.below hb7
  replace OB1 : Hid (Bx w7 (w1.heap.size) [.slice d1.e.b.va d1.e.b.vs.length d1.e.b.vc, .slice d1.e.b.pa d1.e.b.ps.length d1.e.b.pc, .slice d1.e.b.qa d1.e.b.qs.length d1.e.b.qc, .int .i64 d1.e.b.cs, .int .i64 d1.e.b.nx, .slice d1.e.oa d1.e.os.length d1.e.oc, .slice d1.d.sa d1.d.ss.length d1.d.sc, .slice d1.d.pa d1.d.ps.length d1.d.pc]) := OB1.out.below hb7
  replace OB2 : Hid (Bx w7 (w2.heap.size) [.slice d2.e.b.va d2.e.b.vs.length d2.e.b.vc, .slice d2.e.b.pa d2.e.b.ps.length d2.e.b.pc, .slice d2.e.b.qa d2.e.b.qs.length d2.e.b.qc, .int .i64 d2.e.b.cs, .int .i64 d2.e.b.nx, .slice d2.e.oa d2.e.os.length d2.e.oc, .slice d2.d.sa d2.d.ss.length d2.d.sc, .slice d2.d.pa d2.d.ps.length d2.d.pc]) := OB2.out.below hb7
  replace MM : Hid (StLie w7 (w1.heap.size + 1) (w2.heap.size) mm) := MM.out.below hb7
  replace M4 : Hid (StLie w7 (w5.heap.size) w6.heap.size d4) := M4.out.below hb7
  replace OB4 : Hid (Bx w7 (w6.heap.size) [.slice d4.e.b.va d4.e.b.vs.length d4.e.b.vc, .slice d4.e.b.pa d4.e.b.ps.length d4.e.b.pc, .slice d4.e.b.qa d4.e.b.qs.length d4.e.b.qc, .int .i64 d4.e.b.cs, .int .i64 d4.e.b.nx, .slice d4.e.oa d4.e.os.length d4.e.oc, .slice d4.d.sa d4.d.ss.length d4.d.sc, .slice d4.d.pa d4.d.ps.length d4.d.pc]) := OB4.out.below hb7
  clear hb7 x0 x1 x2 x3 x4 x5 x6 x7 y0 y1 y2 y3 y4 y5 y6 y7
  have x0 := OB2.out.c0
  have x1 := OB2.out.c1
  have x2 := OB2.out.c2
  have x3 := OB2.out.c3
  have x4 := OB2.out.c4
  have x5 := OB2.out.c5
  have x6 := OB2.out.c6
  have x7 := OB2.out.c7
  go_wp2_with fail
  refine (HH.out _ MM.out.rows).mono ?_
  rintro e w8 ⟨rfl, hb8⟩
  have Z8 : Hid (w7.heap.size ≤ w8.heap.size) := by show _ ≤ _; have h := hb8.size; simpa using h
  replace HB : Hid (Below w.heap.size w w8) := HB.out.trans (hb8.mono HB.out.size)
  replace M1 : Hid (StLie w8 (w.heap.size) w1.heap.size d1) := M1.out.below hb8
  replace OB1 : Hid (Bx w8 (w1.heap.size) [.slice d1.e.b.va d1.e.b.vs.length d1.e.b.vc, .slice d1.e.b.pa d1.e.b.ps.length d1.e.b.pc, .slice d1.e.b.qa d1.e.b.qs.length d1.e.b.qc, .int .i64 d1.e.b.cs, .int .i64 d1.e.b.nx, .slice d1.e.oa d1.e.os.length d1.e.oc, .slice d1.d.sa d1.d.ss.length d1.d.sc, .slice d1.d.pa d1.d.ps.length d1.d.pc]) := OB1.out.below hb8
  replace OB2 : Hid (Bx w8 (w2.heap.size) [.slice d2.e.b.va d2.e.b.vs.length d2.e.b.vc, .slice d2.e.b.pa d2.e.b.ps.length d2.e.b.pc, .slice d2.e.b.qa d2.e.b.qs.length d2.e.b.qc, .int .i64 d2.e.b.cs, .int .i64 d2.e.b.nx, .slice d2.e.oa d2.e.os.length d2.e.oc, .slice d2.d.sa d2.d.ss.length d2.d.sc, .slice d2.d.pa d2.d.ps.length d2.d.pc]) := OB2.out.below hb8
  replace MM : Hid (StLie w8 (w1.heap.size + 1) (w2.heap.size) mm) := MM.out.below hb8
  replace M4 : Hid (StLie w8 (w5.heap.size) w6.heap.size d4) := M4.out.below hb8
  replace OB4 : Hid (Bx w8 (w6.heap.size) [.slice d4.e.b.va d4.e.b.vs.length d4.e.b.vc, .slice d4.e.b.pa d4.e.b.ps.length d4.e.b.pc, .slice d4.e.b.qa d4.e.b.qs.length d4.e.b.qc, .int .i64 d4.e.b.cs, .int .i64 d4.e.b.nx, .slice d4.e.oa d4.e.os.length d4.e.oc, .slice d4.d.sa d4.d.ss.length d4.d.sc, .slice d4.d.pa d4.d.ps.length d4.d.pc]) := OB4.out.below hb8
  clear hb8 x0 x1 x2 x3 x4 x5 x6 x7
  go_wp2
  go_ret
  exact ⟨rfl, HB.out⟩

end Go.Proofs.Ytmaipaeehalabaa

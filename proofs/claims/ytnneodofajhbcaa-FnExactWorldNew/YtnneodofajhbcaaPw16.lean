/- StoreNew of both sides, and the law FnExactStoreNew, walked. -/
import Derived.Test.YtnneodofajhbcaaPw13
import Derived.Test.YtnneodofajhbcaaPw15
import Derived.Deep.RegionHeld3
import Derived.Deep.Cut
import Derived.Deep.CutRange
import Derived.Test.YtnneodofajhbcaaPw03
import Derived.Test.YtnneodofajhbcaaPw02
namespace Go.Proofs.Ytnneodofajhbcaa
open Go.RowKit
open KM
open DM
attribute [local go_sem ↓] Go.wp_at_zero Go.wp_at_succ

set_option maxRecDepth 100000 in
set_option maxHeartbeats 2000000 in
theorem enews (w : World) : Calls Try.prog 32 #[] w fun e w' => e = .returned (.agg #[.slice none 0 0, .slice none 0 0, .slice none 0 0, .int .i64 0, .int .i64 1, .slice none 0 0]) ∧ Below w.heap.size w w' := by
  have BR : Hid (Bx (w.alloc (.cells #[.slice none 0 0, .slice none 0 0, .slice none 0 0, .int .i64 0, .int .i64 0, .slice none 0 0] 36)) w.heap.size [.slice none 0 0, .slice none 0 0, .slice none 0 0, .int .i64 0, .int .i64 0, .slice none 0 0]) := Bx.new w [.slice none 0 0, .slice none 0 0, .slice none 0 0, .int .i64 0, .int .i64 0, .slice none 0 0] 36
  have HB : Hid (Below w.heap.size w (w.alloc (.cells #[.slice none 0 0, .slice none 0 0, .slice none 0 0, .int .i64 0, .int .i64 0, .slice none 0 0] 36))) := (belowRefl w).alloc (Nat.le_refl _) _
  go_enter Try.func32, Try.ntmps32
  go_upto_region 1 with fail
  generalize (w.alloc (.cells #[.slice none 0 0, .slice none 0 0, .slice none 0 0, .int .i64 0, .int .i64 0, .slice none 0 0] 36)) = w0 at *
  go_wp2_with fail
  refine (bnew28 _).mono ?_
  rintro e w1 ⟨rfl, hb⟩
  replace BR : Hid (Bx w1 w.heap.size [.slice none 0 0, .slice none 0 0, .slice none 0 0, .int .i64 0, .int .i64 0, .slice none 0 0]) := BR.out.below hb
  replace HB : Hid (Below w.heap.size w w1) := HB.out.trans (hb.mono HB.out.size)
  clear hb
  have q0 := BR.out.c0
  have fq0 := BR.out.fz 0
  have q1 := BR.out.c1
  have fq1 := BR.out.fz 1
  have q2 := BR.out.c2
  have fq2 := BR.out.fz 2
  have q3 := BR.out.c3
  have fq3 := BR.out.fz 3
  have q4 := BR.out.c4
  have fq4 := BR.out.fz 4
  have q5 := BR.out.c5
  have fq5 := BR.out.fz 5
  go_wp2
  refine bodyPost_ret (v := .agg #[.slice none 0 0, .slice none 0 0, .slice none 0 0, .int .i64 0, .int .i64 1, .slice none 0 0]) (by simp [results, Try.results32, go_sem, q0, q1, q2, q3, q4, q5]) rfl ⟨rfl, ?_⟩
  exact (((((HB.out.setCell (p := ⟨w.heap.size, 0, none⟩) (Nat.le_refl _) _).setCell (p := ⟨w.heap.size, 1, none⟩) (Nat.le_refl _) _).setCell (p := ⟨w.heap.size, 2, none⟩) (Nat.le_refl _) _).setCell (p := ⟨w.heap.size, 3, none⟩) (Nat.le_refl _) _).setCell (p := ⟨w.heap.size, 4, none⟩) (Nat.le_refl _) _).setCell (p := ⟨w.heap.size, 5, none⟩) (Nat.le_refl _) _

set_option maxRecDepth 100000 in
set_option maxHeartbeats 2000000 in
theorem enewi (w : World) : Calls Try.prog 34 #[] w fun e w' => e = .returned (.agg #[.slice none 0 0, .slice none 0 0, .slice none 0 0, .int .i64 0, .int .i64 1, .slice none 0 0]) ∧ Below w.heap.size w w' := by
  have BR : Hid (Bx (w.alloc (.cells #[.slice none 0 0, .slice none 0 0, .slice none 0 0, .int .i64 0, .int .i64 0, .slice none 0 0] 36)) w.heap.size [.slice none 0 0, .slice none 0 0, .slice none 0 0, .int .i64 0, .int .i64 0, .slice none 0 0]) := Bx.new w [.slice none 0 0, .slice none 0 0, .slice none 0 0, .int .i64 0, .int .i64 0, .slice none 0 0] 36
  have HB : Hid (Below w.heap.size w (w.alloc (.cells #[.slice none 0 0, .slice none 0 0, .slice none 0 0, .int .i64 0, .int .i64 0, .slice none 0 0] 36))) := (belowRefl w).alloc (Nat.le_refl _) _
  go_enter Try.func34, Try.ntmps34
  go_upto_region 1 with fail
  generalize (w.alloc (.cells #[.slice none 0 0, .slice none 0 0, .slice none 0 0, .int .i64 0, .int .i64 0, .slice none 0 0] 36)) = w0 at *
  go_wp2_with fail
  refine (bnew29 _).mono ?_
  rintro e w1 ⟨rfl, hb⟩
  replace BR : Hid (Bx w1 w.heap.size [.slice none 0 0, .slice none 0 0, .slice none 0 0, .int .i64 0, .int .i64 0, .slice none 0 0]) := BR.out.below hb
  replace HB : Hid (Below w.heap.size w w1) := HB.out.trans (hb.mono HB.out.size)
  clear hb
  have q0 := BR.out.c0
  have fq0 := BR.out.fz 0
  have q1 := BR.out.c1
  have fq1 := BR.out.fz 1
  have q2 := BR.out.c2
  have fq2 := BR.out.fz 2
  have q3 := BR.out.c3
  have fq3 := BR.out.fz 3
  have q4 := BR.out.c4
  have fq4 := BR.out.fz 4
  have q5 := BR.out.c5
  have fq5 := BR.out.fz 5
  go_wp2
  refine bodyPost_ret (v := .agg #[.slice none 0 0, .slice none 0 0, .slice none 0 0, .int .i64 0, .int .i64 1, .slice none 0 0]) (by simp [results, Try.results34, go_sem, q0, q1, q2, q3, q4, q5]) rfl ⟨rfl, ?_⟩
  exact (((((HB.out.setCell (p := ⟨w.heap.size, 0, none⟩) (Nat.le_refl _) _).setCell (p := ⟨w.heap.size, 1, none⟩) (Nat.le_refl _) _).setCell (p := ⟨w.heap.size, 2, none⟩) (Nat.le_refl _) _).setCell (p := ⟨w.heap.size, 3, none⟩) (Nat.le_refl _) _).setCell (p := ⟨w.heap.size, 4, none⟩) (Nat.le_refl _) _).setCell (p := ⟨w.heap.size, 5, none⟩) (Nat.le_refl _) _

def noEn : En := ⟨noBb, [], none, 0⟩
theorem noEn_fit : EnFit noEn := ⟨⟨Nat.zero_le _, fun _ h => (by cases h), ⟨Nat.zero_le _, fun _ h => (by cases h)⟩, ⟨Nat.zero_le _, fun _ h => (by cases h)⟩⟩, ⟨Nat.zero_le _, fun _ h => (by cases h)⟩⟩
theorem noL_lie (w : World) (lo : Nat) : LLie w lo lo (.slice none 0 0) [] := ⟨⟨GOwn.nil _ _, fun g h => by simp [Value.ownBlock] at h⟩, Nat.le_refl _⟩
theorem noEn_lie (w : World) (lo : Nat) : EnLie w lo lo noEn := ⟨lo, Nat.le_refl _, Nat.le_refl _, ⟨lo, lo, Nat.le_refl _, Nat.le_refl _, Nat.le_refl _, ⟨GOwn.nil _ _, fun g h => by simp [noEn, noBb, Value.ownBlock] at h⟩, noL_lie w lo, noL_lie w lo⟩, noL_lie w lo⟩
def nwSt : St := ⟨noEn, ⟨lgS, lgP, none, 0, none, 0⟩⟩
theorem nwSt_fit : StFit nwSt := by
  refine ⟨noEn_fit, ?_, ?_, ?_, ?_⟩
  · exact Nat.le_trans (nwS_len 97) (by omega)
  · exact Nat.zero_le _
  · intro s hs
    have hs' : s ∈ nwS 97 := hs
    unfold nwS at hs'
    split at hs'
    · simp [zerosS] at hs'
      rw [hs']
      decide +kernel
    · cases hs'
  · intro p hp
    cases hp

set_option maxRecDepth 100000 in
set_option maxHeartbeats 2000000 in
theorem snewS0 (w : World) : Calls Try.prog 19 #[] w fun e w' => ∃ b1 d1 b2 d2, e = .returned (.agg #[.slice none 0 0, .slice none 0 0, .slice none 0 0, .int .i64 0, .int .i64 1, .slice none 0 0, .slice b1 lgS.length d1, .slice b2 lgP.length d2]) ∧ DLie w' (w.heap.size + 1) w'.heap.size ⟨lgS, lgP, b1, d1, b2, d2⟩ ∧ Below w.heap.size w w' := by
  have HC : Hid (∀ w : World, Calls Try.prog 33 #[] w fun e w' => ∃ b1 d1 b2 d2, e = .returned (.agg #[.slice b1 lgS.length d1, .slice b2 lgP.length d2]) ∧ DLie w' w.heap.size w'.heap.size ⟨lgS, lgP, b1, d1, b2, d2⟩ ∧ Below w.heap.size w w') := fun w => by
    refine (slog16 w).mono ?_
    rintro e w' ⟨b1, d1, b2, d2, he, ho, hb⟩
    exact ⟨b1, d1, b2, d2, he, DLie.of ho, hb⟩
  generalize lgS = S at *
  generalize lgP = P at *
  have BR : Hid (Bx (w.alloc (.cells #[.slice none 0 0, .slice none 0 0, .slice none 0 0, .int .i64 0, .int .i64 0, .slice none 0 0, .slice none 0 0, .slice none 0 0] 42)) w.heap.size [.slice none 0 0, .slice none 0 0, .slice none 0 0, .int .i64 0, .int .i64 0, .slice none 0 0, .slice none 0 0, .slice none 0 0]) := Bx.new w [.slice none 0 0, .slice none 0 0, .slice none 0 0, .int .i64 0, .int .i64 0, .slice none 0 0, .slice none 0 0, .slice none 0 0] 42
  have HB : Hid (Below w.heap.size w (w.alloc (.cells #[.slice none 0 0, .slice none 0 0, .slice none 0 0, .int .i64 0, .int .i64 0, .slice none 0 0, .slice none 0 0, .slice none 0 0] 42))) := (belowRefl w).alloc (Nat.le_refl _) _
  have HZ : Hid (w.heap.size + 1 ≤ (w.alloc (.cells #[.slice none 0 0, .slice none 0 0, .slice none 0 0, .int .i64 0, .int .i64 0, .slice none 0 0, .slice none 0 0, .slice none 0 0] 42)).heap.size) := by show _ ≤ _; simp
  go_enter Try.func19, Try.ntmps19
  go_upto_region 1 with fail
  generalize (w.alloc (.cells #[.slice none 0 0, .slice none 0 0, .slice none 0 0, .int .i64 0, .int .i64 0, .slice none 0 0, .slice none 0 0, .slice none 0 0] 42)) = w0 at *
  go_wp2_with fail
  refine (enews _).mono ?_
  rintro e w1 ⟨rfl, hb⟩
  replace BR : Hid (Bx w1 w.heap.size [.slice none 0 0, .slice none 0 0, .slice none 0 0, .int .i64 0, .int .i64 0, .slice none 0 0, .slice none 0 0, .slice none 0 0]) := BR.out.below hb
  replace HB : Hid (Below w.heap.size w w1) := HB.out.trans (hb.mono HB.out.size)
  replace HZ : Hid (w.heap.size + 1 ≤ w1.heap.size) := Nat.le_trans HZ.out hb.size
  clear hb
  go_wp2_with fail
  refine (HC.out _).mono ?_
  rintro e w2 ⟨b1, d1, b2, d2, rfl, hl, hb⟩
  replace BR : Hid (Bx w2 w.heap.size [.slice none 0 0, .slice none 0 0, .slice none 0 0, .int .i64 0, .int .i64 0, .slice none 0 0, .slice none 0 0, .slice none 0 0]) := BR.out.below hb
  replace HB : Hid (Below w.heap.size w w2) := HB.out.trans (hb.mono HB.out.size)
  have HL : Hid (DLie w2 (w.heap.size + 1) w2.heap.size ⟨S, P, b1, d1, b2, d2⟩) := hl.mono HZ.out (Nat.le_refl _)
  clear hb hl HZ HC
  have q0 := BR.out.c0
  have fq0 := BR.out.fz 0
  have q1 := BR.out.c1
  have fq1 := BR.out.fz 1
  have q2 := BR.out.c2
  have fq2 := BR.out.fz 2
  have q3 := BR.out.c3
  have fq3 := BR.out.fz 3
  have q4 := BR.out.c4
  have fq4 := BR.out.fz 4
  have q5 := BR.out.c5
  have fq5 := BR.out.fz 5
  have q6 := BR.out.c6
  have fq6 := BR.out.fz 6
  have q7 := BR.out.c7
  have fq7 := BR.out.fz 7
  go_wp2
  refine bodyPost_ret (v := .agg #[.slice none 0 0, .slice none 0 0, .slice none 0 0, .int .i64 0, .int .i64 1, .slice none 0 0, .slice b1 S.length d1, .slice b2 P.length d2]) (by simp [results, Try.results19, go_sem, q0, q1, q2, q3, q4, q5, q6, q7]) rfl ⟨b1, d1, b2, d2, rfl, ?_, ?_⟩
  · exact (((((((((HL.out.set (a := ⟨w.heap.size, 0, none⟩) (by show w.heap.size < w.heap.size + 1; omega) _).set (a := ⟨w.heap.size, 1, none⟩) (by show w.heap.size < w.heap.size + 1; omega) _).set (a := ⟨w.heap.size, 2, none⟩) (by show w.heap.size < w.heap.size + 1; omega) _).set (a := ⟨w.heap.size, 3, none⟩) (by show w.heap.size < w.heap.size + 1; omega) _).set (a := ⟨w.heap.size, 4, none⟩) (by show w.heap.size < w.heap.size + 1; omega) _).set (a := ⟨w.heap.size, 5, none⟩) (by show w.heap.size < w.heap.size + 1; omega) _).set (a := ⟨w.heap.size, 6, none⟩) (by show w.heap.size < w.heap.size + 1; omega) _).set (a := ⟨w.heap.size, 7, none⟩) (by show w.heap.size < w.heap.size + 1; omega) _).mono (Nat.le_refl _) (by simp [World.setCell]))
  · exact (((((((HB.out.setCell (p := ⟨w.heap.size, 0, none⟩) (Nat.le_refl _) _).setCell (p := ⟨w.heap.size, 1, none⟩) (Nat.le_refl _) _).setCell (p := ⟨w.heap.size, 2, none⟩) (Nat.le_refl _) _).setCell (p := ⟨w.heap.size, 3, none⟩) (Nat.le_refl _) _).setCell (p := ⟨w.heap.size, 4, none⟩) (Nat.le_refl _) _).setCell (p := ⟨w.heap.size, 5, none⟩) (Nat.le_refl _) _).setCell (p := ⟨w.heap.size, 6, none⟩) (Nat.le_refl _) _).setCell (p := ⟨w.heap.size, 7, none⟩) (Nat.le_refl _) _

theorem snewS (w : World) : Calls Try.prog 19 #[] w fun e w' => ∃ s : St, e = .returned (.agg #[.slice s.e.b.va s.e.b.vs.length s.e.b.vc, .slice s.e.b.pa s.e.b.ps.length s.e.b.pc, .slice s.e.b.qa s.e.b.qs.length s.e.b.qc, .int .i64 s.e.b.cs, .int .i64 s.e.b.nx, .slice s.e.oa s.e.os.length s.e.oc, .slice s.d.sa s.d.ss.length s.d.sc, .slice s.d.pa s.d.ps.length s.d.pc]) ∧ StSame nwSt s ∧ StLie w' w.heap.size w'.heap.size s ∧ Below w.heap.size w w' := by
  refine (snewS0 w).mono ?_
  rintro e w' ⟨b1, d1, b2, d2, he, hl, hb⟩
  exact ⟨⟨noEn, ⟨lgS, lgP, b1, d1, b2, d2⟩⟩, he, ⟨⟨⟨rfl, rfl, rfl, rfl, rfl⟩, rfl⟩, ⟨rfl, rfl⟩⟩, ⟨w.heap.size, Nat.le_refl _, hb.size, noEn_lie w' _, hl.mono (by omega) (Nat.le_refl _)⟩, hb⟩

set_option maxRecDepth 100000 in
set_option maxHeartbeats 2000000 in
theorem inewS0 (w : World) : Calls Try.prog 20 #[] w fun e w' => ∃ b1 d1 b2 d2, e = .returned (.agg #[.slice none 0 0, .slice none 0 0, .slice none 0 0, .int .i64 0, .int .i64 1, .slice none 0 0, .slice b1 lgS.length d1, .slice b2 lgP.length d2]) ∧ DLie w' (w.heap.size + 1) w'.heap.size ⟨lgS, lgP, b1, d1, b2, d2⟩ ∧ Below w.heap.size w w' := by
  have HC : Hid (∀ w : World, Calls Try.prog 35 #[] w fun e w' => ∃ b1 d1 b2 d2, e = .returned (.agg #[.slice b1 lgS.length d1, .slice b2 lgP.length d2]) ∧ DLie w' w.heap.size w'.heap.size ⟨lgS, lgP, b1, d1, b2, d2⟩ ∧ Below w.heap.size w w') := fun w => by
    refine (ilog17 w).mono ?_
    rintro e w' ⟨b1, d1, b2, d2, he, ho, hb⟩
    exact ⟨b1, d1, b2, d2, he, DLie.of ho, hb⟩
  generalize lgS = S at *
  generalize lgP = P at *
  have BR : Hid (Bx (w.alloc (.cells #[.slice none 0 0, .slice none 0 0, .slice none 0 0, .int .i64 0, .int .i64 0, .slice none 0 0, .slice none 0 0, .slice none 0 0] 42)) w.heap.size [.slice none 0 0, .slice none 0 0, .slice none 0 0, .int .i64 0, .int .i64 0, .slice none 0 0, .slice none 0 0, .slice none 0 0]) := Bx.new w [.slice none 0 0, .slice none 0 0, .slice none 0 0, .int .i64 0, .int .i64 0, .slice none 0 0, .slice none 0 0, .slice none 0 0] 42
  have HB : Hid (Below w.heap.size w (w.alloc (.cells #[.slice none 0 0, .slice none 0 0, .slice none 0 0, .int .i64 0, .int .i64 0, .slice none 0 0, .slice none 0 0, .slice none 0 0] 42))) := (belowRefl w).alloc (Nat.le_refl _) _
  have HZ : Hid (w.heap.size + 1 ≤ (w.alloc (.cells #[.slice none 0 0, .slice none 0 0, .slice none 0 0, .int .i64 0, .int .i64 0, .slice none 0 0, .slice none 0 0, .slice none 0 0] 42)).heap.size) := by show _ ≤ _; simp
  go_enter Try.func20, Try.ntmps20
  go_upto_region 1 with fail
  generalize (w.alloc (.cells #[.slice none 0 0, .slice none 0 0, .slice none 0 0, .int .i64 0, .int .i64 0, .slice none 0 0, .slice none 0 0, .slice none 0 0] 42)) = w0 at *
  go_wp2_with fail
  refine (enewi _).mono ?_
  rintro e w1 ⟨rfl, hb⟩
  replace BR : Hid (Bx w1 w.heap.size [.slice none 0 0, .slice none 0 0, .slice none 0 0, .int .i64 0, .int .i64 0, .slice none 0 0, .slice none 0 0, .slice none 0 0]) := BR.out.below hb
  replace HB : Hid (Below w.heap.size w w1) := HB.out.trans (hb.mono HB.out.size)
  replace HZ : Hid (w.heap.size + 1 ≤ w1.heap.size) := Nat.le_trans HZ.out hb.size
  clear hb
  go_wp2_with fail
  refine (HC.out _).mono ?_
  rintro e w2 ⟨b1, d1, b2, d2, rfl, hl, hb⟩
  replace BR : Hid (Bx w2 w.heap.size [.slice none 0 0, .slice none 0 0, .slice none 0 0, .int .i64 0, .int .i64 0, .slice none 0 0, .slice none 0 0, .slice none 0 0]) := BR.out.below hb
  replace HB : Hid (Below w.heap.size w w2) := HB.out.trans (hb.mono HB.out.size)
  have HL : Hid (DLie w2 (w.heap.size + 1) w2.heap.size ⟨S, P, b1, d1, b2, d2⟩) := hl.mono HZ.out (Nat.le_refl _)
  clear hb hl HZ HC
  have q0 := BR.out.c0
  have fq0 := BR.out.fz 0
  have q1 := BR.out.c1
  have fq1 := BR.out.fz 1
  have q2 := BR.out.c2
  have fq2 := BR.out.fz 2
  have q3 := BR.out.c3
  have fq3 := BR.out.fz 3
  have q4 := BR.out.c4
  have fq4 := BR.out.fz 4
  have q5 := BR.out.c5
  have fq5 := BR.out.fz 5
  have q6 := BR.out.c6
  have fq6 := BR.out.fz 6
  have q7 := BR.out.c7
  have fq7 := BR.out.fz 7
  go_wp2
  refine bodyPost_ret (v := .agg #[.slice none 0 0, .slice none 0 0, .slice none 0 0, .int .i64 0, .int .i64 1, .slice none 0 0, .slice b1 S.length d1, .slice b2 P.length d2]) (by simp [results, Try.results20, go_sem, q0, q1, q2, q3, q4, q5, q6, q7]) rfl ⟨b1, d1, b2, d2, rfl, ?_, ?_⟩
  · exact (((((((((HL.out.set (a := ⟨w.heap.size, 0, none⟩) (by show w.heap.size < w.heap.size + 1; omega) _).set (a := ⟨w.heap.size, 1, none⟩) (by show w.heap.size < w.heap.size + 1; omega) _).set (a := ⟨w.heap.size, 2, none⟩) (by show w.heap.size < w.heap.size + 1; omega) _).set (a := ⟨w.heap.size, 3, none⟩) (by show w.heap.size < w.heap.size + 1; omega) _).set (a := ⟨w.heap.size, 4, none⟩) (by show w.heap.size < w.heap.size + 1; omega) _).set (a := ⟨w.heap.size, 5, none⟩) (by show w.heap.size < w.heap.size + 1; omega) _).set (a := ⟨w.heap.size, 6, none⟩) (by show w.heap.size < w.heap.size + 1; omega) _).set (a := ⟨w.heap.size, 7, none⟩) (by show w.heap.size < w.heap.size + 1; omega) _).mono (Nat.le_refl _) (by simp [World.setCell]))
  · exact (((((((HB.out.setCell (p := ⟨w.heap.size, 0, none⟩) (Nat.le_refl _) _).setCell (p := ⟨w.heap.size, 1, none⟩) (Nat.le_refl _) _).setCell (p := ⟨w.heap.size, 2, none⟩) (Nat.le_refl _) _).setCell (p := ⟨w.heap.size, 3, none⟩) (Nat.le_refl _) _).setCell (p := ⟨w.heap.size, 4, none⟩) (Nat.le_refl _) _).setCell (p := ⟨w.heap.size, 5, none⟩) (Nat.le_refl _) _).setCell (p := ⟨w.heap.size, 6, none⟩) (Nat.le_refl _) _).setCell (p := ⟨w.heap.size, 7, none⟩) (Nat.le_refl _) _

theorem inewS (w : World) : Calls Try.prog 20 #[] w fun e w' => ∃ s : St, e = .returned (.agg #[.slice s.e.b.va s.e.b.vs.length s.e.b.vc, .slice s.e.b.pa s.e.b.ps.length s.e.b.pc, .slice s.e.b.qa s.e.b.qs.length s.e.b.qc, .int .i64 s.e.b.cs, .int .i64 s.e.b.nx, .slice s.e.oa s.e.os.length s.e.oc, .slice s.d.sa s.d.ss.length s.d.sc, .slice s.d.pa s.d.ps.length s.d.pc]) ∧ StSame nwSt s ∧ StLie w' w.heap.size w'.heap.size s ∧ Below w.heap.size w w' := by
  refine (inewS0 w).mono ?_
  rintro e w' ⟨b1, d1, b2, d2, he, hl, hb⟩
  exact ⟨⟨noEn, ⟨lgS, lgP, b1, d1, b2, d2⟩⟩, he, ⟨⟨⟨rfl, rfl, rfl, rfl, rfl⟩, rfl⟩, ⟨rfl, rfl⟩⟩, ⟨w.heap.size, Nat.le_refl _, hb.size, noEn_lie w' _, hl.mono (by omega) (Nat.le_refl _)⟩, hb⟩

end Go.Proofs.Ytnneodofajhbcaa

namespace Go.Proofs.Ytnneodofajhbcaa
open Go.RowKit
open KM
attribute [local go_sem ↓] Go.wp_at_zero Go.wp_at_succ

end Go.Proofs.Ytnneodofajhbcaa

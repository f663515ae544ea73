/- What impl.SectorText returns. -/
import Derived.Test.YtnfkfhpmhhmbaaaPa13
namespace Go.Proofs.Ytnfkfhpmhhmbaaa
open Go.RowKit
open DM
attribute [local go_sem ↓] Go.wp_at_zero Go.wp_at_succ

theorem fresh92 (w : World) : Lib.IsBuilder 99 5 w.heap.size w.heap.size (bv []) (w.alloc (.cells #[.pointer none, .slice none 0 0] 99)) :=
  Or.inl ⟨Nat.le_refl _, .slice none 0 0, heap_alloc_new w _, World.ownsRow_nil _ _ _ _, by simp [Value.ownBlock]⟩

theorem builder_below {w w' : World} {b : Nat} {bs : List Value} (h : Lib.IsBuilder 99 5 b b bs w) (hb : Below w.heap.size w w') : Lib.IsBuilder 99 5 b b bs w' := by
  have key : ∀ p, Lib.BuilderAt 99 5 b b p bs w → Lib.BuilderAt 99 5 b b p bs w' := fun p h => by
    have hlt := h.lt
    obtain ⟨hB, v, hbk, hown, hne⟩ := h
    exact ⟨hB, v, (hb.block b hlt).trans hbk, ownsBelow hown hb, hne⟩
  rcases h with h | h
  · exact Or.inl (key _ h)
  · exact Or.inr (key _ h)

set_option maxRecDepth 100000 in
set_option maxHeartbeats 2000000 in
theorem ist32 (ss : List ByteArray) (ps : List Wr) (f n : Int) (a1 a2 : Option Addr) (c1 c2 : Nat) (hf1 : -9223372036854775808 ≤ f) (hf2 : f ≤ 9223372036854775807) (hn : ss.length ≤ 1048576) (hm : ps.length ≤ 1048576) (hs : ∀ s ∈ ss, s.size ≤ 1048576) (hp : ∀ p ∈ ps, p.2.size ≤ 1048576) (w : World) (hsr : SRow w a1 ss) (hpr : PRow w a2 ps) :
    Calls Try.prog 84 #[.agg #[.slice a1 ss.length c1, .slice a2 ps.length c2], .int .i64 f, .int .i64 n] w fun e w' => e = .returned (.tuple #[.string (stT ss ps f n), .bool (stB ss f n)]) ∧ Below w.heap.size w w' := by
  have HS : Hid (SRow w a1 ss) := hsr
  have HP : Hid (PRow w a2 ps) := hpr
  have HLS : Hid (∀ s ∈ ss, s.size ≤ 1048576) := hs
  have HLP : Hid (∀ p ∈ ps, p.2.size ≤ 1048576) := hp
  have HLS2 : Hid (∀ s ∈ ss, s.size ≤ 1000000000) := fun s h => Nat.le_trans (hs s h) (by omega)
  have HLP2 : Hid (∀ p ∈ ps, p.2.size ≤ 1000000000) := fun p h => Nat.le_trans (hp p h) (by omega)
  clear hsr hpr hs hp
  by_cases hn0 : 0 ≤ n ∧ n ≤ 100
  · obtain ⟨m, rfl⟩ := Int.eq_ofNat_of_zero_le hn0.1
    have hm100 : m ≤ 100 := by omega
    have e1 : decide ((m : Int) < 0) = false := by simp
    have e2 : decide ((100 : Int) < (m : Int)) = false := by simp; omega
    have b0 : Hid (Below w.heap.size w ((w.alloc (.cells #[.slice a1 ss.length c1, .slice a2 ps.length c2] 30)).alloc (.cells #[.pointer none, .slice none 0 0] 99))) := ((belowRefl w).alloc (Nat.le_refl _) _).alloc (by simp) _
    have HI0 : Hid (Lib.IsBuilder 99 5 (w.heap.size + 1) (w.heap.size + 1) (bv (stx ss ps f 0)) ((w.alloc (.cells #[.slice a1 ss.length c1, .slice a2 ps.length c2] 30)).alloc (.cells #[.pointer none, .slice none 0 0] 99))) := by
      have h := fresh92 (w.alloc (.cells #[.slice a1 ss.length c1, .slice a2 ps.length c2] 30))
      rw [World.size_alloc] at h
      exact h
    go_enter Try.func84, Try.ntmps84
    go_wp2
    go_loopw [19] (fun t wr => ∃ (k : Nat), k ≤ m ∧ t = .int .i64 k ∧ Hid (∀ i, i < k → hasB (f + (i : Nat)) ss.length = true) ∧ Hid (Below (w.heap.size + 1) (w.alloc (.cells #[.slice a1 ss.length c1, .slice a2 ps.length c2] 30)) wr) ∧ Hid (Lib.IsBuilder 99 5 (w.heap.size + 1) (w.heap.size + 1) (bv (stx ss ps f k)) wr)) (fun t _ => m - (intOf t).toNat)
    case atStart => exact ⟨0, Nat.zero_le _, rfl, (fun i hi => by omega), (Below.refl _ _).alloc (by simp) _, HI0⟩
    case round =>
      clear HI0
      obtain ⟨k, hk, rfl, HA, HX, HI⟩ := hrel
      have HB : Hid (Below w.heap.size w wr) := ((belowRefl w).alloc (Nat.le_refl _) _).trans (HX.out.mono (by omega))
      obtain ⟨g0, g1, z0⟩ := boxed HX.out
      by_cases hlt : k < m
      · have hlt' : (k : Int) < (m : Int) := by omega
        have hfk : IntKind.i64.wrap (f + (k : Int)) = f + (k : Int) := by
          rw [IntKind.wrap_i64]
          by_cases hk0 : k = 0
          · subst hk0; simp; omega
          · have := hasB_iff.1 (HA.out (k - 1) (by omega))
            omega
        cases hh : hasB (f + (k : Nat)) ss.length with
        | true =>
          have HA2 : Hid (∀ i, i < k + 1 → hasB (f + (i : Nat)) ss.length = true) := fun i hi => by
            by_cases e : i = k
            · subst e; exact hh
            · exact HA.out i (by omega)
          have HLen : Hid ((stx ss ps f k).length + (rdR ss ps (f + k)).size ≤ 1000000000) := by
            have h1 := stx_len HLS.out HLP.out f k
            have h2 := rdR_size HLS.out HLP.out (f + k)
            show _ ≤ _
            omega
          have HSX : Hid (stx ss ps f (k + 1) = stx ss ps f k ++ (rdR ss ps (f + k)).data.toList) := rfl
          have HH : Hid (hasB (f + (k : Nat)) ss.length = true) := hh
          clear hh
          go_wp2_with fail
          refine (ird21_any ss ps _ a1 a2 c1 c2 (by omega) (by omega) HLS2.out HLP2.out _ (HS.out.below HB.out) (HP.out.below HB.out)).mono ?_
          rintro e w2 ⟨rfl, hb2⟩
          rw [HH.out]
          have HX2 : Hid (Below (w.heap.size + 1) (w.alloc (.cells #[.slice a1 ss.length c1, .slice a2 ps.length c2] 30)) w2) := HX.out.trans (hb2.mono (by omega))
          have HI2 : Hid (Lib.IsBuilder 99 5 (w.heap.size + 1) (w.heap.size + 1) (bv (stx ss ps f k)) w2) := builder_below HI.out hb2
          have hw2 : w.heap.size + 1 ≤ w2.heap.size := Nat.le_trans z0 hb2.size
          clear hb2 g0 g1 z0 hfk
          generalize rdR ss ps (f + k) = tx at *
          go_wp2_with fail
          refine (write69 (w.heap.size + 1) (w.heap.size + 1) (stx ss ps f k) tx _ HI2.out HLen.out hw2).mono ?_
          rintro e w3 ⟨rfl, h3, hb3⟩
          have HI3 : Hid (Lib.IsBuilder 99 5 (w.heap.size + 1) (w.heap.size + 1) (bv (stx ss ps f (k + 1))) w3) := Or.inr (by rw [HSX.out]; exact h3)
          have HX3 : Hid (Below (w.heap.size + 1) (w.alloc (.cells #[.slice a1 ss.length c1, .slice a2 ps.length c2] 30)) w3) := HX2.out.trans hb3
          clear h3 hb3
          go_wp2
          go_roundw
          case rel => exact ⟨k + 1, by omega, by go_num, HA2, HX3, HI3⟩
          case measure => simp [intOf]; omega
        | false =>
          have HN : Hid (stB ss f m = false ∧ stT ss ps f m = ⟨#[]⟩) := st_no (fun h => by have := h.2.2 k (by simpa using hlt); rw [hh] at this; cases this)
          have HH : Hid (hasB (f + (k : Nat)) ss.length = false) := hh
          clear hh
          go_wp2_with fail
          refine (ird21_any ss ps _ a1 a2 c1 c2 (by omega) (by omega) HLS2.out HLP2.out _ (HS.out.below HB.out) (HP.out.below HB.out)).mono ?_
          rintro e w2 ⟨rfl, hb2⟩
          rw [HH.out]
          have HB2 : Hid (Below w.heap.size w w2) := HB.out.trans (hb2.mono HB.out.size)
          clear hb2 g0 g1 z0 hfk
          go_wp2
          go_ret2
          exact ⟨ret_sb2 HN.out.2.symm HN.out.1.symm, HB2.out⟩
      · have hlt' : ¬ (k : Int) < (m : Int) := by omega
        obtain rfl : k = m := by omega
        have HY : Hid (stB ss f k = true ∧ stT ss ps f k = ⟨(stx ss ps f k).toArray⟩) := st_yes ⟨hn0.1, hn0.2, fun i hi => HA.out i (by simpa using hi)⟩
        go_wp2_with fail
        refine (Try.Builder_String_any (w.heap.size + 1) (w.heap.size + 1) (stx ss ps f k) _ HI.out z0).mono ?_
        rintro e w2 ⟨rfl, hb2⟩
        have HB2 : Hid (Below w.heap.size w w2) := HB.out.trans (hb2.mono (by omega))
        clear hb2
        go_wp2
        go_ret2
        exact ⟨ret_sb2 HY.out.2.symm HY.out.1.symm, HB2.out⟩
  · have HN : Hid (stB ss f n = false ∧ stT ss ps f n = ⟨#[]⟩) := st_no (fun h => hn0 ⟨h.1, h.2.1⟩)
    by_cases h0 : n < 0
    · have e1 : decide (n < 0) = true := by simpa using h0
      go_enter Try.func84, Try.ntmps84
      go_wp2
      go_ret2
      exact ⟨ret_sb2 HN.out.2.symm HN.out.1.symm, (belowRefl _).alloc (Nat.le_refl _) _⟩
    · have e1 : decide (n < 0) = false := by simpa using h0
      have e2 : decide ((100 : Int) < n) = true := by simp; omega
      go_enter Try.func84, Try.ntmps84
      go_wp2
      go_ret2
      exact ⟨ret_sb2 HN.out.2.symm HN.out.1.symm, (belowRefl _).alloc (Nat.le_refl _) _⟩
end Go.Proofs.Ytnfkfhpmhhmbaaa

/- What hasSector, l01In, DiskOk and ReadSector return, on both sides. -/
import Derived.Test.YtekjpoenbcnhdaaPa01
import Derived.Deep.QuietTactic
import Derived.BigQuiet
import Derived.Deep.RegionHeld3
import Derived.Deep.DrawnRows
import Derived.Shelf.Strings.Builder1
import Derived.Shelf.Strings.BuilderF
import Derived.Shelf.Strings.BuilderK
import Derived.Shelf.LaysM
import Derived.Shelf.Strconv.Clone
import Derived.Test.YtekjpoenbcnhdaaProg
namespace Go.Proofs.Ytekjpoenbcnhdaa
open Go.RowKit
open DM
attribute [local go_sem ↓] Go.wp_at_zero Go.wp_at_succ

theorem ret_bool {a b : Bool} (h : a = b) : Ending.returned (.bool a) = .returned (.bool b) := by rw [h]

theorem bcell {W w1 : World} (hb : Below W.heap.size W w1) : (∀ b o, b < W.heap.size → w1.cell? ⟨b, o, none⟩ = W.cell? ⟨b, o, none⟩) ∧ (∀ b o, b < W.heap.size → w1.frozen? ⟨b, o, none⟩ = W.frozen? ⟨b, o, none⟩) :=
  ⟨fun b o h => hb.cell (p := ⟨b, o, none⟩) h, fun b o h => hb.frozen (p := ⟨b, o, none⟩) h⟩

theorem below_drewN {B : Nat} {a w : World} (h : Below B a w) (n : Nat) : Below B a (w.drewN n) := h.trans ⟨rfl, rfl, rfl, Nat.le_refl _, fun _ _ => rfl⟩

set_option maxHeartbeats 400000 in
theorem has58 (at' : Int) (n c1 : Nat) (a1 : Option Addr) (v : Value) (b : Bool) (hb : hasB at' n = b) (w : World) :
    Calls Try.prog 79 #[.agg #[.slice a1 n c1, v], .int .i64 at'] w fun e w' => e = .returned (.bool b) ∧ Below w.heap.size w w' := by
  have HB : Hid (hasB at' n = b) := hb
  clear hb
  by_cases h0 : 0 ≤ at'
  · by_cases h1 : at' < (n : Int)
    · have HT : Hid (hasB at' n = true) := hasB_iff.2 ⟨h0, h1⟩
      go_enter Try.func79, Try.ntmps79
      go_wp2
      go_ret
      exact ⟨ret_bool (HT.out.symm.trans HB.out), (Below.refl _ _).alloc (Nat.le_refl _) _⟩
    · have HT : Hid (hasB at' n = false) := hasB_no (fun h => h1 h.2)
      have h1' : decide (at' < (n : Int)) = false := by simpa using h1
      go_enter Try.func79, Try.ntmps79
      go_wp2
      go_ret
      exact ⟨ret_bool (HT.out.symm.trans HB.out), (Below.refl _ _).alloc (Nat.le_refl _) _⟩
  · have HT : Hid (hasB at' n = false) := hasB_no (fun h => h0 h.1)
    have h0' : decide (0 ≤ at') = false := by simpa using h0
    go_enter Try.func79, Try.ntmps79
    go_wp2
    go_ret
    exact ⟨ret_bool (HT.out.symm.trans HB.out), (Below.refl _ _).alloc (Nat.le_refl _) _⟩

set_option maxHeartbeats 400000 in
theorem in57 (x lo hi : Int) (b : Bool) (hb : decide (lo ≤ x ∧ x ≤ hi) = b) (w : World) :
    Calls Try.prog 47 #[.int .i64 x, .int .i64 lo, .int .i64 hi] w fun e w' => e = .returned (.bool b) ∧ w' = w := by
  have HB : Hid (decide (lo ≤ x ∧ x ≤ hi) = b) := hb
  clear hb
  by_cases h0 : lo ≤ x
  · by_cases h1 : x ≤ hi
    · go_enter Try.func47, Try.ntmps47
      go_wp2
      go_ret
      exact ⟨ret_bool (by rw [← HB.out]; simp [h0, h1]), rfl⟩
    · have h1' : decide (x ≤ hi) = false := by simpa using h1
      go_enter Try.func47, Try.ntmps47
      go_wp2
      go_ret
      exact ⟨ret_bool (by rw [← HB.out]; simp [h1]), rfl⟩
  · have h0' : decide (lo ≤ x) = false := by simpa using h0
    go_enter Try.func47, Try.ntmps47
    go_wp2
    go_ret
    exact ⟨ret_bool (by rw [← HB.out]; simp; omega), rfl⟩

set_option maxRecDepth 100000 in
set_option maxHeartbeats 1000000 in
theorem iok22 (ss : List ByteArray) (ps : List Wr) (a1 a2 : Option Addr) (c1 c2 : Nat) (hn : ss.length ≤ 100000000) (hm : ps.length ≤ 100000000) (w : World) (hs : SRow w a1 ss) (hp : PRow w a2 ps) :
    Calls Try.prog 60 #[.agg #[.slice a1 ss.length c1, .slice a2 ps.length c2]] w fun e w' => e = .returned (.bool (okB ss ps)) ∧ Below w.heap.size w w' := by
  have HS : Hid (SRow w a1 ss) := hs
  have HP : Hid (PRow w a2 ps) := hp
  clear hs hp
  by_cases h1 : 1 ≤ ss.length
  · by_cases h2 : ss.length ≤ 100
    · by_cases h3 : ps.length ≤ 60
      · have e1 : decide ((ss.length : Int) < 1) = false := by simp; omega
        have e2 : decide ((100 : Int) < (ss.length : Int)) = false := by simp; omega
        have e3 : decide ((60 : Int) < (ps.length : Int)) = false := by simp; omega
        go_enter Try.func60, Try.ntmps60
        go_wp2
        go_loop [26] (fun t => ∃ k : Nat, k ≤ ss.length ∧ t = .int .i64 k ∧ Hid (∀ j (hj : j < ss.length), j < k → ss[j].size = 64)) (fun t => ss.length - (intOf t).toNat)
        case atStart => exact ⟨0, Nat.zero_le _, rfl, fun j hj h => by omega⟩
        case round =>
          obtain ⟨k, hk, rfl, HA⟩ := hrel
          by_cases hlt : k < ss.length
          · have hlt' : (k : Int) < (ss.length : Int) := by omega
            have h0 : (0 : Int) ≤ (k : Int) := by omega
            obtain ⟨b, off, rfl, hbl, hc⟩ := (HS.out.below ((belowRefl w).alloc (Nat.le_refl _) (.cells #[.slice a1 ss.length c1, .slice a2 ps.length c2] 27))) (by omega)
            have hck := hc k hlt
            clear hc
            by_cases h64 : ss[k].size = 64
            · have h64' : ((ss[k].size : Int) != 64) = false := by rw [bne_eq_false_iff_eq]; omega
              have HA2 : Hid (∀ j (hj : j < ss.length), j < k + 1 → ss[j].size = 64) := fun j hj h => by
                by_cases e : j = k
                · subst e; exact h64
                · exact HA.out j hj (by omega)
              clear h64
              go_wp2
              go_round
              case rel => exact ⟨k + 1, by omega, by go_num, HA2⟩
              case measure => simp [intOf]; omega
            · have h64' : ((ss[k].size : Int) != 64) = true := by rw [bne_iff_ne]; omega
              have HN : Hid (okB ss ps = false) := okB_no (fun h => h64 (h.2.2.2.1 _ (List.getElem_mem hlt)))
              clear h64
              go_wp2
              go_ret
              exact ⟨ret_bool HN.out.symm, (belowRefl w).alloc (Nat.le_refl _) _⟩
          · have hlt' : ¬ (k : Int) < (ss.length : Int) := by omega
            have HA2 : Hid (∀ s ∈ ss, s.size = 64) := fun s hs => by
              obtain ⟨j, hj, rfl⟩ := List.getElem_of_mem hs
              exact HA.out j hj (by omega)
            go_wp2
            go_loopw [37] (fun t wr => ∃ k : Nat, k ≤ ps.length ∧ t = .int .i64 k ∧ Hid (∀ j (hj : j < ps.length), j < k → 0 ≤ ps[j].1 ∧ ps[j].1 < (ss.length : Int) ∧ ps[j].2.size = 64) ∧ Hid (Below (w.heap.size + 1) (w.alloc (.cells #[.slice a1 ss.length c1, .slice a2 ps.length c2] 27)) wr)) (fun t _ => ps.length - (intOf t).toNat)
            case atStart => exact ⟨0, Nat.zero_le _, rfl, fun j hj h => by omega, Below.refl _ _⟩
            case round =>
              obtain ⟨k2, hk2, rfl, HQ, HB⟩ := hrel
              have hbw : Below w.heap.size w wr := ((belowRefl w).alloc (Nat.le_refl _) (.cells #[.slice a1 ss.length c1, .slice a2 ps.length c2] 27)).trans (HB.out.mono (by omega))
              have HBW : Hid (Below w.heap.size w wr) := hbw
              have hsz : w.heap.size < wr.heap.size := by have := HB.out.size; simp at this; omega
              clear hbw
              by_cases hlt2 : k2 < ps.length
              · have hlt2' : (k2 : Int) < (ps.length : Int) := by omega
                have h02 : (0 : Int) ≤ (k2 : Int) := by omega
                obtain ⟨b, off, rfl, hbl, hc⟩ := (HP.out.below HBW.out) (by omega)
                have hck := (hc k2 hlt2).1
                have hcl := (hc k2 hlt2).2
                clear hc
                have g0 : wr.cell? ⟨w.heap.size, 0, none⟩ = some (.slice a1 ss.length c1) := (HB.out.cell (p := ⟨w.heap.size, 0, none⟩) (by simp)).trans (by simp [go_sem])
                have g1 : wr.cell? ⟨w.heap.size, 1, none⟩ = some (.slice (some ⟨b, off, none⟩) ps.length c2) := (HB.out.cell (p := ⟨w.heap.size, 1, none⟩) (by simp)).trans (by simp [go_sem])
                by_cases hin : 0 ≤ ps[k2].1 ∧ ps[k2].1 < (ss.length : Int)
                · have HIN : Hid (hasB ps[k2].1 ss.length = true) := hasB_iff.2 hin
                  by_cases h64 : ps[k2].2.size = 64
                  · have h64' : ((ps[k2].2.size : Int) != 64) = false := by rw [bne_eq_false_iff_eq]; omega
                    have HQ2 : Hid (∀ j (hj : j < ps.length), j < k2 + 1 → 0 ≤ ps[j].1 ∧ ps[j].1 < (ss.length : Int) ∧ ps[j].2.size = 64) := fun j hj h => by
                      by_cases e : j = k2
                      · subst e; exact ⟨hin.1, hin.2, h64⟩
                      · exact HQ.out j hj (by omega)
                    clear h64 hin
                    go_wp2_with (go_at_call 79; refine (has58 _ _ _ _ _ true HIN.out _).mono ?_; rintro e w2 ⟨rfl, hb2⟩; obtain ⟨hc2, hf2⟩ := bcell hb2)
                    go_roundw
                    case rel => exact ⟨k2 + 1, by omega, by go_num, HQ2, (HB.out.alloc (by omega) _).trans (hb2.mono (by simp; omega))⟩
                    case measure => simp [intOf]; omega
                  · have h64' : ((ps[k2].2.size : Int) != 64) = true := by rw [bne_iff_ne]; omega
                    have HN : Hid (okB ss ps = false) := okB_no (fun h => h64 (h.2.2.2.2 _ (List.getElem_mem hlt2)).2.2)
                    clear h64 hin
                    go_wp2_with (go_at_call 79; refine (has58 _ _ _ _ _ true HIN.out _).mono ?_; rintro e w2 ⟨rfl, hb2⟩; obtain ⟨hc2, hf2⟩ := bcell hb2)
                    go_ret
                    exact ⟨ret_bool HN.out.symm, (HBW.out.alloc HBW.out.size _).trans (hb2.mono (by simp; omega))⟩
                · have HIN : Hid (hasB ps[k2].1 ss.length = false) := hasB_no hin
                  have HN : Hid (okB ss ps = false) := okB_no (fun h => hin ⟨(h.2.2.2.2 _ (List.getElem_mem hlt2)).1, (h.2.2.2.2 _ (List.getElem_mem hlt2)).2.1⟩)
                  clear hin
                  go_wp2_with (go_at_call 79; refine (has58 _ _ _ _ _ false HIN.out _).mono ?_; rintro e w2 ⟨rfl, hb2⟩; obtain ⟨hc2, hf2⟩ := bcell hb2)
                  go_ret
                  exact ⟨ret_bool HN.out.symm, (HBW.out.alloc HBW.out.size _).trans (hb2.mono (by simp; omega))⟩
              · have hlt2' : ¬ (k2 : Int) < (ps.length : Int) := by omega
                have HY : Hid (okB ss ps = true) := okB_iff.2 ⟨h1, h2, h3, HA2.out, fun p hp => by
                  obtain ⟨j, hj, rfl⟩ := List.getElem_of_mem hp
                  exact HQ.out j hj (by omega)⟩
                go_wp2
                go_ret
                exact ⟨ret_bool HY.out.symm, HBW.out⟩
      · have e1 : decide ((ss.length : Int) < 1) = false := by simp; omega
        have e2 : decide ((100 : Int) < (ss.length : Int)) = false := by simp; omega
        have e3 : decide ((60 : Int) < (ps.length : Int)) = true := by simp; omega
        have HN : Hid (okB ss ps = false) := okB_no (fun h => h3 h.2.2.1)
        go_enter Try.func60, Try.ntmps60
        go_wp2
        go_ret
        exact ⟨ret_bool HN.out.symm, (belowRefl w).alloc (Nat.le_refl _) _⟩
    · have e1 : decide ((ss.length : Int) < 1) = false := by simp; omega
      have e2 : decide ((100 : Int) < (ss.length : Int)) = true := by simp; omega
      have HN : Hid (okB ss ps = false) := okB_no (fun h => h2 h.2.1)
      go_enter Try.func60, Try.ntmps60
      go_wp2
      go_ret
      exact ⟨ret_bool HN.out.symm, (belowRefl w).alloc (Nat.le_refl _) _⟩
  · have e1 : decide ((ss.length : Int) < 1) = true := by simp; omega
    have HN : Hid (okB ss ps = false) := okB_no (fun h => h1 h.1)
    go_enter Try.func60, Try.ntmps60
    go_wp2
    go_ret
    exact ⟨ret_bool HN.out.symm, (belowRefl w).alloc (Nat.le_refl _) _⟩

set_option maxRecDepth 100000 in
set_option maxHeartbeats 1000000 in
theorem sok37 (ss : List ByteArray) (ps : List Wr) (a1 a2 : Option Addr) (c1 c2 : Nat) (hn : ss.length ≤ 100000000) (hm : ps.length ≤ 100000000) (w : World) (hs : SRow w a1 ss) (hp : PRow w a2 ps) :
    Calls Try.prog 42 #[.agg #[.slice a1 ss.length c1, .slice a2 ps.length c2]] w fun e w' => e = .returned (.bool (okB ss ps)) ∧ Below w.heap.size w w' := by
  have HS : Hid (SRow w a1 ss) := hs
  have HP : Hid (PRow w a2 ps) := hp
  clear hs hp
  by_cases h12 : 1 ≤ ss.length ∧ ss.length ≤ 100
  · have HI : Hid (decide ((1 : Int) ≤ (ss.length : Int) ∧ (ss.length : Int) ≤ 100) = true) := by show _ = _; simp; omega
    by_cases h3 : ps.length ≤ 60
    · have e3 : decide ((60 : Int) < (ps.length : Int)) = false := by simp; omega
      go_enter Try.func42, Try.ntmps42
      go_wp2_with (go_at_call 47; refine (in57 _ _ _ true HI.out _).mono ?_; rintro e w2 ⟨rfl, rfl⟩)
      go_loop [3] (fun t => ∃ k : Nat, k ≤ ss.length ∧ t = .int .i64 k ∧ Hid (∀ j (hj : j < ss.length), j < k → ss[j].size = 64)) (fun t => ss.length - (intOf t).toNat)
      case atStart => exact ⟨0, Nat.zero_le _, rfl, fun j hj h => by omega⟩
      case round =>
        obtain ⟨k, hk, rfl, HA⟩ := hrel
        by_cases hlt : k < ss.length
        · have hlt' : (k : Int) < (ss.length : Int) := by omega
          have h0 : (0 : Int) ≤ (k : Int) := by omega
          obtain ⟨b, off, rfl, hbl, hc⟩ := (HS.out.below ((belowRefl w).alloc (Nat.le_refl _) (.cells #[.slice a1 ss.length c1, .slice a2 ps.length c2] 27))) (by omega)
          have hck := hc k hlt
          clear hc
          by_cases h64 : ss[k].size = 64
          · have h64' : ((ss[k].size : Int) != 64) = false := by rw [bne_eq_false_iff_eq]; omega
            have HA2 : Hid (∀ j (hj : j < ss.length), j < k + 1 → ss[j].size = 64) := fun j hj h => by
              by_cases e : j = k
              · subst e; exact h64
              · exact HA.out j hj (by omega)
            clear h64
            go_wp2
            go_round
            case rel => exact ⟨k + 1, by omega, by go_num, HA2⟩
            case measure => simp [intOf]; omega
          · have h64' : ((ss[k].size : Int) != 64) = true := by rw [bne_iff_ne]; omega
            have HN : Hid (okB ss ps = false) := okB_no (fun h => h64 (h.2.2.2.1 _ (List.getElem_mem hlt)))
            clear h64
            go_wp2
            go_ret
            exact ⟨ret_bool HN.out.symm, (belowRefl w).alloc (Nat.le_refl _) _⟩
        · have hlt' : ¬ (k : Int) < (ss.length : Int) := by omega
          have HA2 : Hid (∀ s ∈ ss, s.size = 64) := fun s hs => by
            obtain ⟨j, hj, rfl⟩ := List.getElem_of_mem hs
            exact HA.out j hj (by omega)
          go_wp2
          go_loopw [4] (fun t wr => ∃ k : Nat, k ≤ ps.length ∧ t = .int .i64 k ∧ Hid (∀ j (hj : j < ps.length), j < k → 0 ≤ ps[j].1 ∧ ps[j].1 < (ss.length : Int) ∧ ps[j].2.size = 64) ∧ Hid (Below (w.heap.size + 1) (w.alloc (.cells #[.slice a1 ss.length c1, .slice a2 ps.length c2] 27)) wr)) (fun t _ => ps.length - (intOf t).toNat)
          case atStart => exact ⟨0, Nat.zero_le _, rfl, fun j hj h => by omega, Below.refl _ _⟩
          case round =>
            obtain ⟨k2, hk2, rfl, HQ, HB⟩ := hrel
            have hbw : Below w.heap.size w wr := ((belowRefl w).alloc (Nat.le_refl _) (.cells #[.slice a1 ss.length c1, .slice a2 ps.length c2] 27)).trans (HB.out.mono (by omega))
            have HBW : Hid (Below w.heap.size w wr) := hbw
            have hsz : w.heap.size < wr.heap.size := by have := HB.out.size; simp at this; omega
            have HG0 : Hid (wr.cell? ⟨w.heap.size, 0, none⟩ = some (.slice a1 ss.length c1)) := (HB.out.cell (p := ⟨w.heap.size, 0, none⟩) (by simp)).trans (by simp [go_sem])
            have HG1 : Hid (wr.cell? ⟨w.heap.size, 1, none⟩ = some (.slice a2 ps.length c2)) := (HB.out.cell (p := ⟨w.heap.size, 1, none⟩) (by simp)).trans (by simp [go_sem])
            have g0 := HG0.out
            have g1 := HG1.out
            clear hbw
            by_cases hlt2 : k2 < ps.length
            · have hlt2' : (k2 : Int) < (ps.length : Int) := by omega
              have h02 : (0 : Int) ≤ (k2 : Int) := by omega
              obtain ⟨b, off, rfl, hbl, hc⟩ := (HP.out.below HBW.out) (by omega)
              have hck := (hc k2 hlt2).1
              have hcl := (hc k2 hlt2).2
              clear hc
              have e9 : IntKind.i64.wrap ((ss.length : Int) - 1) = (ss.length : Int) - 1 := by rw [IntKind.wrap_i64]; omega
              by_cases hin : 0 ≤ ps[k2].1 ∧ ps[k2].1 < (ss.length : Int)
              · have HIN : Hid (decide ((0 : Int) ≤ ps[k2].1 ∧ ps[k2].1 ≤ (ss.length : Int) - 1) = true) := by show _ = _; simp; omega
                by_cases h64 : ps[k2].2.size = 64
                · have h64' : ((ps[k2].2.size : Int) != 64) = false := by rw [bne_eq_false_iff_eq]; omega
                  have HQ2 : Hid (∀ j (hj : j < ps.length), j < k2 + 1 → 0 ≤ ps[j].1 ∧ ps[j].1 < (ss.length : Int) ∧ ps[j].2.size = 64) := fun j hj h => by
                    by_cases e : j = k2
                    · subst e; exact ⟨hin.1, hin.2, h64⟩
                    · exact HQ.out j hj (by omega)
                  clear h64 hin
                  go_wp2
                  go_quiet ((go_at_call 47; exact Calls.quiet_of_same (in57 _ _ _ true HIN.out _)))
                  go_wp2
                  go_roundw
                  case rel => exact ⟨k2 + 1, by omega, by go_num, HQ2, below_drewN HB.out _⟩
                  case measure => simp [intOf]; omega
                · have h64' : ((ps[k2].2.size : Int) != 64) = true := by rw [bne_iff_ne]; omega
                  have HN : Hid (okB ss ps = false) := okB_no (fun h => h64 (h.2.2.2.2 _ (List.getElem_mem hlt2)).2.2)
                  clear h64 hin
                  go_wp2
                  go_quiet ((go_at_call 47; exact Calls.quiet_of_same (in57 _ _ _ true HIN.out _)))
                  go_wp2
                  go_ret
                  exact ⟨ret_bool HN.out.symm, below_drewN HBW.out _⟩
              · have HIN : Hid (decide ((0 : Int) ≤ ps[k2].1 ∧ ps[k2].1 ≤ (ss.length : Int) - 1) = false) := by show _ = _; simp; omega
                have HN : Hid (okB ss ps = false) := okB_no (fun h => hin ⟨(h.2.2.2.2 _ (List.getElem_mem hlt2)).1, (h.2.2.2.2 _ (List.getElem_mem hlt2)).2.1⟩)
                clear hin
                go_wp2
                go_quiet ((go_at_call 47; exact Calls.quiet_of_same (in57 _ _ _ false HIN.out _)))
                go_wp2
                go_ret
                exact ⟨ret_bool HN.out.symm, below_drewN HBW.out _⟩
            · have hlt2' : ¬ (k2 : Int) < (ps.length : Int) := by omega
              have HY : Hid (okB ss ps = true) := okB_iff.2 ⟨h12.1, h12.2, h3, HA2.out, fun p hp => by
                obtain ⟨j, hj, rfl⟩ := List.getElem_of_mem hp
                exact HQ.out j hj (by omega)⟩
              go_wp2
              go_ret
              exact ⟨ret_bool HY.out.symm, HBW.out⟩
    · have e3 : decide ((60 : Int) < (ps.length : Int)) = true := by simp; omega
      have HN : Hid (okB ss ps = false) := okB_no (fun h => h3 h.2.2.1)
      go_enter Try.func42, Try.ntmps42
      go_wp2_with (go_at_call 47; refine (in57 _ _ _ true HI.out _).mono ?_; rintro e w2 ⟨rfl, rfl⟩)
      go_ret
      exact ⟨ret_bool HN.out.symm, (belowRefl w).alloc (Nat.le_refl _) _⟩
  · have HI : Hid (decide ((1 : Int) ≤ (ss.length : Int) ∧ (ss.length : Int) ≤ 100) = false) := by show _ = _; simp; omega
    have HN : Hid (okB ss ps = false) := okB_no (fun h => h12 ⟨h.1, h.2.1⟩)
    go_enter Try.func42, Try.ntmps42
    go_wp2_with (go_at_call 47; refine (in57 _ _ _ false HI.out _).mono ?_; rintro e w2 ⟨rfl, rfl⟩)
    go_ret
    exact ⟨ret_bool HN.out.symm, (belowRefl w).alloc (Nat.le_refl _) _⟩
end Go.Proofs.Ytekjpoenbcnhdaa

namespace Go.Proofs
open Go.Shelf
def Try.lays169_ren : Go.Shelf.Ren := ⟨fun | 169 => 88 | n => n, fun | 70 => 97 | 9 => 9 | 0 => 0 | 72 => 99 | 37 => 22 | 127 => 105 | 3 => 3 | 5 => 5 | n => n, fun | n => n⟩
theorem Try.lays169 : Go.Proofs.Lays.n169 Try.prog Try.lays169_ren := {
  mixed := by kernel_rfl
  f169 := Try.func88.trans (congrArg some (by kernel_rfl))
  t0 := Try.underlying0
  a0 := Try.isAgg0
  z0 := Try.sizeOf0
  v0 := Try.zeroValue0
  t3 := Try.underlying3
  a3 := Try.isAgg3
  z3 := Try.sizeOf3
  v3 := Try.zeroValue3
  t9 := Try.underlying9
  a9 := Try.isAgg9
  z9 := Try.sizeOf9
  v9 := Try.zeroValue9
  t37 := Try.underlying22
  a37 := Try.isAgg22
  z37 := Try.sizeOf22
  v37 := Try.zeroValue22
  t70 := Try.underlying97
  a70 := Try.isAgg97
  z70 := Try.sizeOf97
  v70 := Try.zeroValue97
  t72 := Try.underlying99
  a72 := Try.isAgg99
  z72 := Try.sizeOf99
  v72 := Try.zeroValue99
  t127 := Try.underlying105
  a127 := Try.isAgg105
  z127 := Try.sizeOf105
  v127 := Try.zeroValue105 }
theorem Try.Builder_Extra_169 : Builder.Extra Try.prog Try.lays169_ren := {
  sizeBuilder := by kernel_rfl
  liesBuilder := by kernel_rfl
  t5 := Try.underlying5
  a5 := Try.isAgg5
  z5 := Try.sizeOf5
  v5 := Try.zeroValue5
  infoByte := by kernel_rfl
  cellsByte := by kernel_rfl
  sizeByte := by kernel_rfl
  neB5 := by decide }
open Go.RowKit in
open Go.RowKit in
open Go.RowKit in
theorem Try.Builder_String_any (B b : Nat) (l : List UInt8) (w : World) (h : Lib.IsBuilder 99 5 B b (Lib.byteCells l) w) (hBw : B ≤ w.heap.size) :
    Calls Try.prog 88 #[.pointer (some ⟨b, 0, none⟩)] w fun e w' => e = .returned (.string ⟨l.toArray⟩) ∧ Below B w w' := Any.Builder_String_any Try.lays169 Try.Builder_Extra_169 B b l w h hBw
open Go.RowKit in
open Go.RowKit in
open Go.RowKit in
open Go.RowKit in
open Go.RowKit in
open Go.RowKit in
def Try.laysM316_ren : Go.Shelf.Ren := ⟨fun | 316 => 90 | n => n, fun | 9 => 9 | 3 => 3 | 4 => 4 | 37 => 22 | 0 => 0 | 127 => 105 | 5 => 5 | n => n, fun | n => n⟩
theorem Try.laysM316 : Go.Proofs.LaysM.n316 Try.prog Try.laysM316_ren := {
  mixed := by kernel_rfl
  f316 := Try.func90.trans (congrArg some (by kernel_rfl))
  t0 := Try.underlying0
  a0 := Try.isAgg0
  z0 := Try.sizeOf0
  v0 := Try.zeroValue0
  t3 := Try.underlying3
  a3 := Try.isAgg3
  z3 := Try.sizeOf3
  v3 := Try.zeroValue3
  t4 := Try.underlying4
  a4 := Try.isAgg4
  z4 := Try.sizeOf4
  v4 := Try.zeroValue4
  t9 := Try.underlying9
  a9 := Try.isAgg9
  z9 := Try.sizeOf9
  v9 := Try.zeroValue9
  t37 := Try.underlying22
  a37 := Try.isAgg22
  z37 := Try.sizeOf22
  v37 := Try.zeroValue22
  t127 := Try.underlying105
  a127 := Try.isAgg105
  z127 := Try.sizeOf105
  v127 := Try.zeroValue105
  t5 := Try.underlying5
  a5 := Try.isAgg5
  z5 := Try.sizeOf5
  v5 := Try.zeroValue5
  i0 := by kernel_rfl
  i3 := by kernel_rfl
  i4 := by kernel_rfl
  i5 := by kernel_rfl
  i9 := by kernel_rfl
  i37 := by kernel_rfl
  i127 := by kernel_rfl }
open Go.RowKit in
theorem Try.stringslite_Clone (s : ByteArray) (w : World) (hlim : s.size ≤ 281474976710656) :
    Calls Try.prog 90 #[.string s] w fun e w' => e = .returned (.string s) ∧ Below w.heap.size w w' := Any.stringslite_Clone Try.laysM316 s w hlim
end Go.Proofs

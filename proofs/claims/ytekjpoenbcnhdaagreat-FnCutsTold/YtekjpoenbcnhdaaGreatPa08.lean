/- What LogOk returns, on both sides. -/
import Derived.Test.YtekjpoenbcnhdaaGreatPa05
import Derived.Test.YtekjpoenbcnhdaaGreatPa07
namespace Go.Proofs.YtekjpoenbcnhdaaGreat
open Go.RowKit
open DM
attribute [local go_sem ↓] Go.wp_at_zero Go.wp_at_succ

def logB (ss : List ByteArray) (ps : List Wr) : Bool := okB ss ps && (decide (ss.length = 97) && (decide (ps.length = 0) && (oB (raO ss ps 0) && oB (raO ss ps 1))))
theorem logB_1 {ss : List ByteArray} {ps : List Wr} (h : okB ss ps = false) : logB ss ps = false := by simp [logB, h]
theorem logB_2 {ss : List ByteArray} {ps : List Wr} (h : ss.length ≠ 97) : logB ss ps = false := by simp [logB, h]
theorem logB_3 {ss : List ByteArray} {ps : List Wr} (h : ps.length ≠ 0) : logB ss ps = false := by
 have : decide (ps.length = 0) = false := by simpa using h
 simp only [logB, this, Bool.false_and, Bool.and_false]
theorem logB_4 {ss : List ByteArray} {ps : List Wr} (h : okB ss ps = true) (h2 : ss.length = 97) (h3 : ps.length = 0) : logB ss ps = (oB (raO ss ps 0) && oB (raO ss ps 1)) := by
 have e2 : decide (ss.length = 97) = true := by simpa using h2
 have e3 : decide (ps.length = 0) = true := by simpa using h3
 simp only [logB, h, e2, e3, Bool.true_and]
theorem rdR_64 {ss : List ByteArray} {ps : List Wr} (h : OkD ss ps) (a : Int) : (rdR ss ps a).size ≤ 64 := by
 unfold rdR
 split
 ·unfold rd
  cases hb : back ps a ps.length with
  | some t =>
   obtain ⟨p, hm, rfl⟩ := back_mem _ hb
   exact Nat.le_of_eq (h.2.2.2.2 p hm).2.2
  | none =>
   simp only [Option.getD_none]
   rw [List.getD_eq_getElem?_getD]
   cases h2 : ss[a.toNat]? with
   | some s => exact Nat.le_of_eq (h.2.2.2.1 s (List.mem_of_getElem? h2))
   | none => exact Nat.zero_le 64
 ·exact Nat.zero_le 64
theorem stx_64 {ss : List ByteArray} {ps : List Wr} (h : OkD ss ps) (f : Int) : ∀ k, (stx ss ps f k).length ≤ k * 64
 | 0 => by simp [stx]
 | k + 1 => by
  have h1 := stx_64 h f k
  have h2 := rdR_64 h (f + k)
  have e : (rdR ss ps (f + k)).data.toList.length = (rdR ss ps (f + k)).size := by simp
  simp only [stx, List.length_append]
  omega
theorem arT_size {ss : List ByteArray} {ps : List Wr} (h : OkD ss ps) (a : Int) : (arT ss ps a).size ≤ 3008 := by
 unfold arT stT
 split
 ·show (stx ss ps (af a + 1) 47).toArray.size ≤ 3008
  have := stx_64 h (af a + 1) 47
  simp only [List.size_toArray]
  omega
 ·exact Nat.zero_le 3008
theorem and_ff {a b : Bool} (h : a = false) : (a && b) = false := by simp [h]

set_option maxRecDepth 100000 in
set_option maxHeartbeats 4000000 in
theorem ilok24 (ss : List ByteArray) (ps : List Wr) (a1 a2 : Option Addr) (c1 c2 : Nat) (hn : ss.length ≤ 1048576) (hm : ps.length ≤ 1048576) (hs : ∀ s ∈ ss, s.size ≤ 1048576) (hp : ∀ p ∈ ps, p.2.size ≤ 1048576) (w : World) (hsr : SRow w a1 ss) (hpr : PRow w a2 ps) :
  Calls Tryz.prog 52 #[.agg #[.slice a1 ss.length c1, .slice a2 ps.length c2]] w fun e w' => e = .returned (.bool (logB ss ps)) ∧ Below w.heap.size w w' := by
 have HB0 : Hid (Below w.heap.size w (w.alloc (.cells #[.slice a1 ss.length c1, .slice a2 ps.length c2] 27))) := (belowRefl w).alloc (Nat.le_refl _) _
 cases ho : okB ss ps with
 | false =>
  have HOK : Hid (∀ w' : World, Below w.heap.size w w' → Calls Tryz.prog 72 #[.agg #[.slice a1 ss.length c1, .slice a2 ps.length c2]] w' fun e w'' => e = .returned (.bool false) ∧ Below w'.heap.size w' w'') := fun w' h => by rw [← ho]; exact iok22 ss ps a1 a2 c1 c2 (by omega) (by omega) w' (hsr.below h) (hpr.below h)
  have HN : Hid (logB ss ps = false) := logB_1 ho
  clear ho hsr hpr hs hp
  generalize logB ss ps = L at *
  go_enter Tryz.func52, Tryz.ntmps52
  go_wp2_with (go_at_call 72; refine (HOK.out _ HB0.out).mono ?_; rintro e w2 ⟨rfl, hb2⟩)
  go_ret
  exact ⟨ret_bool HN.out.symm, HB0.out.trans (hb2.mono HB0.out.size)⟩
 | true =>
  have HOK : Hid (∀ w' : World, Below w.heap.size w w' → Calls Tryz.prog 72 #[.agg #[.slice a1 ss.length c1, .slice a2 ps.length c2]] w' fun e w'' => e = .returned (.bool true) ∧ Below w'.heap.size w' w'') := fun w' h => by rw [← ho]; exact iok22 ss ps a1 a2 c1 c2 (by omega) (by omega) w' (hsr.below h) (hpr.below h)
  by_cases h97 : ss.length = 97
  ·have e97 : ((ss.length : Int) != 97) = false := by rw [bne_eq_false_iff_eq]; omega
   by_cases h0 : ps.length = 0
   ·have HN : Hid (logB ss ps = (oB (raO ss ps 0) && oB (raO ss ps 1))) := logB_4 ho h97 h0
    have HRA : Hid (∀ (a : Int) (w' : World), Below w.heap.size w w' → Calls Tryz.prog 67 #[.agg #[.slice a1 ss.length c1, .slice a2 ps.length c2], .int .i64 a] w' fun e w'' => ∃ v, e = .returned (.tuple #[v, .int .i64 (oE (raO ss ps a) : Nat), .bool (oB (raO ss ps a))]) ∧ SOwn w'' w'.heap.size v (oL (raO ss ps a)) ∧ Below w'.heap.size w' w'') := fun a w' h => ira30 ss ps a a1 a2 c1 c2 hn hm hs hp (Nat.le_trans (arT_size (okB_iff.1 ho) a) (by omega)) w' (hsr.below h) (hpr.below h)
    clear ho hsr hpr hs hp h97
    generalize logB ss ps = L at *
    generalize ps.length = m at *
    subst h0
    go_enter Tryz.func52, Tryz.ntmps52
    go_wp2_with (go_at_call 72; refine (HOK.out _ HB0.out).mono ?_; rintro e w2 ⟨rfl, hb2⟩; obtain ⟨hc2, hf2⟩ := bcell hb2)
    have HX2 : Hid (Below (w.heap.size + 1) (w.alloc (.cells #[.slice a1 ss.length c1, .slice a2 0 c2] 27)) w2) := by show Below _ _ _; simpa using hb2
    clear hc2 hf2 hb2
    go_loopw [22] (fun t wr => ∃ (k : Nat), k ≤ 2 ∧ t = .int .i64 k ∧ Hid (∀ j : Nat, j < k → oB (raO ss ps (j : Int)) = true) ∧ Hid (Below (w.heap.size + 1) (w.alloc (.cells #[.slice a1 ss.length c1, .slice a2 0 c2] 27)) wr)) (fun t _ => 2 - (intOf t).toNat)
    case atStart => exact ⟨0, Nat.zero_le _, rfl, (fun j hj => by omega), HX2⟩
    case round =>
     clear HX2
     obtain ⟨k, hk, rfl, HA, HX⟩ := hrel
     have HB : Hid (Below w.heap.size w wr) := HB0.out.trans (HX.out.mono (by omega))
     obtain ⟨g0, g1, z0⟩ := boxed HX.out
     by_cases hlt : k < 2
     ·have hlt' : (k : Int) < 2 := by omega
      go_wp2_with fail
      refine (HRA.out (k : Int) _ HB.out).mono ?_
      rintro e w3 ⟨v, rfl, _, hb3⟩
      have HX3 : Hid (Below (w.heap.size + 1) (w.alloc (.cells #[.slice a1 ss.length c1, .slice a2 0 c2] 27)) w3) := HX.out.trans (hb3.mono (by omega))
      have HB3 : Hid (Below w.heap.size w w3) := HB.out.trans (hb3.mono HB.out.size)
      clear hb3 g0 g1 z0
      cases hr : oB (raO ss ps (k : Int)) with
      | true =>
       have HA2 : Hid (∀ j : Nat, j < k + 1 → oB (raO ss ps (j : Int)) = true) := fun j hj => by
        by_cases e : j = k
        ·subst e; exact hr
        ·exact HA.out j (by omega)
       clear hr
       go_wp2
       go_roundw
       case rel => exact ⟨k + 1, by omega, by go_num, HA2, HX3⟩
       case measure => simp [intOf]; omega
      | false =>
       have HF : Hid (L = false) := by
        show L = false
        rw [HN.out]
        rcases (show k = 0 ∨ k = 1 by omega) with rfl | rfl
        ·exact and_ff hr
        ·rw [Bool.and_comm]; exact and_ff hr
       clear hr
       go_wp2
       go_ret
       exact ⟨ret_bool HF.out.symm, HB3.out⟩
     ·have hlt' : ¬ (k : Int) < 2 := by omega
      have HF : Hid (L = true) := by
       show L = true
       have h0 : oB (raO ss ps 0) = true := HA.out 0 (by omega)
       have h1 : oB (raO ss ps 1) = true := HA.out 1 (by omega)
       rw [HN.out]
       exact Bool.and_eq_true_iff.2 ⟨h0, h1⟩
      go_wp2
      go_ret
      exact ⟨ret_bool HF.out.symm, HB.out⟩
   ·have HN : Hid (logB ss ps = false) := logB_3 h0
    clear ho hsr hpr hs hp h97
    generalize logB ss ps = L at *
    generalize ps.length = m at *
    have e0 : decide ((0 : Int) < (m : Int)) = true := by simp; omega
    have e0' : decide (0 < m) = true := by simp; omega
    go_enter Tryz.func52, Tryz.ntmps52
    go_wp2_with (go_at_call 72; refine (HOK.out _ HB0.out).mono ?_; rintro e w2 ⟨rfl, hb2⟩; obtain ⟨hc2, hf2⟩ := bcell hb2)
    go_ret
    exact ⟨ret_bool HN.out.symm, HB0.out.trans (hb2.mono HB0.out.size)⟩
  ·have e97 : ((ss.length : Int) != 97) = true := by rw [bne_iff_ne]; omega
   have HN : Hid (logB ss ps = false) := logB_2 h97
   clear ho hsr hpr hs hp h97
   generalize logB ss ps = L at *
   go_enter Tryz.func52, Tryz.ntmps52
   go_wp2_with (go_at_call 72; refine (HOK.out _ HB0.out).mono ?_; rintro e w2 ⟨rfl, hb2⟩; obtain ⟨hc2, hf2⟩ := bcell hb2)
   go_ret
   exact ⟨ret_bool HN.out.symm, HB0.out.trans (hb2.mono HB0.out.size)⟩

set_option maxRecDepth 100000 in
set_option maxHeartbeats 4000000 in
theorem slok22 (ss : List ByteArray) (ps : List Wr) (a1 a2 : Option Addr) (c1 c2 : Nat) (hn : ss.length ≤ 1048576) (hm : ps.length ≤ 1048576) (hs : ∀ s ∈ ss, s.size ≤ 1048576) (hp : ∀ p ∈ ps, p.2.size ≤ 1048576) (w : World) (hsr : SRow w a1 ss) (hpr : PRow w a2 ps) :
  Calls Tryz.prog 53 #[.agg #[.slice a1 ss.length c1, .slice a2 ps.length c2]] w fun e w' => e = .returned (.bool (logB ss ps)) ∧ Below w.heap.size w w' := by
 have HB0 : Hid (Below w.heap.size w (w.alloc (.cells #[.slice a1 ss.length c1, .slice a2 ps.length c2] 27))) := (belowRefl w).alloc (Nat.le_refl _) _
 have HBX : Hid (Bx (w.alloc (.cells #[.slice a1 ss.length c1, .slice a2 ps.length c2] 27)) w.heap.size (.slice a1 ss.length c1) (.slice a2 ps.length c2)) := Bx.new w _ _ 27
 have HOK : Hid (∀ w' : World, Below w.heap.size w w' → Calls Tryz.prog 82 #[.agg #[.slice a1 ss.length c1, .slice a2 ps.length c2]] w' fun e w'' => e = .returned (.bool (okB ss ps)) ∧ Below w'.heap.size w' w'') := fun w' h => sok37 ss ps a1 a2 c1 c2 (by omega) (by omega) w' (hsr.below h) (hpr.below h)
 cases ho : okB ss ps with
 | false =>
  have HN : Hid (logB ss ps = false) := logB_1 ho
  rw [ho] at HOK
  clear ho hsr hpr hs hp
  generalize logB ss ps = L at *
  go_enter Tryz.func53, Tryz.ntmps53
  go_wp2
  first | go_region_with (first | (go_at_call 82; refine (HOK.out _ HB0.out.drew).mono ?_; rintro e w2 ⟨rfl, hb2⟩; have HU2 : Hid (Below (w.alloc (.cells #[.slice a1 ss.length c1, .slice a2 ps.length c2] 27)).heap.size (w.alloc (.cells #[.slice a1 ss.length c1, .slice a2 ps.length c2] 27)) w2) := undrew hb2; have g0 := (HBX.out.keep HU2.out HBX.out.lt).c0; have g1 := (HBX.out.keep HU2.out HBX.out.lt).c1) | (go_at_call 85; refine (secs52 _).mono ?_; rintro e w2 ⟨rfl, rfl⟩)) | fail
  all_goals
   go_wp2
   go_ret
   exact ⟨ret_bool HN.out.symm, HB0.out.trans (HU2.out.mono HB0.out.size)⟩
 | true =>
  by_cases h97 : ss.length = 97
  ·have e97 : ((ss.length : Int) != 97) = false := by rw [bne_eq_false_iff_eq]; omega
   by_cases h0 : ps.length = 0
   ·have HN : Hid (logB ss ps = (oB (raO ss ps 0) && oB (raO ss ps 1))) := logB_4 ho h97 h0
    have HRA : Hid (∀ (a : Int) (w' : World), Below w.heap.size w w' → Calls Tryz.prog 80 #[.agg #[.slice a1 ss.length c1, .slice a2 ps.length c2], .int .i64 a] w' fun e w'' => ∃ v, e = .returned (.tuple #[v, .int .i64 (oE (raO ss ps a) : Nat), .bool (oB (raO ss ps a))]) ∧ SOwn w'' w'.heap.size v (oL (raO ss ps a)) ∧ Below w'.heap.size w' w'') := fun a w' h => sra29 ss ps a a1 a2 c1 c2 hn hm hs hp (Nat.le_trans (arT_size (okB_iff.1 ho) a) (by omega)) w' (hsr.below h) (hpr.below h)
    rw [ho] at HOK
    clear ho hsr hpr hs hp h97
    generalize logB ss ps = L at *
    generalize ps.length = m at *
    subst h0
    go_enter Tryz.func53, Tryz.ntmps53
    go_wp2
    go_region_held3 (fun w' => w'.cell? ⟨w.heap.size, 0, none⟩ = some (.slice a1 ss.length c1) ∧ w'.cell? ⟨w.heap.size, 1, none⟩ = some (.slice a2 0 c2)) (first | go_keep | exact t2.out) ((first | (go_at_call 82; refine (HOK.out _ HB0.out.drew).mono ?_; rintro e w2 ⟨rfl, hb2⟩; have HU2 : Hid (Below (w.alloc (.cells #[.slice a1 ss.length c1, .slice a2 0 c2] 27)).heap.size (w.alloc (.cells #[.slice a1 ss.length c1, .slice a2 0 c2] 27)) w2) := undrew hb2; have t2 : Hid (w2.cell? ⟨w.heap.size, 0, none⟩ = some (.slice a1 ss.length c1) ∧ w2.cell? ⟨w.heap.size, 1, none⟩ = some (.slice a2 0 c2)) := ⟨(HBX.out.keep HU2.out HBX.out.lt).c0, (HBX.out.keep HU2.out HBX.out.lt).c1⟩) | (go_at_call 85; refine (secs52 _).mono ?_; rintro e w2 ⟨rfl, rfl⟩)))
    all_goals
     have HX2 : Hid (Below (w.heap.size + 1) (w.alloc (.cells #[.slice a1 ss.length c1, .slice a2 0 c2] 27)) w2) := by
      have h := HU2.out
      rw [World.size_alloc] at h
      exact h
     have HB2 : Hid (Below w.heap.size w w2) := HB0.out.trans (HU2.out.mono HB0.out.size)
     clear hb2 HU2 t2
     obtain ⟨g0, g1, z0⟩ := boxed HX2.out
     go_wp2_with fail
     refine (HRA.out 0 _ HB2.out).mono ?_
     rintro e w3 ⟨v3, rfl, _, hb3⟩
     have HX3 : Hid (Below (w.heap.size + 1) (w.alloc (.cells #[.slice a1 ss.length c1, .slice a2 0 c2] 27)) w3) := HX2.out.trans (hb3.mono (by omega))
     have HB3 : Hid (Below w.heap.size w w3) := HB2.out.trans (hb3.mono HB2.out.size)
     clear hb3 g0 g1 z0
     obtain ⟨g0, g1, z0⟩ := boxed HX3.out
     go_wp2_with fail
     refine (HRA.out 1 _ HB3.out).mono ?_
     rintro e w4 ⟨v4, rfl, _, hb4⟩
     have HB4 : Hid (Below w.heap.size w w4) := HB3.out.trans (hb4.mono HB3.out.size)
     clear hb4 g0 g1 z0
     generalize oB (raO ss ps 0) = p at *
     generalize oB (raO ss ps 1) = q at *
     cases p <;> cases q <;> (go_wp2; go_ret; exact ⟨ret_bool HN.out.symm, HB4.out⟩)
   ·have HN : Hid (logB ss ps = false) := logB_3 h0
    rw [ho] at HOK
    clear ho hsr hpr hs hp h97
    generalize logB ss ps = L at *
    generalize ps.length = m at *
    have e0 : decide ((0 : Int) < (m : Int)) = true := by simp; omega
    have e0' : decide (0 < m) = true := by simp; omega
    go_enter Tryz.func53, Tryz.ntmps53
    go_wp2
    first | go_region_with (first | (go_at_call 82; refine (HOK.out _ HB0.out.drew).mono ?_; rintro e w2 ⟨rfl, hb2⟩; have HU2 : Hid (Below (w.alloc (.cells #[.slice a1 ss.length c1, .slice a2 m c2] 27)).heap.size (w.alloc (.cells #[.slice a1 ss.length c1, .slice a2 m c2] 27)) w2) := undrew hb2; have g0 := (HBX.out.keep HU2.out HBX.out.lt).c0; have g1 := (HBX.out.keep HU2.out HBX.out.lt).c1) | (go_at_call 85; refine (secs52 _).mono ?_; rintro e w2 ⟨rfl, rfl⟩)) | fail
    all_goals
     go_wp2
     go_ret
     exact ⟨ret_bool HN.out.symm, HB0.out.trans (HU2.out.mono HB0.out.size)⟩
  ·have e97 : ((ss.length : Int) != 97) = true := by rw [bne_iff_ne]; omega
   have HN : Hid (logB ss ps = false) := logB_2 h97
   rw [ho] at HOK
   clear ho hsr hpr hs hp h97
   generalize logB ss ps = L at *
   go_enter Tryz.func53, Tryz.ntmps53
   go_wp2
   first | go_region_with (first | (go_at_call 82; refine (HOK.out _ HB0.out.drew).mono ?_; rintro e w2 ⟨rfl, hb2⟩; have HU2 : Hid (Below (w.alloc (.cells #[.slice a1 ss.length c1, .slice a2 ps.length c2] 27)).heap.size (w.alloc (.cells #[.slice a1 ss.length c1, .slice a2 ps.length c2] 27)) w2) := undrew hb2; have g0 := (HBX.out.keep HU2.out HBX.out.lt).c0; have g1 := (HBX.out.keep HU2.out HBX.out.lt).c1) | (go_at_call 85; refine (secs52 _).mono ?_; rintro e w2 ⟨rfl, rfl⟩)) | fail
   all_goals
    go_wp2
    go_ret
    exact ⟨ret_bool HN.out.symm, HB0.out.trans (HU2.out.mono HB0.out.size)⟩
end Go.Proofs.YtekjpoenbcnhdaaGreat

namespace Go.Proofs.YtekjpoenbcnhdaaGreat
open Go.RowKit
open DM
attribute [local go_sem ↓] Go.wp_at_zero Go.wp_at_succ

theorem txs_bys (ss : List ByteArray) : txs (bys ss) = ss := by
 unfold txs bys
 rw [List.map_map]
 conv => rhs; rw [← List.map_id ss]
 apply List.map_congr_left
 intro s _
 rfl
theorem flush_64 : ∀ (ss : List ByteArray) (ps : List Wr), (∀ s ∈ ss, s.size = 64) → (∀ p ∈ ps, p.2.size = 64) → ∀ s ∈ flush ss ps, s.size = 64
 | _, [], h, _ => h
 | ss, p :: ps, h, hp => flush_64 (ss.set p.1.toNat p.2) ps (fun s hs => by
   rcases List.mem_or_eq_of_mem_set hs with h1 | h1
   ·exact h s h1
   ·rw [h1]; exact hp p (List.mem_cons_self ..)) (fun q hq => hp q (List.mem_cons_of_mem _ hq))
theorem wrt_flush : ∀ (ss : List ByteArray) (ps : List Wr), (∀ s ∈ ss, s.size = 64) → (∀ p ∈ ps, p.2.size = 64) → wrt (bys ss) ps = bys (flush ss ps)
 | _, [], _, _ => rfl
 | ss, p :: ps, h, hp => by
  have hp0 := hp p (List.mem_cons_self ..)
  have e : putL ((bys ss).getD p.1.toNat []) p.2 = p.2.data.toList := by
   unfold putL
   rw [List.drop_eq_nil_of_le, List.append_nil]
   rw [hp0, List.getD_eq_getElem?_getD]
   cases hq : (bys ss)[p.1.toNat]? with
   | none => simp
   | some r =>
    have := bys_64 h r (List.mem_of_getElem? hq)
    simp [this]
  rw [wrt, flush, e]
  have e2 : (bys ss).set p.1.toNat p.2.data.toList = bys (ss.set p.1.toNat p.2) := by simp [bys, List.map_set]
  rw [e2]
  exact wrt_flush _ ps (fun s hs => by
   rcases List.mem_or_eq_of_mem_set hs with h1 | h1
   ·exact h s h1
   ·rw [h1]; exact hp0) (fun q hq => hp q (List.mem_cons_of_mem _ hq))

def flS (ss : List ByteArray) (ps : List Wr) : List ByteArray := if okB ss ps = true then flush ss ps else ss
def flP (ss : List ByteArray) (ps : List Wr) : List Wr := if okB ss ps = true then [] else ps
theorem flS_yes {ss : List ByteArray} {ps : List Wr} (h : okB ss ps = true) : flS ss ps = flush ss ps := if_pos h
theorem flS_no {ss : List ByteArray} {ps : List Wr} (h : okB ss ps = false) : flS ss ps = ss := if_neg (by simp [h])
theorem flP_yes {ss : List ByteArray} {ps : List Wr} (h : okB ss ps = true) : flP ss ps = [] := if_pos h
theorem flP_no {ss : List ByteArray} {ps : List Wr} (h : okB ss ps = false) : flP ss ps = ps := if_neg (by simp [h])

set_option maxRecDepth 100000 in
set_option maxHeartbeats 4000000 in
theorem iflush19 (ss : List ByteArray) (ps : List Wr) (a1 a2 : Option Addr) (c1 c2 : Nat) (hn : ss.length ≤ 90000000) (hm : ps.length ≤ 80000000) (hls : ∀ s ∈ ss, s.size ≤ 1000000000) (hlp : ∀ p ∈ ps, p.2.size ≤ 1000000000) (w : World) (hs : SRow w a1 ss) (hp : PRow w a2 ps) :
  Calls Tryz.prog 33 #[.agg #[.slice a1 ss.length c1, .slice a2 ps.length c2]] w fun e w' => ∃ b1 d1 b2 d2, e = .returned (.agg #[.slice b1 (flS ss ps).length d1, .slice b2 (flP ss ps).length d2]) ∧ DOwn w' w.heap.size b1 d1 b2 d2 (flS ss ps) (flP ss ps) ∧ Below w.heap.size w w' := by
 have HS : Hid (SRow w a1 ss) := hs
 have HP : Hid (PRow w a2 ps) := hp
 have HLS : Hid (∀ s ∈ ss, s.size ≤ 1000000000) := hls
 have HLP : Hid (∀ p ∈ ps, p.2.size ≤ 1000000000) := hlp
 clear hs hp hls hlp
 have b0 : Hid (Below w.heap.size w ((w.alloc (.cells #[.slice a1 ss.length c1, .slice a2 ps.length c2] 27)).alloc (.cells #[.slice none 0 0, .slice none 0 0] 27))) := ((belowRefl w).alloc (Nat.le_refl _) _).alloc (by simp) _
 have X0 : Hid (Bx ((w.alloc (.cells #[.slice a1 ss.length c1, .slice a2 ps.length c2] 27)).alloc (.cells #[.slice none 0 0, .slice none 0 0] 27)) w.heap.size (.slice a1 ss.length c1) (.slice a2 ps.length c2)) := (Bx.new w _ _ _).alloc _
 have X1 : Hid (Bx ((w.alloc (.cells #[.slice a1 ss.length c1, .slice a2 ps.length c2] 27)).alloc (.cells #[.slice none 0 0, .slice none 0 0] 27)) (w.heap.size + 1) (.slice none 0 0) (.slice none 0 0)) := by
  have h := Bx.new (w.alloc (.cells #[.slice a1 ss.length c1, .slice a2 ps.length c2] 27)) (.slice none 0 0) (.slice none 0 0) 27
  show Bx _ _ _ _
  simpa using h
 go_enter Tryz.func33, Tryz.ntmps33
 go_wp2_with fail
 refine (iok22 ss ps a1 a2 c1 c2 (by omega) (by omega) _ (HS.out.below b0.out) (HP.out.below b0.out)).mono ?_
 rintro e w1 ⟨rfl, hb1⟩
 have Y0 : Hid (Bx w1 w.heap.size (.slice a1 ss.length c1) (.slice a2 ps.length c2)) := X0.out.keep hb1 X0.out.lt
 have Y1 : Hid (Bx w1 (w.heap.size + 1) (.slice none 0 0) (.slice none 0 0)) := X1.out.keep hb1 X1.out.lt
 have HB1 : Hid (Below w.heap.size w w1) := b0.out.trans (hb1.mono b0.out.size)
 have hz1 : w.heap.size + 1 < w1.heap.size := Y1.out.lt
 clear hb1 X0 X1 b0
 have g0 := Y0.out.c0
 have g1 := Y0.out.c1
 by_cases hok : okB ss ps = true
 ·have HO : Hid (OkD ss ps) := okB_iff.1 hok
  have HE : Hid (txs (wrt (bys ss) ps) = flS ss ps) := by
   show _ = _
   rw [flS_yes hok, wrt_flush ss ps HO.out.2.2.2.1 (fun p hp => (HO.out.2.2.2.2 p hp).2.2), txs_bys]
  have HE2 : Hid (flP ss ps = []) := flP_yes hok
  have HBL : Hid ((bys ss).length = ss.length) := bys_len ss
  have hs100 : ss.length ≤ 1000 := by have := HO.out.2.1; omega
  have hp60 : ps.length ≤ 1000 := by have := HO.out.2.2.1; omega
  have HWO : Hid (WOk ps (bys ss).length) := fun p hp => by
   have := HO.out.2.2.2.2 p hp
   rw [bys_len]
   exact ⟨this.1, this.2.1, by omega⟩
  go_wp2
  go_region_held3 (fun w' => w'.cell? ⟨w.heap.size, 0, none⟩ = some (.slice a1 ss.length c1) ∧ w'.cell? ⟨w.heap.size, 1, none⟩ = some (.slice a2 ps.length c2)) (first | go_keep | exact t3.out | exact t2.out | (exact ⟨(V0.out.setO (by show w.heap.size + 1 ≠ w.heap.size; omega) _).setO (by show w.heap.size + 1 ≠ w.heap.size; omega) _ |>.c0, (V0.out.setO (by show w.heap.size + 1 ≠ w.heap.size; omega) _).setO (by show w.heap.size + 1 ≠ w.heap.size; omega) _ |>.c1⟩))
   ((first
    | (go_at_call 75; refine (secs56 ss (.slice a2 ps.length c2) a1 c1 hs100 HO.out.2.2.2.1 _ (HS.out.below HB1.out.drew)).mono ?_; rintro e w2 ⟨y1, y2, rfl, hd2, hb2⟩; have U0 : Hid (Bx w2 w.heap.size (.slice a1 ss.length c1) (.slice a2 ps.length c2)) := Y0.out.drew.keep hb2 Y0.out.lt; have t2 : Hid (w2.cell? ⟨w.heap.size, 0, none⟩ = some (.slice a1 ss.length c1) ∧ w2.cell? ⟨w.heap.size, 1, none⟩ = some (.slice a2 ps.length c2)) := ⟨U0.out.c0, U0.out.c1⟩)
    | (go_at_call 74; refine (wrt55 (bys ss) ps y1 a2 y2 c2 (by rw [HBL.out]; exact hs100) hp60 HWO.out w1.drew w2 hb2 hd2 (HP.out.below HB1.out.drew)).mono ?_; rintro e w3 ⟨z1, z2, rfl, hs3, hb3⟩; have V0 : Hid (Bx w3 w.heap.size (.slice a1 ss.length c1) (.slice a2 ps.length c2)) := Y0.out.drew.keep hb3 Y0.out.lt; have V1 : Hid (Bx w3 (w.heap.size + 1) (.slice none 0 0) (.slice none 0 0)) := Y1.out.drew.keep hb3 Y1.out.lt; have t3 : Hid (w3.cell? ⟨w.heap.size, 0, none⟩ = some (.slice a1 ss.length c1) ∧ w3.cell? ⟨w.heap.size, 1, none⟩ = some (.slice a2 ps.length c2)) := ⟨V0.out.c0, V0.out.c1⟩; have v0 := V1.out.c0; have v1 := V1.out.c1; have vf := V1.out.fz)))
  all_goals
   have HS3 : Hid (SOwn w3 w1.heap.size (.slice z1 (flS ss ps).length z2) (flS ss ps)) := by
    have h := hs3
    rw [HE.out] at h
    exact h
   have HLL : Hid ((bys ss).length = (flS ss ps).length) := by show _ = _; rw [← HE.out, txs_len, wrt_len]
   have HB3 : Hid (Below w.heap.size w w3) := HB1.out.drew.trans (hb3.mono HB1.out.size)
   clear hs3 hb3 hb2 hd2 t2 t3
   go_wp2
   refine bodyPost_ret (v := .agg #[.slice z1 (bys ss).length z2, .slice none 0 0]) (by simp [results, Tryz.results33, go_sem, v0, v1]) rfl ⟨z1, z2, none, 0, ?_, ⟨?_, ?_⟩, ?_⟩
   ·rw [HE2.out, HLL.out]; rfl
   ·exact ((HS3.out.set (by show w.heap.size + 1 < w1.heap.size; omega) _).set (by show w.heap.size + 1 < w1.heap.size; omega) _).mono (by omega)
   ·rw [HE2.out]; exact POwn.nil _ _
   ·exact (HB3.out.setCell (by show _ ≤ w.heap.size + 1; omega) _).setCell (by show _ ≤ w.heap.size + 1; omega) _
 ·have hok' : okB ss ps = false := by simpa using hok
  have HE : Hid (flS ss ps = ss) := flS_no hok'
  have HE2 : Hid (flP ss ps = ps) := flP_no hok'
  clear hok
  go_wp2_with fail
  refine (copy53 ss ps a1 a2 c1 c2 hn (by omega) HLS.out HLP.out _ (HS.out.below HB1.out) (HP.out.below HB1.out)).mono ?_
  rintro e w6 ⟨p1, q1, p2, q2, rfl, hd6, hb6⟩
  have HD6 : Hid (DOwn w6 (w.heap.size + 1 + 1) p1 q1 p2 q2 ss ps) := hd6.mono hz1
  have HB6 : Hid (Below w.heap.size w w6) := HB1.out.trans (hb6.mono HB1.out.size)
  have R1 : Hid (Bx w6 (w.heap.size + 1) (.slice none 0 0) (.slice none 0 0)) := Y1.out.keep hb6 Y1.out.lt
  have t0 := R1.out.c0
  have t1 := R1.out.c1
  have tf := R1.out.fz
  clear hd6 hb6 g0 g1
  go_wp2
  refine bodyPost_ret (v := .agg #[.slice p1 ss.length q1, .slice p2 ps.length q2]) (by simp [results, Tryz.results33, go_sem, t0, t1]) rfl ⟨p1, q1, p2, q2, ?_, ⟨?_, ?_⟩, ?_⟩
  ·rw [HE.out, HE2.out]
  ·rw [HE.out]
   exact ((HD6.out.s.set (by show w.heap.size + 1 < _; omega) _).set (by show w.heap.size + 1 < _; omega) _).mono (by omega)
  ·rw [HE2.out]
   exact ((HD6.out.p.set (by show w.heap.size + 1 < _; omega) _).set (by show w.heap.size + 1 < _; omega) _).mono (by omega)
  ·exact (HB6.out.setCell (by show _ ≤ w.heap.size + 1; omega) _).setCell (by show _ ≤ w.heap.size + 1; omega) _
end Go.Proofs.YtekjpoenbcnhdaaGreat

namespace Go.Proofs.YtekjpoenbcnhdaaGreat
open Go.RowKit
open DM
attribute [local go_sem ↓] Go.wp_at_zero Go.wp_at_succ

theorem flush_succ (ss : List ByteArray) (ps : List Wr) (k m : Nat) (hk : k < ps.length) (hm : ps[k].1 = (m : Int)) : flush ss (ps.take (k + 1)) = (flush ss (ps.take k)).set m ps[k].2 := by
 rw [take_succ_p ps k hk, flush_snoc, hm]; rfl
theorem scs_set (ss : List ByteArray) (m : Nat) (t : ByteArray) : scs (ss.set m t) = (scs ss).set m (.string t) := by simp [scs, List.map_set]

set_option maxRecDepth 100000 in
set_option maxHeartbeats 4000000 in
theorem sflush38 (ss : List ByteArray) (ps : List Wr) (a1 a2 : Option Addr) (c1 c2 B0 : Nat) (hn : ss.length ≤ 90000000) (hm : ps.length ≤ 80000000) (w : World) (hd : DOwn w B0 a1 c1 a2 c2 ss ps) :
  Calls Tryz.prog 40 #[.agg #[.slice a1 ss.length c1, .slice a2 ps.length c2]] w fun e w' => ∃ b1 d1 b2 d2, e = .returned (.agg #[.slice b1 (flS ss ps).length d1, .slice b2 (flP ss ps).length d2]) ∧ DOwn w' w.heap.size b1 d1 b2 d2 (flS ss ps) (flP ss ps) ∧ Below w.heap.size w w' := by
 have HD : Hid (DOwn w B0 a1 c1 a2 c2 ss ps) := hd
 clear hd
 have b0 : Hid (Below w.heap.size w ((w.alloc (.cells #[.slice a1 ss.length c1, .slice a2 ps.length c2] 27)).alloc (.cells #[.slice none 0 0, .slice none 0 0] 27))) := ((belowRefl w).alloc (Nat.le_refl _) _).alloc (by simp) _
 have X0 : Hid (Bx ((w.alloc (.cells #[.slice a1 ss.length c1, .slice a2 ps.length c2] 27)).alloc (.cells #[.slice none 0 0, .slice none 0 0] 27)) w.heap.size (.slice a1 ss.length c1) (.slice a2 ps.length c2)) := (Bx.new w _ _ _).alloc _
 have X1 : Hid (Bx ((w.alloc (.cells #[.slice a1 ss.length c1, .slice a2 ps.length c2] 27)).alloc (.cells #[.slice none 0 0, .slice none 0 0] 27)) (w.heap.size + 1) (.slice none 0 0) (.slice none 0 0)) := by
  have h := Bx.new (w.alloc (.cells #[.slice a1 ss.length c1, .slice a2 ps.length c2] 27)) (.slice none 0 0) (.slice none 0 0) 27
  show Bx _ _ _ _
  simpa using h
 go_enter Tryz.func40, Tryz.ntmps40
 go_wp2_with fail
 refine (copy64 ss ps a1 a2 c1 c2 B0 (by omega) (by omega) _ (HD.out.below b0.out)).mono ?_
 rintro e w1 ⟨b1, d1, b2, d2, rfl, hd1, hb1⟩
 have hz1 : w.heap.size + 1 + 1 ≤ w1.heap.size := by have := hb1.size; simp at this; omega
 have HD1 : Hid (DOwn w1 (w.heap.size + 1 + 1) b1 d1 b2 d2 ss ps) := hd1.mono (by simp)
 have HU : Hid (∀ k, (Value.slice b1 ss.length d1).ownBlock = some k → w.heap.size + 1 + 1 ≤ k ∧ k < w1.heap.size) := World.ownsRow.lt HD1.out.s
 have Y0 : Hid (Bx (w1.alloc (.cells #[.slice b1 ss.length d1, .slice b2 ps.length d2] 27)) w.heap.size (.slice a1 ss.length c1) (.slice a2 ps.length c2)) := (X0.out.keep hb1 X0.out.lt).alloc _
 have Y1 : Hid (Bx (w1.alloc (.cells #[.slice b1 ss.length d1, .slice b2 ps.length d2] 27)) (w.heap.size + 1) (.slice none 0 0) (.slice none 0 0)) := (X1.out.keep hb1 X1.out.lt).alloc _
 have HB1 : Hid (Below w.heap.size w (w1.alloc (.cells #[.slice b1 ss.length d1, .slice b2 ps.length d2] 27))) := (b0.out.trans (hb1.mono b0.out.size)).alloc (by omega) _
 have Z1 : Hid (Bx (w1.alloc (.cells #[.slice b1 ss.length d1, .slice b2 ps.length d2] 27)) w1.heap.size (.slice b1 ss.length d1) (.slice b2 ps.length d2)) := Bx.new _ _ _ _
 have HD2 : Hid (DOwn (w1.alloc (.cells #[.slice b1 ss.length d1, .slice b2 ps.length d2] 27)) (w.heap.size + 1 + 1) b1 d1 b2 d2 ss ps) := ⟨HD1.out.s.alloc _, HD1.out.p.alloc _⟩
 have g0 := Y0.out.c0
 have g1 := Y0.out.c1
 clear hd1 hb1 X0 X1 b0
 go_wp2_with fail
 refine (sok37 ss ps a1 a2 c1 c2 (by omega) (by omega) _ (HD.out.s.srow.below HB1.out) (HD.out.p.prow.below HB1.out)).mono ?_
 rintro e w2 ⟨rfl, hb2⟩
 have HB2 : Hid (Below w.heap.size w w2) := HB1.out.trans (hb2.mono HB1.out.size)
 have V0 : Hid (Bx w2 w.heap.size (.slice a1 ss.length c1) (.slice a2 ps.length c2)) := Y0.out.keep hb2 Y0.out.lt
 have V1 : Hid (Bx w2 (w.heap.size + 1) (.slice none 0 0) (.slice none 0 0)) := Y1.out.keep hb2 Y1.out.lt
 have V2 : Hid (Bx w2 w1.heap.size (.slice b1 ss.length d1) (.slice b2 ps.length d2)) := Z1.out.keep hb2 Z1.out.lt
 have HD3 : Hid (DOwn w2 (w.heap.size + 1 + 1) b1 d1 b2 d2 ss ps) := HD2.out.below hb2
 clear hb2 Y0 Y1 Z1 HD1 HD2 HB1 g0 g1
 by_cases hok : okB ss ps = true
 ·have HO : Hid (OkD ss ps) := okB_iff.1 hok
  have HE : Hid (flush ss ps = flS ss ps) := (flS_yes hok).symm
  have HE2 : Hid (flP ss ps = []) := flP_yes hok
  have hp60 : ps.length ≤ 1000 := by have := HO.out.2.2.1; omega
  generalize hXX : w1.heap.size = X at *
  go_wp2
  go_loopw [4] (fun t wr => ∃ (k : Nat) (ls : List ByteArray), k ≤ ps.length ∧ t = .int .i64 k ∧ Hid (ls = flush ss (ps.take k)) ∧ Hid (ls.length = ss.length) ∧ Hid (Below w.heap.size w wr) ∧ Hid (Bx wr w.heap.size (.slice a1 ss.length c1) (.slice a2 ps.length c2)) ∧ Hid (Bx wr (w.heap.size + 1) (.slice none 0 0) (.slice none 0 0)) ∧ Hid (Bx wr X (.slice b1 ss.length d1) (.slice b2 ps.length d2)) ∧ Hid (wr.ownsRow (w.heap.size + 1 + 1) 9 1 (.slice b1 ss.length d1) ss.length (scs ls))) (fun t _ => ps.length - (intOf t).toNat)
  case atStart => exact ⟨0, ss, Nat.zero_le _, rfl, rfl, rfl, HB2, V0, V1, V2, HD3.out.s⟩
  case round =>
   clear HB2 V0 V1 V2 HD3
   obtain ⟨k, ls, hk, rfl, HR, HRL, HB, V0, V1, V2, HW⟩ := hrel
   have q1 := V0.out.c1
   by_cases hlt : k < ps.length
   ·have hlt' : (k : Int) < (ps.length : Int) := by omega
    have h0 : (0 : Int) ≤ (k : Int) := by omega
    obtain ⟨b, off, rfl, hbl, hc⟩ := HD.out.p.prow (by omega)
    have hc0 := (HB.out.cell (p := ⟨b, off + k * 2, none⟩) hbl).trans (hc k hlt).1
    have hc1 := (HB.out.cell (p := ⟨b, off + k * 2 + 1, none⟩) hbl).trans (hc k hlt).2
    have hwk := HO.out.2.2.2.2 _ (List.getElem_mem hlt)
    obtain ⟨m, hm1⟩ := Int.eq_ofNat_of_zero_le hwk.1
    have HM : Hid (ps[k].1 = (m : Int)) := hm1
    have hmn : (m : Int) < (ss.length : Int) := by rw [← hm1]; exact hwk.2.1
    have hm0 : (0 : Int) ≤ (m : Int) := by omega
    obtain ⟨g, rfl, hbg, hgl⟩ := own_form HW.out (by omega)
    have hgX : g < X := (HU.out g rfl).2
    rw [hm1] at hc0
    clear hc hwk hm1
    have x0 := V2.out.c0
    have hml : m < (scs ls).length := by rw [scs_len, HRL.out]; omega
    have HQ : Hid (wr.cell? ⟨g, m, none⟩ = some ((scs ls)[m]'hml)) := by show _ = _; rw [World.ownsRow.cellAt HW.out m (by omega)]; simp
    have cq := HQ.out
    have cf : wr.frozen? ⟨g, m, none⟩ = false := World.ownsRow.frozenAt HW.out m
    have st := World.ownsRow.stored HW.out m (.string ps[k].2)
    have HS2 : Hid _ := st.1
    have n1 : g ≠ w.heap.size := by omega
    have n2 : g ≠ X := by omega
    have n3 : g ≠ b := by omega
    have HK : Hid ((wr.setCell ⟨g, m, none⟩ (.string ps[k].2)).cell? ⟨w.heap.size, 1, none⟩ = some (.slice (some ⟨b, off, none⟩) ps.length c2) ∧ (wr.setCell ⟨g, m, none⟩ (.string ps[k].2)).cell? ⟨X, 0, none⟩ = some (.slice (some ⟨g, 0, none⟩) ss.length d1) ∧ (wr.setCell ⟨g, m, none⟩ (.string ps[k].2)).cell? ⟨b, off + k * 2, none⟩ = some (.int .i64 (m : Int)) ∧ (wr.setCell ⟨g, m, none⟩ (.string ps[k].2)).cell? ⟨b, off + k * 2 + 1, none⟩ = some (.string ps[k].2)) :=
     ⟨(V0.out.setO n1 _).c1, (V2.out.setO n2 _).c0, (World.cell?_setCell_other _ _ _ _ (fun e => n3 (by cases e; rfl))).trans hc0, (World.cell?_setCell_other _ _ _ _ (fun e => n3 (by cases e; rfl))).trans hc1⟩
    clear st
    go_wp2
    go_region_held3 (fun w' => w'.cell? ⟨w.heap.size, 1, none⟩ = some (.slice (some ⟨b, off, none⟩) ps.length c2) ∧ w'.cell? ⟨X, 0, none⟩ = some (.slice (some ⟨g, 0, none⟩) ss.length d1) ∧ w'.cell? ⟨b, off + k * 2, none⟩ = some (.int .i64 (m : Int)) ∧ w'.cell? ⟨b, off + k * 2 + 1, none⟩ = some (.string ps[k].2)) (first | exact HK.out | go_keep) ((fail))
    all_goals
     have HR3 : Hid (ls.set m ps[k].2 = flush ss (ps.take (k + 1))) := by
      show _ = _
      rw [flush_succ ss ps k m hlt HM.out, ← HR.out]
     have HL3 : Hid ((ls.set m ps[k].2).length = ss.length) := by show _ = _; rw [List.length_set]; exact HRL.out
     have HW3 : Hid ((wr.setCell ⟨g, m, none⟩ (.string ps[k].2)).drew.ownsRow (w.heap.size + 1 + 1) 9 1 (.slice (some ⟨g, 0, none⟩) ss.length d1) ss.length (scs (ls.set m ps[k].2))) := by
      rw [scs_set]; exact HS2.out
     have W0 : Hid (Bx (wr.setCell ⟨g, m, none⟩ (.string ps[k].2)).drew w.heap.size (.slice a1 ss.length c1) (.slice (some ⟨b, off, none⟩) ps.length c2)) := (V0.out.setO n1 _).drew
     have W1 : Hid (Bx (wr.setCell ⟨g, m, none⟩ (.string ps[k].2)).drew (w.heap.size + 1) (.slice none 0 0) (.slice none 0 0)) := (V1.out.setO (by show g ≠ _; omega) _).drew
     have W2 : Hid (Bx (wr.setCell ⟨g, m, none⟩ (.string ps[k].2)).drew X (.slice (some ⟨g, 0, none⟩) ss.length d1) (.slice b2 ps.length d2)) := (V2.out.setO n2 _).drew
     have HB3 : Hid (Below w.heap.size w (wr.setCell ⟨g, m, none⟩ (.string ps[k].2)).drew) := (HB.out.setCell (by show w.heap.size ≤ g; omega) _).drew
     clear x0 cq cf hc0 hc1 q1
     go_wp2
     go_roundw
     case rel => exact ⟨k + 1, _, by omega, by go_num, HR3, HL3, HB3, W0, W1, W2, HW3⟩
     case measure => simp [intOf]; omega
   ·have hlt' : ¬ (k : Int) < (ps.length : Int) := by omega
    obtain rfl : k = ps.length := by omega
    have HLS : Hid (ls = flS ss ps) := by have h := HR.out; rw [List.take_length] at h; exact h.trans HE.out
    have x0 := V2.out.c0
    have x1 := V2.out.c1
    have xf := V2.out.fz
    have xl := V2.out.lt
    have t0 := V1.out.c0
    have t1 := V1.out.c1
    have tf := V1.out.fz
    have tl := V1.out.lt
    have nX : w.heap.size + 1 ≠ X := by omega
    have HLE : Hid (ss.length = (flS ss ps).length) := by show _ = _; rw [← HLS.out]; exact HRL.out.symm
    have HSF : Hid (SOwn wr (w.heap.size + 1 + 1) (.slice b1 (flS ss ps).length d1) (flS ss ps)) := by
     show World.ownsRow _ _ _ _ _ _ _
     rw [← HLE.out, ← HLS.out]
     exact HW.out
    have HNX : Hid ((Value.slice b1 (flS ss ps).length d1).ownBlock ≠ some X) := fun e => by
     rw [← HLE.out] at e
     have := (HU.out X e).2
     omega
    go_wp2
    refine bodyPost_ret (v := .agg #[.slice b1 ss.length d1, .slice (some ⟨wr.heap.size, 0, none⟩) 0 0]) (by simp [results, Tryz.results40, go_sem, t0, t1, tl]) rfl ⟨b1, d1, some ⟨wr.heap.size, 0, none⟩, 0, ?_, ⟨?_, ?_⟩, ?_⟩
    ·rw [HE2.out, ← HLE.out]; rfl
    ·have h1 : SOwn (wr.setCell ⟨X, 1, none⟩ (.slice (some ⟨wr.heap.size, 0, none⟩) 0 0)) (w.heap.size + 1 + 1) (.slice b1 (flS ss ps).length d1) (flS ss ps) := own_set HSF.out HNX.out
     exact (((h1.set (by show w.heap.size + 1 < _; omega) _).set (by show w.heap.size + 1 < _; omega) _).alloc _).mono (by omega)
    ·rw [HE2.out]
     have h := POwn.empty (((wr.setCell ⟨X, 1, none⟩ (.slice (some ⟨wr.heap.size, 0, none⟩) 0 0)).setCell ⟨w.heap.size + 1, 0, none⟩ (.slice b1 ss.length d1)).setCell ⟨w.heap.size + 1, 1, none⟩ (.slice (some ⟨wr.heap.size, 0, none⟩) 0 0)) w.heap.size (by simp; omega)
     simpa using h
    ·exact (((HB.out.setCell (by show w.heap.size ≤ X; omega) _).setCell (by show _ ≤ w.heap.size + 1; omega) _).setCell (by show _ ≤ w.heap.size + 1; omega) _).alloc (by simp; omega) _
 ·have hok' : okB ss ps = false := by simpa using hok
  have HE : Hid (flS ss ps = ss) := flS_no hok'
  have HE2 : Hid (flP ss ps = ps) := flP_no hok'
  have x0 := V2.out.c0
  have x1 := V2.out.c1
  have t0 := V1.out.c0
  have t1 := V1.out.c1
  have tf := V1.out.fz
  clear hok
  go_wp2
  refine bodyPost_ret (v := .agg #[.slice b1 ss.length d1, .slice b2 ps.length d2]) (by simp [results, Tryz.results40, go_sem, t0, t1]) rfl ⟨b1, d1, b2, d2, ?_, ⟨?_, ?_⟩, ?_⟩
  ·rw [HE.out, HE2.out]
  ·rw [HE.out]
   exact ((HD3.out.s.set (by show w.heap.size + 1 < _; omega) _).set (by show w.heap.size + 1 < _; omega) _).mono (by omega)
  ·rw [HE2.out]
   exact ((HD3.out.p.set (by show w.heap.size + 1 < _; omega) _).set (by show w.heap.size + 1 < _; omega) _).mono (by omega)
  ·exact (HB2.out.setCell (by show _ ≤ w.heap.size + 1; omega) _).setCell (by show _ ≤ w.heap.size + 1; omega) _
end Go.Proofs.YtekjpoenbcnhdaaGreat

namespace Go.Proofs.YtekjpoenbcnhdaaGreat
open Go.RowKit
open DM

def spl (b : ByteArray) (p : Nat) (l : List UInt8) : ByteArray := ⟨(b.data.toList.take p ++ l ++ b.data.toList.drop (p + l.length)).toArray⟩
theorem spl_size (b : ByteArray) (p : Nat) (l : List UInt8) (h : p + l.length ≤ b.size) : (spl b p l).size = b.size := by
 show (b.data.toList.take p ++ l ++ b.data.toList.drop (p + l.length)).toArray.size = b.size
 have e : b.data.toList.length = b.size := by simp
 simp only [List.size_toArray, List.length_append, List.length_take, List.length_drop]
 omega
theorem spl_cat (b x : ByteArray) (p i n : Nat) (hn : i + n ≤ x.size) : (b.extract 0 p ++ x.extract i (i + n)) ++ b.extract (p + n) b.size = spl b p ((x.data.toList.drop i).take n) := by
 have e : x.data.toList.length = x.size := by simp
 have hl : ((x.data.toList.drop i).take n).length = n := by
  rw [List.length_take, List.length_drop]; omega
 unfold spl
 rw [hl]
 apply ByteArray.ext
 apply Array.toList_inj.1
 rw [ByteArray.data_append, ByteArray.data_append, Array.toList_append, Array.toList_append, Lib.extract_data, Lib.extract_data, Lib.extract_data]
 have e2 : (b.data.toList.drop (p + n)).take (b.size - (p + n)) = b.data.toList.drop (p + n) := by
  apply List.take_of_length_le
  have e3 : b.data.toList.length = b.size := by simp
  rw [List.length_drop]; omega
 rw [e2, show i + n - i = n by omega]
 simp

def wbGo (ss : List ByteArray) (k0 : Nat) : Nat → List Wr → Nat → List UInt8 → List Wr
 | 0, cur, _, _ => cur
 | f + 1, cur, q, rest => if rest = [] then cur else
   wbGo ss k0 f (cur ++ [(((k0 + q / 64 : Nat) : Int), spl (rdR ss cur ((k0 + q / 64 : Nat) : Int)) (q % 64) (rest.take (64 - q % 64)))]) (q + min (64 - q % 64) rest.length) (rest.drop (64 - q % 64))
def wb (ss : List ByteArray) (k0 q : Nat) (l : List UInt8) : List Wr := wbGo ss k0 l.length [] q l
theorem wbGo_nil {ss : List ByteArray} {k0 f q : Nat} {cur W : List Wr} (h : wbGo ss k0 f cur q [] = W) : cur = W := by
 cases f with
 | zero => exact h
 | succ f => simpa [wbGo] using h
theorem wbGo_step {ss : List ByteArray} {k0 f q : Nat} {cur W : List Wr} {rest : List UInt8} (h : wbGo ss k0 f cur q rest = W) (hr : rest ≠ []) (hf : rest.length ≤ f) :
  ∃ f', (rest.drop (64 - q % 64)).length ≤ f' ∧ wbGo ss k0 f' (cur ++ [(((k0 + q / 64 : Nat) : Int), spl (rdR ss cur ((k0 + q / 64 : Nat) : Int)) (q % 64) (rest.take (64 - q % 64)))]) (q + min (64 - q % 64) rest.length) (rest.drop (64 - q % 64)) = W := by
 have h0 : 0 < rest.length := List.length_pos_iff.2 hr
 cases f with
 | zero => omega
 | succ f =>
  refine ⟨f, by rw [List.length_drop]; omega, ?_⟩
  simpa [wbGo, hr] using h
theorem rdR_is64 {ss : List ByteArray} {ps : List Wr} (h : OkD ss ps) {a : Int} (ha : hasB a ss.length = true) : (rdR ss ps a).size = 64 := by
 have hh := hasB_iff.1 ha
 rw [show rdR ss ps a = rd ss ps a from if_pos ha]
 unfold rd
 cases hb : back ps a ps.length with
 | some t =>
  obtain ⟨p, hm, rfl⟩ := back_mem _ hb
  exact (h.2.2.2.2 p hm).2.2
 | none =>
  have hl : a.toNat < ss.length := by omega
  simp only [Option.getD_none]
  rw [List.getD_eq_getElem?_getD, List.getElem?_eq_getElem hl]
  exact h.2.2.2.1 _ (List.getElem_mem hl)
end Go.Proofs.YtekjpoenbcnhdaaGreat

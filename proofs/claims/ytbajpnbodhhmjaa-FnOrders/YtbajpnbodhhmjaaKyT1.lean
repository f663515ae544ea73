/- What Touches returns, on both sides. -/
import Derived.Test.YtbajpnbodhhmjaaKyW1
namespace Go.Proofs.Ytbajpnbodhhmjaa
open Go.RowKit
open KM
attribute [local go_sem ↓] Go.wp_at_zero Go.wp_at_succ

/-- none of the first k ranges holds a key -/
def NoT (rs : List Rg) (ws : List Wt) (k : Nat) : Prop := ∀ j (hj : j < rs.length), j < k → ∀ i (hi : i < ws.length), inB rs[j] ws[i].1 = false
/-- none of the first k keys is in r -/
def NoI (r : Rg) (ws : List Wt) (k : Nat) : Prop := ∀ i (hi : i < ws.length), i < k → inB r ws[i].1 = false
theorem touch_yes {rs : List Rg} {ws : List Wt} (k m : Nat) (hk : k < rs.length) (hm : m < ws.length) (h : inB rs[k] ws[m].1 = true) : touchB rs ws = true := by
  unfold touchB
  rw [List.any_eq_true]
  exact ⟨rs[k], List.getElem_mem hk, by rw [List.any_eq_true]; exact ⟨ws[m], List.getElem_mem hm, h⟩⟩
theorem touch_no {rs : List Rg} {ws : List Wt} {k : Nat} (h : NoT rs ws k) (hk : rs.length ≤ k) : touchB rs ws = false := by
  unfold touchB
  rw [List.any_eq_false]
  intro r hr
  obtain ⟨j, hj, rfl⟩ := List.getElem_of_mem hr
  rw [Bool.not_eq_true, List.any_eq_false]
  intro x hx
  obtain ⟨i, hi, rfl⟩ := List.getElem_of_mem hx
  rw [h j hj (by omega) i hi]
  simp
theorem not_more {rs : List Rg} {ws : List Wt} {k m : Nat} (h : NoT rs ws k) (hk : k < rs.length) (h2 : NoI rs[k] ws m) (hm : ws.length ≤ m) : NoT rs ws (k + 1) := fun j hj hjk i hi => by
  by_cases e : j = k
  · subst e; exact h2 i hi (by omega)
  · exact h j hj (by omega) i hi
theorem noi_more {r : Rg} {ws : List Wt} {m : Nat} (h : NoI r ws m) (hm : m < ws.length) (h2 : inB r ws[m].1 = false) : NoI r ws (m + 1) := fun i hi him => by
  by_cases e : i = m
  · subst e; exact h2
  · exact h i hi (by omega)

set_option maxRecDepth 100000 in
set_option maxHeartbeats 4000000 in
theorem itouch (rs : List Rg) (ws : List Wt) (a1 a2 : Option Addr) (c1 c2 : Nat) (hn : rs.length ≤ 100000000) (hm : ws.length ≤ 100000000) (w : World) (hr : GRow encR w a1 rs) (hw : GRow encW w a2 ws) :
    Calls Try.prog 18 #[.slice a1 rs.length c1, .slice a2 ws.length c2] w fun e w' => e = .returned (.bool (touchB rs ws)) ∧ Below w.heap.size w w' := by
  have HR : Hid (GRow encR w a1 rs) := hr
  have HW : Hid (GRow encW w a2 ws) := hw
  clear hr hw
  go_enter Try.func18, Try.ntmps18
  go_wp2
  go_loopw [11] (fun t wr => ∃ k : Nat, k ≤ rs.length ∧ t = .int .i64 k ∧ Hid (NoT rs ws k) ∧ Hid (Below w.heap.size w wr)) (fun t _ => rs.length - (intOf t).toNat)
  case atStart => exact ⟨0, Nat.zero_le _, rfl, fun j hj h => by omega, belowRefl w⟩
  case round =>
    obtain ⟨k, hk, rfl, HG, HB⟩ := hrel
    by_cases hlt : k < rs.length
    · have hlt' : (k : Int) < (rs.length : Int) := by omega
      have hk0 : (0 : Int) ≤ (k : Int) := by omega
      obtain ⟨b, off, rfl, hbl, hc⟩ := (HR.out.below HB.out) (by omega)
      have r0 := (rat hc k hlt).1
      have r1 := (rat hc k hlt).2
      clear hc
      have HX : Hid (Box (wr.alloc (.cells #[.string rs[k].1, .string rs[k].2] 56)) wr.heap.size [.string rs[k].1, .string rs[k].2]) := Box.new wr [.string rs[k].1, .string rs[k].2] 56
      have HB1 : Hid (Below w.heap.size w (wr.alloc (.cells #[.string rs[k].1, .string rs[k].2] 56))) := HB.out.alloc HB.out.size _
      go_wp2
      go_loopw [17] (fun t wr2 => ∃ m : Nat, m ≤ ws.length ∧ t = .int .i64 m ∧ Hid (NoI rs[k] ws m) ∧ Hid (Below w.heap.size w wr2) ∧ Hid (Box wr2 wr.heap.size [.string rs[k].1, .string rs[k].2])) (fun t _ => ws.length - (intOf t).toNat)
      case atStart => exact ⟨0, Nat.zero_le _, rfl, fun j hj h => by omega, HB1, HX⟩
      case round =>
        clear HX HB1 r0 r1
        obtain ⟨m, hmk, rfl, HI, HB2, HX2⟩ := hrel
        by_cases hlm : m < ws.length
        · have hlm' : (m : Int) < (ws.length : Int) := by omega
          have hm0 : (0 : Int) ≤ (m : Int) := by omega
          obtain ⟨b2, off2, rfl, hbl2, hc2⟩ := (HW.out.below HB2.out) (by omega)
          have q0 := (wat hc2 m hlm).1
          have q1 := (wat hc2 m hlm).2.1
          have q2 := (wat hc2 m hlm).2.2
          clear hc2
          have x0 := HX2.out.c0
          have x1 := HX2.out.c1
          have xl := HX2.out.lt
          have HX3 : Hid (Box (wr.alloc (.cells #[.string ws[m].1, .string ws[m].2.1, .bool ws[m].2.2] 58)) _ [.string rs[k].1, .string rs[k].2]) := HX2.out.below ((belowRefl wr).alloc (Nat.le_refl _) _)
          have HB3 : Hid (Below w.heap.size w (wr.alloc (.cells #[.string ws[m].1, .string ws[m].2.1, .bool ws[m].2.2] 58))) := HB2.out.alloc HB2.out.size _
          cases hin : inB rs[k] ws[m].1
          · have C1 : Hid (∀ w, Calls Try.prog 28 #[.agg #[.string rs[k].1, .string rs[k].2], .string ws[m].1] w fun e w' => e = .returned (.bool false) ∧ Below w.heap.size w w') := fun w => by
              have h := iin rs[k].1 rs[k].2 ws[m].1 w
              rw [show inB (rs[k].1, rs[k].2) ws[m].1 = false from hin] at h
              exact h
            have HI2 : Hid (NoI rs[k] ws (m + 1)) := noi_more HI.out hlm hin
            clear hin
            go_wp2_with fail
            refine (C1.out _).mono ?_
            rintro e w3 ⟨rfl, hb3⟩
            have HX4 : Hid (Box w3 _ [.string rs[k].1, .string rs[k].2]) := HX3.out.below hb3
            have HB4 : Hid (Below w.heap.size w w3) := HB3.out.trans (hb3.mono HB3.out.size)
            clear hb3 x0 x1 q0 q1 q2
            go_wp2
            go_roundw
            case rel => exact ⟨m + 1, by omega, by go_num, HI2, HB4, HX4⟩
            case measure => simp [intOf]; omega
          · have C1 : Hid (∀ w, Calls Try.prog 28 #[.agg #[.string rs[k].1, .string rs[k].2], .string ws[m].1] w fun e w' => e = .returned (.bool true) ∧ Below w.heap.size w w') := fun w => by
              have h := iin rs[k].1 rs[k].2 ws[m].1 w
              rw [show inB (rs[k].1, rs[k].2) ws[m].1 = true from hin] at h
              exact h
            have HT : Hid (touchB rs ws = true) := touch_yes k m hlt hlm hin
            clear hin
            go_wp2_with fail
            refine (C1.out _).mono ?_
            rintro e w3 ⟨rfl, hb3⟩
            have HB4 : Hid (Below w.heap.size w w3) := HB3.out.trans (hb3.mono HB3.out.size)
            clear hb3 x0 x1 q0 q1 q2
            go_wp2
            go_ret
            exact ⟨ret_bool HT.out.symm, HB4.out⟩
        · have hlm' : ¬ (m : Int) < (ws.length : Int) := by omega
          have HG2 : Hid (NoT rs ws (k + 1)) := not_more HG.out hlt HI.out (by omega)
          go_wp2
          go_roundw
          case rel => exact ⟨k + 1, by omega, by go_num, HG2, HB2⟩
          case measure => simp [intOf]; omega
    · have hlt' : ¬ (k : Int) < (rs.length : Int) := by omega
      have HN : Hid (touchB rs ws = false) := touch_no HG.out (by omega)
      go_wp2
      go_ret
      exact ⟨ret_bool HN.out.symm, HB.out⟩

set_option maxRecDepth 100000 in
set_option maxHeartbeats 4000000 in
theorem stouch (rs : List Rg) (ws : List Wt) (a1 a2 : Option Addr) (c1 c2 : Nat) (hn : rs.length ≤ 100000000) (hm : ws.length ≤ 100000000) (w : World) (hr : GRow encR w a1 rs) (hw : GRow encW w a2 ws) :
    Calls Try.prog 26 #[.slice a1 rs.length c1, .slice a2 ws.length c2] w fun e w' => e = .returned (.bool (touchB rs ws)) ∧ Below w.heap.size w w' := by
  have HR : Hid (GRow encR w a1 rs) := hr
  have HW : Hid (GRow encW w a2 ws) := hw
  clear hr hw
  go_enter Try.func26, Try.ntmps26
  go_wp2
  go_loopw [5] (fun t wr => ∃ k : Nat, k ≤ rs.length ∧ t = .int .i64 k ∧ Hid (NoT rs ws k) ∧ Hid (Below w.heap.size w wr)) (fun t _ => rs.length - (intOf t).toNat)
  case atStart => exact ⟨0, Nat.zero_le _, rfl, fun j hj h => by omega, belowRefl w⟩
  case round =>
    obtain ⟨k, hk, rfl, HG, HB⟩ := hrel
    by_cases hlt : k < rs.length
    · have hlt' : (k : Int) < (rs.length : Int) := by omega
      have hk0 : (0 : Int) ≤ (k : Int) := by omega
      go_wp2
      go_loopw [6] (fun t wr2 => ∃ m : Nat, m ≤ ws.length ∧ t = .int .i64 m ∧ Hid (NoI rs[k] ws m) ∧ Hid (Below w.heap.size w wr2)) (fun t _ => ws.length - (intOf t).toNat)
      case atStart => exact ⟨0, Nat.zero_le _, rfl, fun j hj h => by omega, HB⟩
      case round =>
        obtain ⟨m, hmk, rfl, HI, HB2⟩ := hrel
        by_cases hlm : m < ws.length
        · have hlm' : (m : Int) < (ws.length : Int) := by omega
          have hm0 : (0 : Int) ≤ (m : Int) := by omega
          obtain ⟨b, off, rfl, hbl, hc⟩ := (HR.out.below HB2.out) (by omega)
          have r0 := (rat hc k hlt).1
          have r1 := (rat hc k hlt).2
          clear hc
          obtain ⟨b2, off2, rfl, hbl2, hc2⟩ := (HW.out.below HB2.out) (by omega)
          have q0 := (wat hc2 m hlm).1
          clear hc2
          cases hin : inB rs[k] ws[m].1
          · have C1 : Hid (∀ w, Calls Try.prog 43 #[.agg #[.string rs[k].1, .string rs[k].2], .string ws[m].1] w fun e w' => e = .returned (.bool false) ∧ Below w.heap.size w w') := fun w => by
              have h := sin rs[k].1 rs[k].2 ws[m].1 w
              rw [show inB (rs[k].1, rs[k].2) ws[m].1 = false from hin] at h
              exact h
            have HI2 : Hid (NoI rs[k] ws (m + 1)) := noi_more HI.out hlm hin
            clear hin
            go_wp2
            go_region_held3 (fun w' => w'.cell? ⟨b, off + k * 2, none⟩ = some (.string rs[k].1) ∧ w'.cell? ⟨b, off + k * 2 + 1, none⟩ = some (.string rs[k].2) ∧ w'.cell? ⟨b2, off2 + m * 3, none⟩ = some (.string ws[m].1)) (first | go_keep | exact ⟨(hb3.cell (p := ⟨b, off + k * 2, none⟩) hbl).trans r0, (hb3.cell (p := ⟨b, off + k * 2 + 1, none⟩) hbl).trans r1, (hb3.cell (p := ⟨b2, off2 + m * 3, none⟩) hbl2).trans q0⟩) ((go_at_call 43; refine (C1.out _).mono ?_; rintro e w3 ⟨rfl, hb3⟩))
            all_goals
              go_wp2
              go_roundw
              case rel => exact ⟨m + 1, by omega, by go_num, HI2, HB2.out.drew.trans (hb3.mono HB2.out.size)⟩
              case measure => simp [intOf]; omega
          · have C1 : Hid (∀ w, Calls Try.prog 43 #[.agg #[.string rs[k].1, .string rs[k].2], .string ws[m].1] w fun e w' => e = .returned (.bool true) ∧ Below w.heap.size w w') := fun w => by
              have h := sin rs[k].1 rs[k].2 ws[m].1 w
              rw [show inB (rs[k].1, rs[k].2) ws[m].1 = true from hin] at h
              exact h
            have HT : Hid (touchB rs ws = true) := touch_yes k m hlt hlm hin
            clear hin
            go_wp2
            go_region_held3 (fun w' => w'.cell? ⟨b, off + k * 2, none⟩ = some (.string rs[k].1) ∧ w'.cell? ⟨b, off + k * 2 + 1, none⟩ = some (.string rs[k].2) ∧ w'.cell? ⟨b2, off2 + m * 3, none⟩ = some (.string ws[m].1)) (first | go_keep | exact ⟨(hb3.cell (p := ⟨b, off + k * 2, none⟩) hbl).trans r0, (hb3.cell (p := ⟨b, off + k * 2 + 1, none⟩) hbl).trans r1, (hb3.cell (p := ⟨b2, off2 + m * 3, none⟩) hbl2).trans q0⟩) ((go_at_call 43; refine (C1.out _).mono ?_; rintro e w3 ⟨rfl, hb3⟩))
            all_goals
              go_wp2
              go_ret
              exact ⟨ret_bool HT.out.symm, HB2.out.drew.trans (hb3.mono HB2.out.size)⟩
        · have hlm' : ¬ (m : Int) < (ws.length : Int) := by omega
          have HG2 : Hid (NoT rs ws (k + 1)) := not_more HG.out hlt HI.out (by omega)
          go_wp2
          go_roundw
          case rel => exact ⟨k + 1, by omega, by go_num, HG2, HB2⟩
          case measure => simp [intOf]; omega
    · have hlt' : ¬ (k : Int) < (rs.length : Int) := by omega
      have HN : Hid (touchB rs ws = false) := touch_no HG.out (by omega)
      go_wp2
      go_ret
      exact ⟨ret_bool HN.out.symm, HB.out⟩
end Go.Proofs.Ytbajpnbodhhmjaa

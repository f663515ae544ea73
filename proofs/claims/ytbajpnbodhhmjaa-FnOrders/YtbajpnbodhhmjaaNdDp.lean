/- What spec.PutWrite makes. -/
import Derived.Test.YtbajpnbodhhmjaaNdDr
import Derived.Test.YtbajpnbodhhmjaaDp
namespace Go.Proofs.Ytbajpnbodhhmjaa
open Go.RowKit
open KM
attribute [local go_sem ↓] Go.wp_at_zero Go.wp_at_succ

set_option maxRecDepth 100000 in
set_option maxHeartbeats 2000000 in
theorem sput (xs : List Wt) (x : Wt) (a : Option Addr) (c : Nat) (hn : xs.length ≤ 1000000) (w : World) (hp : GRow encW w a xs) :
    Calls Try.prog 41 #[.slice a xs.length c, .agg #[.string x.1, .string x.2.1, .bool x.2.2]] w fun e w' => ∃ a1 c1, e = .returned (.slice a1 (putS xs x).length c1) ∧ GOwn encW 58 w' w.heap.size (.slice a1 (putS xs x).length c1) (putS xs x) ∧ Below w.heap.size w w' := by
  have HP : Hid (GRow encW w a xs) := hp
  clear hp
  have B0 : Hid (Bx (w.alloc (.cells #[.string x.1, .string x.2.1, .bool x.2.2] 58)) w.heap.size [.string x.1, .string x.2.1, .bool x.2.2]) := Bx.new w _ 58
  have HB0 : Hid (Below w.heap.size w (w.alloc (.cells #[.string x.1, .string x.2.1, .bool x.2.2] 58))) := (belowRefl w).alloc (Nat.le_refl _) _
  go_enter Try.func41, Try.ntmps41
  go_wp2
  go_loopw [5, 6] (fun v t wr => ∃ k : Nat, k ≤ xs.length ∧ t = .int .i64 k ∧ Hid (GOwn encW 58 wr (w.heap.size + 1) v ((xs.take k).filter fun y => lt y.1 x.1)) ∧ Hid (Bx wr w.heap.size [.string x.1, .string x.2.1, .bool x.2.2]) ∧ Hid (Below w.heap.size w wr)) (fun _ t _ => xs.length - (intOf t).toNat)
  case atStart =>
    refine ⟨0, Nat.zero_le _, rfl, ?_, B0.out.alloc _, HB0.out.alloc HB0.out.size _⟩
    have h := GOwn.empty (E := encW) (e := 58) (w.alloc (.cells #[.string x.1, .string x.2.1, .bool x.2.2] 58)) (w.heap.size + 1) (by rw [World.size_alloc]; exact Nat.le_refl _)
    rw [World.size_alloc] at h
    exact h
  case round =>
    clear B0 HB0
    obtain ⟨k, hk, rfl, HO, HX, HB⟩ := hrel
    by_cases hlt : k < xs.length
    · have hlt' : (k : Int) < (xs.length : Int) := by omega
      have hk0 : (0 : Int) ≤ (k : Int) := by omega
      obtain ⟨b, off, rfl, hbl, hc⟩ := (HP.out.below HB.out) (by omega)
      have r0 := (wat hc k hlt).1
      have r1 := (wat hc k hlt).2.1
      have r2 := (wat hc k hlt).2.2
      clear hc
      have x0 := HX.out.c0
      cases hl : lt xs[k].1 x.1
      · have hl' : Op.bytesLess xs[k].1.toList x.1.toList = false := hl
        have ho2 := HO.out
        rw [← filter_no (p := fun y => lt y.1 x.1) hlt hl] at ho2
        have HO2 := hide ho2
        clear ho2
        clear hl
        go_wp2
        go_quiet (fail)
        go_wp2
        go_roundw
        case rel => exact ⟨k + 1, by omega, by go_num, HO2, HX.out.below (below_drewN (belowRefl wr) _), below_drewN HB.out _⟩
        case measure => simp [intOf]; omega
      · have hl' : Op.bytesLess xs[k].1.toList x.1.toList = true := hl
        have hlen : ((xs.take k).filter fun y => lt y.1 x.1).length ≤ 1000000 := Nat.le_trans (List.length_filter_le _ _) (by rw [List.length_take]; omega)
        have hsz : w.heap.size + 1 ≤ wr.heap.size := HX.out.lt
        go_wp2
        go_quiet (fail)
        go_wp2_with (at_builtin; refine wpAppW rfl _ _ rfl xs[k] rfl (HO.out.drewN _) rfl (by omega) hsz ?_)
        intro v' w' ho' hb'
        have HO2 : Hid (GOwn encW 58 w' (w.heap.size + 1) v' ((xs.take (k + 1)).filter fun y => lt y.1 x.1)) := by
          show GOwn _ _ _ _ _ _
          rw [filter_yes hlt hl]; exact ho'
        have HB2 : Hid (Below w.heap.size w w') := (below_drewN HB.out _).trans (hb'.mono (by omega))
        have HX2 : Hid (Bx w' w.heap.size [.string x.1, .string x.2.1, .bool x.2.2]) := (HX.out.below (below_drewN (belowRefl wr) _)).belowB hb' (by omega)
        clear ho' hb' hl
        go_wp2
        go_roundw
        case rel => exact ⟨k + 1, by omega, by go_num, HO2, HX2, HB2⟩
        case measure => simp [intOf]; omega
    · have hlt' : ¬ (k : Int) < (xs.length : Int) := by omega
      have x0 := HX.out.c0
      have x1 := HX.out.c1
      have x2 := HX.out.c2
      have ho := HO.out
      rw [List.take_of_length_le (by omega)] at ho
      have HO1 := hide ho
      clear ho
      have hlen : (xs.filter fun y => lt y.1 x.1).length ≤ 1000000 := Nat.le_trans (List.length_filter_le _ _) hn
      have hsz : w.heap.size + 1 ≤ wr.heap.size := HX.out.lt
      go_wp2_with (at_builtin; refine wpAppW rfl _ _ rfl x rfl HO1.out rfl (Nat.le_trans hlen (by omega)) hsz ?_)
      intro v' w' ho' hb'
      have HO2 : Hid (GOwn encW 58 w' (w.heap.size + 1) v' (xs.filter (fun y => lt y.1 x.1) ++ [x])) := ho'
      have HB2 : Hid (Below w.heap.size w w') := HB.out.trans (hb'.mono (by omega))
      have HX2 : Hid (Bx w' w.heap.size [.string x.1, .string x.2.1, .bool x.2.2]) := HX.out.belowB hb' (by omega)
      clear ho' hb' x0 x1 x2 HO1 HO HB HX hsz
      go_wp2
      go_loopw [5, 7] (fun v t wr => ∃ k : Nat, k ≤ xs.length ∧ t = .int .i64 k ∧ Hid (GOwn encW 58 wr (w.heap.size + 1) v (xs.filter (fun y => lt y.1 x.1) ++ [x] ++ (xs.take k).filter fun y => lt x.1 y.1)) ∧ Hid (Bx wr w.heap.size [.string x.1, .string x.2.1, .bool x.2.2]) ∧ Hid (Below w.heap.size w wr)) (fun _ t _ => xs.length - (intOf t).toNat)
      case atStart =>
        refine ⟨0, Nat.zero_le _, rfl, ?_, HX2, HB2⟩
        show GOwn _ _ _ _ _ _
        simpa using HO2.out
      case round =>
        clear HX2 HB2 HO2
        obtain ⟨m, hm, rfl, HO, HX, HB⟩ := hrel
        by_cases hltm : m < xs.length
        · have hltm' : (m : Int) < (xs.length : Int) := by omega
          have hm0 : (0 : Int) ≤ (m : Int) := by omega
          obtain ⟨b, off, rfl, hbl, hc⟩ := (HP.out.below HB.out) (by omega)
          have r0 := (wat hc m hltm).1
          have r1 := (wat hc m hltm).2.1
          have r2 := (wat hc m hltm).2.2
          clear hc
          have x0 := HX.out.c0
          cases hl : lt x.1 xs[m].1
          · have hl' : (!(Op.bytesLess xs[m].1.toList x.1.toList || xs[m].1.toList == x.1.toList)) = false := (not_le _ _).trans hl
            have ho2 := HO.out
            rw [← filter_no (p := fun y => lt x.1 y.1) hltm hl] at ho2
            have HO2 := hide ho2
            clear ho2 hl
            go_wp2
            go_quiet (fail)
            go_wp2
            go_roundw
            case rel => exact ⟨m + 1, by omega, by go_num, HO2, HX.out.below (below_drewN (belowRefl wr) _), below_drewN HB.out _⟩
            case measure => simp [intOf]; omega
          · have hl' : (!(Op.bytesLess xs[m].1.toList x.1.toList || xs[m].1.toList == x.1.toList)) = true := (not_le _ _).trans hl
            have hlen2 : (xs.filter (fun y => lt y.1 x.1) ++ [x] ++ (xs.take m).filter fun y => lt x.1 y.1).length ≤ 3000000 := by
              have h1 : ((xs.take m).filter fun y => lt x.1 y.1).length ≤ 1000000 := Nat.le_trans (List.length_filter_le _ _) (by rw [List.length_take]; omega)
              simp only [List.length_append, List.length_cons, List.length_nil]
              omega
            have hsz : w.heap.size + 1 ≤ wr.heap.size := HX.out.lt
            go_wp2
            go_quiet (fail)
            go_wp2_with (at_builtin; refine wpAppW rfl _ _ rfl xs[m] rfl (HO.out.drewN _) rfl (by omega) hsz ?_)
            intro v' w' ho' hb'
            have HO2 : Hid (GOwn encW 58 w' (w.heap.size + 1) v' (xs.filter (fun y => lt y.1 x.1) ++ [x] ++ (xs.take (m + 1)).filter fun y => lt x.1 y.1)) := by
              show GOwn _ _ _ _ _ _
              rw [filter_yes hltm hl]; simpa [List.append_assoc] using ho'
            have HB2 : Hid (Below w.heap.size w w') := (below_drewN HB.out _).trans (hb'.mono (by omega))
            have HX2 : Hid (Bx w' w.heap.size [.string x.1, .string x.2.1, .bool x.2.2]) := (HX.out.below (below_drewN (belowRefl wr) _)).belowB hb' (by omega)
            clear ho' hb' hl
            go_wp2
            go_roundw
            case rel => exact ⟨m + 1, by omega, by go_num, HO2, HX2, HB2⟩
            case measure => simp [intOf]; omega
        · have hltm' : ¬ (m : Int) < (xs.length : Int) := by omega
          have ho := HO.out
          rw [List.take_of_length_le (by omega)] at ho
          change GOwn encW 58 wr (w.heap.size + 1) _ (putS xs x) at ho
          obtain ⟨a1, c1, rfl, _⟩ := ho.row
          have HO1 : Hid (GOwn encW 58 wr w.heap.size (.slice a1 (putS xs x).length c1) (putS xs x)) := ho.mono (by omega)
          clear ho
          go_wp2
          go_ret
          exact ⟨a1, c1, rfl, HO1.out, HB.out⟩
end Go.Proofs.Ytbajpnbodhhmjaa

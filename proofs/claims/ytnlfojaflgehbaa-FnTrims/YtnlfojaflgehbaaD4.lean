/- What spec.Trimmed does. -/
import Derived.Test.YtnlfojaflgehbaaTM
import Derived.Test.YtnlfojaflgehbaaH3
namespace Go.Proofs.Ytnlfojaflgehbaa
open Go.RowKit
open KM
open VM
attribute [local go_sem ↓] Go.wp_at_zero Go.wp_at_succ

theorem at_eq (o : Option Nd) (i : Nat) : (atI o == (i : Int)) = (o.map (·.1) == some i) := by
  cases o with
  | none =>
    have h : ((-1 : Int) == (i : Int)) = false := by rw [beq_eq_false_iff_ne]; omega
    exact h
  | some x =>
    show ((x.1 : Int) == (i : Int)) = (some x.1 == some i)
    by_cases e : x.1 = i
    · simp [e]
    · have h1 : ((x.1 : Int) == (i : Int)) = false := by rw [beq_eq_false_iff_ne]; omega
      have h2 : (some x.1 == some i) = false := by rw [beq_eq_false_iff_ne]; simpa using e
      rw [h1, h2]
theorem cntV_yes {k : ByteArray} {l : List Vr} {m : Nat} (hm : m < l.length) (h : (l[m].1.toList == k.toList) = true) : cntV k (l.take (m + 1)) = cntV k (l.take m) + 1 := by
  rw [beq_text] at h
  unfold cntV
  rw [filter_yes hm (by simpa using h), List.length_append]; rfl
theorem cntV_no {k : ByteArray} {l : List Vr} {m : Nat} (hm : m < l.length) (h : (l[m].1.toList == k.toList) = false) : cntV k (l.take (m + 1)) = cntV k (l.take m) := by
  rw [beq_text] at h
  unfold cntV
  rw [filter_no hm (by simpa using h)]
theorem cntV_le (k : ByteArray) (l : List Vr) : cntV k l ≤ l.length := List.length_filter_le _ _
theorem cntV_pos {l : List Vr} {k : Nat} (h : k < l.length) : 1 ≤ cntV l[k].1 l := by
  unfold cntV
  exact List.length_pos_iff.2 (List.ne_nil_of_mem (List.mem_filter.2 ⟨List.getElem_mem h, by simp⟩))

set_option maxRecDepth 100000 in
set_option maxHeartbeats 4000000 in
theorem strim (vs : List Vr) (a : Option Addr) (c : Nat) (s : Int) (hn : vs.length ≤ 10000000) (w : World) (hp : GRow encV w a vs) :
    Calls Try.prog 28 #[.slice a vs.length c, .int .i64 s] w fun e w' => ∃ a1 c1, e = .returned (.slice a1 (trimB s vs).length c1) ∧ GOwn encV 74 w' w.heap.size (.slice a1 (trimB s vs).length c1) (trimB s vs) ∧ Below w.heap.size w w' := by
  have HP : Hid (GRow encV w a vs) := hp
  clear hp
  go_enter Try.func28, Try.ntmps28
  go_wp2
  go_loopw [5, 6] (fun v t wr => ∃ i : Nat, i ≤ vs.length ∧ t = .int .i64 i ∧ Hid (GOwn encV 74 wr w.heap.size v (T1 s vs i)) ∧ Hid (Below w.heap.size w wr)) (fun _ t _ => vs.length - (intOf t).toNat)
  case atStart => exact ⟨0, Nat.zero_le _, rfl, GOwn.empty w _ (Nat.le_refl _), (belowRefl w).alloc (Nat.le_refl _) _⟩
  case round =>
    obtain ⟨i, hi, rfl, HO, HB⟩ := hrel
    by_cases hlt : i < vs.length
    · have hlt' : (i : Int) < (vs.length : Int) := by omega
      have hi0 : (0 : Int) ≤ (i : Int) := by omega
      have HR : Hid (GRow encV wr a vs) := HP.out.below HB.out
      obtain ⟨b, off, rfl, hbl, hc⟩ := HR.out (by omega)
      have HPc : Hid (pcells wr b (off + i * 4) vs[i]) := vat hc i hlt
      have c0 := HPc.out.1
      clear hc
      have hll : (T1 s vs i).length ≤ 100000000 := Nat.le_trans (T1_len s vs i) (by omega)
      have HA : Hid (∀ w', Below wr.heap.size wr w' → Calls Try.prog 53 #[.slice (some ⟨b, off, none⟩) vs.length c, .string vs[i].1, .int .i64 s] w' fun e w2 => e = .returned (.int .i64 (atI (lst vs[i].1 s (lab vs vs.length)))) ∧ Below w'.heap.size w' w2) := fun w' hb => at53 vs _ c vs[i].1 s (by omega) w' (HR.out.below hb)
      obtain ⟨z, hz⟩ : ∃ z, z = atI (lst vs[i].1 s (lab vs vs.length)) := ⟨_, rfl⟩
      have HZ : Hid (keep s (lab vs vs.length) (i, vs[i]) = (decide (s < vs[i].2.2.2) || (z == (i : Int)))) := by show _ = _; unfold keep; rw [hz, at_eq]
      rw [← hz] at HA
      clear hz
      go_wp2_with fail
      refine (HA.out _ (belowRefl wr)).mono ?_
      rintro e w2 ⟨rfl, hb2⟩
      have HO2 := hide (HO.out.below hb2)
      have HB2 : Hid (Below w.heap.size w w2) := HB.out.trans (hb2.mono HB.out.size)
      have P2 := HPc.out.below' hbl hb2
      have d0 := P2.1
      have d1 := P2.2.1
      have d2 := P2.2.2.1
      have d3 := P2.2.2.2
      clear hb2 c0 P2 HPc HO HB HR HA
      by_cases hcs : s < vs[i].2.2.2
      · have HKp : Hid (keep s (lab vs vs.length) (i, vs[i]) = true) := by show _ = _; rw [HZ.out, decide_eq_true hcs]; rfl
        go_wp2_with (at_builtin; refine wpAppV rfl _ _ rfl vs[i] rfl HO2.out rfl hll HB2.out.size ?_)
        intro v' w' ho' hb'
        have HO3 : Hid (GOwn encV 74 w' w.heap.size v' (T1 s vs (i + 1))) := by
          show GOwn _ _ _ _ _ _
          rw [T1_yes hlt HKp.out]; exact ho'
        have HB3 : Hid (Below w.heap.size w w') := HB2.out.trans hb'
        clear ho' hb'
        go_wp2
        go_roundw
        case rel => exact ⟨i + 1, by omega, by go_num, HO3, HB3⟩
        case measure => simp [intOf]; omega
      · have hcs' : decide (s < vs[i].2.2.2) = false := by simpa using hcs
        cases hz : (z == (i : Int))
        · have HKp : Hid (keep s (lab vs vs.length) (i, vs[i]) = false) := by show _ = _; rw [HZ.out, hcs', hz]; rfl
          have ho2 := HO2.out
          rw [← T1_no hlt HKp.out] at ho2
          have HO3 := hide ho2
          clear ho2
          go_wp2
          go_roundw
          case rel => exact ⟨i + 1, by omega, by go_num, HO3, HB2⟩
          case measure => simp [intOf]; omega
        · have HKp : Hid (keep s (lab vs vs.length) (i, vs[i]) = true) := by show _ = _; rw [HZ.out, hcs', hz]; rfl
          go_wp2_with (at_builtin; refine wpAppV rfl _ _ rfl vs[i] rfl HO2.out rfl hll HB2.out.size ?_)
          intro v' w' ho' hb'
          have HO3 : Hid (GOwn encV 74 w' w.heap.size v' (T1 s vs (i + 1))) := by
            show GOwn _ _ _ _ _ _
            rw [T1_yes hlt HKp.out]; exact ho'
          have HB3 : Hid (Below w.heap.size w w') := HB2.out.trans hb'
          clear ho' hb'
          go_wp2
          go_roundw
          case rel => exact ⟨i + 1, by omega, by go_num, HO3, HB3⟩
          case measure => simp [intOf]; omega
    · have hlt' : ¬ (i : Int) < (vs.length : Int) := by omega
      have hil : i = vs.length := by omega
      subst hil
      have ho := HO.out
      have HTr : Hid (trimB s vs = (T1 s vs vs.length).filter (stayV s (T1 s vs vs.length))) := rfl
      have hll : (T1 s vs vs.length).length ≤ 10000000 := Nat.le_trans (T1_len s vs _) hn
      obtain ⟨l, hl⟩ : ∃ l, l = T1 s vs vs.length := ⟨_, rfl⟩
      rw [← hl] at ho hll HTr
      clear hl
      obtain ⟨ao, cap, rfl, hrow⟩ := ho.row
      have HL : Hid (GRow encV wr ao l) := hrow
      clear ho hrow HO
      go_wp2
      go_loopw [8, 9] (fun v t wk => ∃ k : Nat, k ≤ l.length ∧ t = .int .i64 k ∧ Hid (GOwn encV 74 wk wr.heap.size v ((l.take k).filter (stayV s l))) ∧ Hid (Below wr.heap.size wr wk)) (fun _ t _ => l.length - (intOf t).toNat)
      case atStart => exact ⟨0, Nat.zero_le _, rfl, GOwn.empty wr _ (Nat.le_refl _), (belowRefl wr).alloc (Nat.le_refl _) _⟩
      case round =>
        rename World => wk
        obtain ⟨k, hk, rfl, HN, HBk⟩ := hrel
        by_cases hkl : k < l.length
        · have hkl' : (k : Int) < (l.length : Int) := by omega
          have hk0 : (0 : Int) ≤ (k : Int) := by omega
          obtain ⟨b', off', rfl, hbl', hc'⟩ := (HL.out.below HBk.out) (by omega)
          have HPk : Hid (pcells wk b' (off' + k * 4) l[k]) := vat hc' k hkl
          clear hc'
          have hfl := filt_len (stayV s l) l k 100000000 (by omega)
          go_wp2
          go_loopw [10, 11] (fun v t wm => ∃ m : Nat, m ≤ l.length ∧ t = .int .i64 m ∧ v = .int .i64 ((cntV l[k].1 (l.take m) : Nat) : Int) ∧ Hid (Below wk.heap.size wk wm)) (fun _ t _ => l.length - (intOf t).toNat)
          case atStart => exact ⟨0, Nat.zero_le _, rfl, rfl, belowRefl wk⟩
          case round =>
            rename World => wm
            obtain ⟨m, hm, rfl, hv, HBm⟩ := hrel
            by_cases hml : m < l.length
            · have hml' : (m : Int) < (l.length : Int) := by omega
              have hm0 : (0 : Int) ≤ (m : Int) := by omega
              obtain ⟨q, hq⟩ : ∃ q, q = cntV l[k].1 (l.take m) := ⟨_, rfl⟩
              have HQ : Hid (q = cntV l[k].1 (l.take m)) := hq
              have hql : q ≤ 10000000 := by rw [hq]; refine Nat.le_trans (cntV_le _ _) ?_; rw [List.length_take]; omega
              rw [← hq] at hv
              clear hq
              subst hv
              have HRm : Hid (GRow encV wm (some ⟨b', off', none⟩) l) := (HL.out.below HBk.out).below HBm.out
              obtain ⟨b2, off2, hbo, _, hc2⟩ := HRm.out (by omega)
              cases hbo
              have r0 := (vat hc2 m hml).1
              have r1 := (vat hc2 k hkl).1
              clear hc2
              cases he : (l[m].1.toList == l[k].1.toList)
              · have HS : Hid ((q : Int) = ((cntV l[k].1 (l.take (m + 1)) : Nat) : Int)) := by show _ = _; rw [cntV_no hml he, HQ.out]
                go_wp2
                refine wp_region_held_drew (S := fun w' => w'.cell? ⟨b', off' + m * 4, none⟩ = some (.string l[m].1) ∧ w'.cell? ⟨b', off' + k * 4, none⟩ = some (.string l[k].1)) (by kernel_rfl) ⟨r0, r1⟩ (fun hHeld => ?_)
                (refine wpAnyH_take (i := 0) (v := ?_) rfl (by kernel_rfl) (by kernel_rfl) (by kernel_rfl) (fun _ _ _ h => h) (Or.inl ⟨by rfl, ?_⟩) (by assumption) ?_; rotate_left; (focus (intro w hSw; (try dsimp only at hSw); go_simp; (try with_reducible rfl); done)); simp only [Act.put, List.getElem_toArray, List.getElem_cons_zero, List.setIfInBounds_toArray, List.set_cons_zero, List.set_cons_succ])
                (refine wpAnyH_take (i := 1) (v := ?_) rfl (by kernel_rfl) (by kernel_rfl) (by kernel_rfl) (fun _ _ _ h => h) (Or.inl ⟨by rfl, ?_⟩) (by assumption) ?_; rotate_left; (focus (intro w hSw; (try dsimp only at hSw); go_simp; (try with_reducible rfl); done)); simp only [Act.put, List.getElem_toArray, List.getElem_cons_zero, List.getElem_cons_succ, List.setIfInBounds_toArray, List.set_cons_zero, List.set_cons_succ])
                (refine wpAnyH_take (i := 2) (v := ?_) rfl (by kernel_rfl) (by kernel_rfl) (by kernel_rfl) (fun _ _ _ h => h) (Or.inl ⟨by rfl, ?_⟩) (by assumption) ?_; rotate_left; (focus (intro w hSw; (try dsimp only at hSw); go_simp; (try with_reducible rfl); done)); simp only [Act.put, List.getElem_toArray, List.getElem_cons_zero, List.getElem_cons_succ, List.setIfInBounds_toArray, List.set_cons_zero, List.set_cons_succ])
                (refine wpAnyH_take (i := 3) (v := ?_) rfl (by kernel_rfl) (by kernel_rfl) (by kernel_rfl) (fun _ _ _ h => h) (Or.inl ⟨by rfl, ?_⟩) (by assumption) ?_; rotate_left; (focus (intro w hSw; (try dsimp only at hSw); go_simp; (try with_reducible rfl); done)); simp only [Act.put, List.getElem_toArray, List.getElem_cons_zero, List.getElem_cons_succ, List.setIfInBounds_toArray, List.set_cons_zero, List.set_cons_succ])
                (refine wpAnyH_take (i := 4) (v := ?_) rfl (by kernel_rfl) (by kernel_rfl) (by kernel_rfl) (fun _ _ _ h => h) (Or.inl ⟨by rfl, ?_⟩) (by assumption) ?_; rotate_left; (focus (intro w hSw; (try dsimp only at hSw); go_simp; (try with_reducible rfl); done)); simp only [Act.put, List.getElem_toArray, List.getElem_cons_zero, List.getElem_cons_succ, List.setIfInBounds_toArray, List.set_cons_zero, List.set_cons_succ])
                (refine wpAnyH_take (i := 5) (v := ?_) rfl (by kernel_rfl) (by kernel_rfl) (by kernel_rfl) (fun _ _ _ h => h) (Or.inl ⟨by rfl, ?_⟩) (by assumption) ?_; rotate_left; (focus (intro w hSw; (try dsimp only at hSw); go_simp; (try with_reducible rfl); done)); simp only [Act.put, List.getElem_toArray, List.getElem_cons_zero, List.getElem_cons_succ, List.setIfInBounds_toArray, List.set_cons_zero, List.set_cons_succ])
                (refine wpAnyH_take (i := 6) (v := ?_) rfl (by kernel_rfl) (by kernel_rfl) (by kernel_rfl) (fun _ _ _ h => h) (Or.inl ⟨by rfl, ?_⟩) (by assumption) ?_; rotate_left; (focus (intro w hSw; (try dsimp only at hSw); go_simp; (try with_reducible rfl); done)); simp only [Act.put, List.getElem_toArray, List.getElem_cons_zero, List.getElem_cons_succ, List.setIfInBounds_toArray, List.set_cons_zero, List.set_cons_succ])
                (refine wpAnyH_take (i := 7) (v := ?_) rfl (by kernel_rfl) (by kernel_rfl) (by kernel_rfl) (fun _ _ _ h => h) (Or.inl ⟨by rfl, ?_⟩) (by assumption) ?_; rotate_left; (focus (intro w hSw; (try dsimp only at hSw); go_simp; (try with_reducible rfl); done)); simp only [Act.put, List.getElem_toArray, List.getElem_cons_zero, List.getElem_cons_succ, List.setIfInBounds_toArray, List.set_cons_zero, List.set_cons_succ])
                (refine wpAnyH_take (i := 8) (v := ?_) rfl (by kernel_rfl) (by kernel_rfl) (by kernel_rfl) (fun _ _ _ h => h) (Or.inl ⟨by rfl, ?_⟩) (by assumption) ?_; rotate_left; (focus (intro w hSw; (try dsimp only at hSw); go_simp; (try with_reducible rfl); done)); simp only [Act.put, List.getElem_toArray, List.getElem_cons_zero, List.getElem_cons_succ, List.setIfInBounds_toArray, List.set_cons_zero, List.set_cons_succ])
                (refine wpAnyH_take (i := 9) (v := ?_) rfl (by kernel_rfl) (by kernel_rfl) (by kernel_rfl) (fun _ _ _ h => h) (Or.inl ⟨by rfl, ?_⟩) (by assumption) ?_; rotate_left; (focus (intro w hSw; (try dsimp only at hSw); go_simp; (try with_reducible rfl); done)); simp only [Act.put, List.getElem_toArray, List.getElem_cons_zero, List.getElem_cons_succ, List.setIfInBounds_toArray, List.set_cons_zero, List.set_cons_succ])
                (refine wpAnyH_take (i := 10) (v := ?_) rfl (by kernel_rfl) (by kernel_rfl) (by kernel_rfl) (fun _ _ _ h => h) (Or.inl ⟨by rfl, ?_⟩) (by assumption) ?_; rotate_left; (focus (intro w hSw; (try dsimp only at hSw); go_simp; (try with_reducible rfl); done)); simp only [Act.put, List.getElem_toArray, List.getElem_cons_zero, List.getElem_cons_succ, List.setIfInBounds_toArray, List.set_cons_zero, List.set_cons_succ])
                refine wpAnyH_done (by kernel_rfl) ?_ _
                go_wp2
                go_roundw
                case rel => exact ⟨m + 1, by omega, by go_num, by rw [HS.out], HBm.out.drew⟩
                case measure => simp [intOf]; omega
              · have HS : Hid ((q : Int) + 1 = ((cntV l[k].1 (l.take (m + 1)) : Nat) : Int)) := by show _ = _; rw [cntV_yes hml he, HQ.out]; omega
                go_wp2
                refine wp_region_held_drew (S := fun w' => w'.cell? ⟨b', off' + m * 4, none⟩ = some (.string l[m].1) ∧ w'.cell? ⟨b', off' + k * 4, none⟩ = some (.string l[k].1)) (by kernel_rfl) ⟨r0, r1⟩ (fun hHeld => ?_)
                (refine wpAnyH_take (i := 0) (v := ?_) rfl (by kernel_rfl) (by kernel_rfl) (by kernel_rfl) (fun _ _ _ h => h) (Or.inl ⟨by rfl, ?_⟩) (by assumption) ?_; rotate_left; (focus (intro w hSw; (try dsimp only at hSw); go_simp; (try with_reducible rfl); done)); simp only [Act.put, List.getElem_toArray, List.getElem_cons_zero, List.setIfInBounds_toArray, List.set_cons_zero, List.set_cons_succ])
                (refine wpAnyH_take (i := 1) (v := ?_) rfl (by kernel_rfl) (by kernel_rfl) (by kernel_rfl) (fun _ _ _ h => h) (Or.inl ⟨by rfl, ?_⟩) (by assumption) ?_; rotate_left; (focus (intro w hSw; (try dsimp only at hSw); go_simp; (try with_reducible rfl); done)); simp only [Act.put, List.getElem_toArray, List.getElem_cons_zero, List.getElem_cons_succ, List.setIfInBounds_toArray, List.set_cons_zero, List.set_cons_succ])
                (refine wpAnyH_take (i := 2) (v := ?_) rfl (by kernel_rfl) (by kernel_rfl) (by kernel_rfl) (fun _ _ _ h => h) (Or.inl ⟨by rfl, ?_⟩) (by assumption) ?_; rotate_left; (focus (intro w hSw; (try dsimp only at hSw); go_simp; (try with_reducible rfl); done)); simp only [Act.put, List.getElem_toArray, List.getElem_cons_zero, List.getElem_cons_succ, List.setIfInBounds_toArray, List.set_cons_zero, List.set_cons_succ])
                (refine wpAnyH_take (i := 3) (v := ?_) rfl (by kernel_rfl) (by kernel_rfl) (by kernel_rfl) (fun _ _ _ h => h) (Or.inl ⟨by rfl, ?_⟩) (by assumption) ?_; rotate_left; (focus (intro w hSw; (try dsimp only at hSw); go_simp; (try with_reducible rfl); done)); simp only [Act.put, List.getElem_toArray, List.getElem_cons_zero, List.getElem_cons_succ, List.setIfInBounds_toArray, List.set_cons_zero, List.set_cons_succ])
                (refine wpAnyH_take (i := 4) (v := ?_) rfl (by kernel_rfl) (by kernel_rfl) (by kernel_rfl) (fun _ _ _ h => h) (Or.inl ⟨by rfl, ?_⟩) (by assumption) ?_; rotate_left; (focus (intro w hSw; (try dsimp only at hSw); go_simp; (try with_reducible rfl); done)); simp only [Act.put, List.getElem_toArray, List.getElem_cons_zero, List.getElem_cons_succ, List.setIfInBounds_toArray, List.set_cons_zero, List.set_cons_succ])
                (refine wpAnyH_take (i := 5) (v := ?_) rfl (by kernel_rfl) (by kernel_rfl) (by kernel_rfl) (fun _ _ _ h => h) (Or.inl ⟨by rfl, ?_⟩) (by assumption) ?_; rotate_left; (focus (intro w hSw; (try dsimp only at hSw); go_simp; (try with_reducible rfl); done)); simp only [Act.put, List.getElem_toArray, List.getElem_cons_zero, List.getElem_cons_succ, List.setIfInBounds_toArray, List.set_cons_zero, List.set_cons_succ])
                (refine wpAnyH_take (i := 6) (v := ?_) rfl (by kernel_rfl) (by kernel_rfl) (by kernel_rfl) (fun _ _ _ h => h) (Or.inl ⟨by rfl, ?_⟩) (by assumption) ?_; rotate_left; (focus (intro w hSw; (try dsimp only at hSw); go_simp; (try with_reducible rfl); done)); simp only [Act.put, List.getElem_toArray, List.getElem_cons_zero, List.getElem_cons_succ, List.setIfInBounds_toArray, List.set_cons_zero, List.set_cons_succ])
                (refine wpAnyH_take (i := 7) (v := ?_) rfl (by kernel_rfl) (by kernel_rfl) (by kernel_rfl) (fun _ _ _ h => h) (Or.inl ⟨by rfl, ?_⟩) (by assumption) ?_; rotate_left; (focus (intro w hSw; (try dsimp only at hSw); go_simp; (try with_reducible rfl); done)); simp only [Act.put, List.getElem_toArray, List.getElem_cons_zero, List.getElem_cons_succ, List.setIfInBounds_toArray, List.set_cons_zero, List.set_cons_succ])
                (refine wpAnyH_take (i := 8) (v := ?_) rfl (by kernel_rfl) (by kernel_rfl) (by kernel_rfl) (fun _ _ _ h => h) (Or.inl ⟨by rfl, ?_⟩) (by assumption) ?_; rotate_left; (focus (intro w hSw; (try dsimp only at hSw); go_simp; (try with_reducible rfl); done)); simp only [Act.put, List.getElem_toArray, List.getElem_cons_zero, List.getElem_cons_succ, List.setIfInBounds_toArray, List.set_cons_zero, List.set_cons_succ])
                (refine wpAnyH_take (i := 9) (v := ?_) rfl (by kernel_rfl) (by kernel_rfl) (by kernel_rfl) (fun _ _ _ h => h) (Or.inl ⟨by rfl, ?_⟩) (by assumption) ?_; rotate_left; (focus (intro w hSw; (try dsimp only at hSw); go_simp; (try with_reducible rfl); done)); simp only [Act.put, List.getElem_toArray, List.getElem_cons_zero, List.getElem_cons_succ, List.setIfInBounds_toArray, List.set_cons_zero, List.set_cons_succ])
                (refine wpAnyH_take (i := 10) (v := ?_) rfl (by kernel_rfl) (by kernel_rfl) (by kernel_rfl) (fun _ _ _ h => h) (Or.inl ⟨by rfl, ?_⟩) (by assumption) ?_; rotate_left; (focus (intro w hSw; (try dsimp only at hSw); go_simp; (try with_reducible rfl); done)); simp only [Act.put, List.getElem_toArray, List.getElem_cons_zero, List.getElem_cons_succ, List.setIfInBounds_toArray, List.set_cons_zero, List.set_cons_succ])
                refine wpAnyH_done (by kernel_rfl) ?_ _
                go_wp2
                go_roundw
                case rel => exact ⟨m + 1, by omega, by go_num, by rw [HS.out], HBm.out.drew⟩
                case measure => simp [intOf]; omega
            · have hml' : ¬ (m : Int) < (l.length : Int) := by omega
              have hmn : m = l.length := by omega
              subst hmn
              obtain ⟨q, hq⟩ : ∃ q, q = cntV l[k].1 l := ⟨_, rfl⟩
              have hq1 : 1 ≤ q := by rw [hq]; exact cntV_pos hkl
              have HSt : Hid (stayV s l l[k] = !(decide (l[k].2.2.2 ≤ s) && l[k].2.2.1 && (q == 1))) := by show _ = _; unfold stayV; rw [hq]
              rw [List.take_length, ← hq] at hv
              clear hq
              subst hv
              have HNm := hide (HN.out.below HBm.out)
              have HBf : Hid (Below wr.heap.size wr wm) := HBk.out.trans (HBm.out.mono HBk.out.size)
              have P2 := HPk.out.below' hbl' HBm.out
              have d0 := P2.1
              have d1 := P2.2.1
              have d2 := P2.2.2.1
              have d3 := P2.2.2.2
              clear P2
              obtain ⟨g, hg⟩ : ∃ g, l[k].2.2.1 = g := ⟨_, rfl⟩
              rw [hg] at d2 HSt
              cases g
              · have HEl : Hid (l[k] = (l[k].1, l[k].2.1, false, l[k].2.2.2)) := by show _ = _; rw [← hg]
                clear hg
                have HY : Hid (stayV s l l[k] = true) := by show _ = _; rw [HSt.out]; simp
                go_wp2_with (at_builtin; refine wpAppV rfl _ _ rfl (l[k].1, l[k].2.1, false, l[k].2.2.2) rfl HNm.out rfl hfl HBf.out.size ?_)
                intro v' w' ho' hb'
                have HN3 : Hid (GOwn encV 74 w' wr.heap.size v' ((l.take (k + 1)).filter (stayV s l))) := by
                  show GOwn _ _ _ _ _ _
                  rw [filter_yes hkl HY.out, HEl.out]; exact ho'
                have HB3 : Hid (Below wr.heap.size wr w') := HBf.out.trans hb'
                clear ho' hb'
                go_wp2
                go_roundw
                case rel => exact ⟨k + 1, by omega, by go_num, HN3, HB3⟩
                case measure => simp [intOf]; omega
              · have HEl : Hid (l[k] = (l[k].1, l[k].2.1, true, l[k].2.2.2)) := by show _ = _; rw [← hg]
                clear hg
                by_cases hcs : s < l[k].2.2.2
                · have HY : Hid (stayV s l l[k] = true) := by show _ = _; rw [HSt.out, decide_eq_false (by omega : ¬ l[k].2.2.2 ≤ s)]; rfl
                  go_wp2_with (at_builtin; refine wpAppV rfl _ _ rfl (l[k].1, l[k].2.1, true, l[k].2.2.2) rfl HNm.out rfl hfl HBf.out.size ?_)
                  intro v' w' ho' hb'
                  have HN3 : Hid (GOwn encV 74 w' wr.heap.size v' ((l.take (k + 1)).filter (stayV s l))) := by
                    show GOwn _ _ _ _ _ _
                    rw [filter_yes hkl HY.out, HEl.out]; exact ho'
                  have HB3 : Hid (Below wr.heap.size wr w') := HBf.out.trans hb'
                  clear ho' hb'
                  go_wp2
                  go_roundw
                  case rel => exact ⟨k + 1, by omega, by go_num, HN3, HB3⟩
                  case measure => simp [intOf]; omega
                · have hcs' : decide (s < l[k].2.2.2) = false := by simpa using hcs
                  by_cases hq2 : q = 1
                  · have HNo : Hid (stayV s l l[k] = false) := by show _ = _; rw [HSt.out, decide_eq_true (by omega : l[k].2.2.2 ≤ s), hq2]; rfl
                    have ho2 := HNm.out
                    rw [← filter_no hkl HNo.out] at ho2
                    have HN3 := hide ho2
                    have hq3 : ¬ (1 : Int) < (q : Int) := by omega
                    have hq4 : decide ((1 : Int) < (q : Int)) = false := by simpa using hq3
                    clear ho2 hq2 hcs
                    go_wp2
                    go_roundw
                    case rel => exact ⟨k + 1, by omega, by go_num, HN3, HBf⟩
                    case measure => simp [intOf]; omega
                  · have HY : Hid (stayV s l l[k] = true) := by show _ = _; rw [HSt.out, beq_eq_false_iff_ne.2 hq2]; simp
                    have hq3 : (1 : Int) < (q : Int) := by omega
                    have hq4 : decide ((1 : Int) < (q : Int)) = true := by simpa using hq3
                    go_wp2_with (at_builtin; refine wpAppV rfl _ _ rfl (l[k].1, l[k].2.1, true, l[k].2.2.2) rfl HNm.out rfl hfl HBf.out.size ?_)
                    intro v' w' ho' hb'
                    have HN3 : Hid (GOwn encV 74 w' wr.heap.size v' ((l.take (k + 1)).filter (stayV s l))) := by
                      show GOwn _ _ _ _ _ _
                      rw [filter_yes hkl HY.out, HEl.out]; exact ho'
                    have HB3 : Hid (Below wr.heap.size wr w') := HBf.out.trans hb'
                    clear ho' hb'
                    go_wp2
                    go_roundw
                    case rel => exact ⟨k + 1, by omega, by go_num, HN3, HB3⟩
                    case measure => simp [intOf]; omega
        · have hkl' : ¬ (k : Int) < (l.length : Int) := by omega
          have ho := HN.out
          rw [List.take_of_length_le (by omega), ← HTr.out] at ho
          obtain ⟨a1, c1, rfl, _⟩ := ho.row
          have HO1 : Hid (GOwn encV 74 wk w.heap.size (.slice a1 (trimB s vs).length c1) (trimB s vs)) := ho.mono HB.out.size
          have HB3 : Hid (Below w.heap.size w wk) := HB.out.trans (HBk.out.mono HB.out.size)
          clear ho HN
          go_wp2
          go_ret
          exact ⟨a1, c1, rfl, HO1.out, HB3.out⟩
end Go.Proofs.Ytnlfojaflgehbaa

/- What slices.Insert does of one write, within a row. -/
import Derived.Test.YthlfddbijlfgeaaQ2
namespace Go.Proofs.Ythlfddbijlfgeaa
open Go.RowKit
open KM
attribute [local go_sem ↓] Go.wp_at_zero Go.wp_at_succ

set_option maxRecDepth 100000 in
set_option maxHeartbeats 2000000 in
/-- there is room -/
theorem insRoom (xs : List Wt) (x : Wt) (g c vb i : Nat) (cur : Array Value) (hn : xs.length ≤ 1000000) (hi : i < xs.length) (hroom : xs.length + 1 ≤ c) (_hcp : c ≤ 9223372036854775807) (w : World)
    (hh : w.heap[g]? = some (.cells cur 34 (0, 0))) (hcs : cur.size = c * 3) (ht : cur.toList.take (xs.length * 3) = encW.cells xs) (hx : OneW w vb x) (hne : vb ≠ g) :
    Calls Try.prog 61 #[.slice (some ⟨g, 0, none⟩) xs.length c, .int .i64 (i : Int), .slice (some ⟨vb, 0, none⟩) 1 1] w fun e w' => ∃ cur' : Array Value, e = .returned (.slice (some ⟨g, 0, none⟩) (xs.length + 1) c) ∧ w'.heap[g]? = some (.cells cur' 34 (0, 0)) ∧ cur'.size = c * 3 ∧ cur'.toList.take ((xs.length + 1) * 3) = encW.cells (insAt xs i x) ∧ w.grownBy w' (some g) := by
  have hov : ∀ lb cb, (callFunc 69 #[.slice (some ⟨vb, 0, none⟩) 1 1, .slice (some ⟨g, (i + 1) * 3, none⟩) lb cb]).run Try.prog w = .ok (.value (.bool false)) w := fun lb cb => by
    rw [run_callFunc_extern Try.func69 (by kernel_rfl) (by kernel_rfl) (by kernel_rfl) (e := Extern.SlicesOverlaps.overlaps #[30, 30] #[4]) (by kernel_rfl),
      Lib.run_overlaps_apart w 30 4 34 Try.underlying30 3 (fun w => by kernel_rfl) ⟨vb, 0, none⟩ ⟨g, (i + 1) * 3, none⟩ 1 1 lb cb hne 34 34 3 (c * 3) (by unfold OneW at hx; simp [World.shape?, hx]) (by simp [World.shape?, hh, hcs]) (by omega) (by unfold OneW at hx; simp [World.frozen?, hx]) (by unfold OneW at hx; simp [World.frozen?, hx])]
    rfl
  have HH : Hid (w.heap[g]? = some (.cells cur 34 (0, 0))) := hh
  have HX : Hid (OneW w vb x) := hx
  have HCS : Hid (cur.size = c * 3) := hcs
  have HT : Hid (cur.toList.take (xs.length * 3) = encW.cells xs) := ht
  clear hh hx hcs ht
  obtain ⟨n, hxn⟩ : ∃ n, n = xs.length := ⟨_, rfl⟩
  have HN : Hid (n = xs.length) := hxn
  rw [← hxn] at hn hi hroom ⊢
  clear hxn
  have f0 : (0 : Int) ≤ (i : Int) := by omega
  have f1 : (i : Int) ≤ (n : Int) := by omega
  have f2 : ¬ ((i : Int) = (n : Int)) := by omega
  have f3 : ¬ (c : Int) < (n : Int) + 1 := by omega
  have f4 : ¬ (c = i) := by omega
  have f5 : ¬ (c = i + 1) := by omega
  have f6 : IntKind.i64.wrap ((i : Int) + 1) = ((i + 1 : Nat) : Int) := by rw [IntKind.wrap_i64]; omega
  have f7 : IntKind.i64.wrap ((n : Int) + 1) = ((n + 1 : Nat) : Int) := by rw [IntKind.wrap_i64]; omega
  have f8 : ((i + 1 : Nat) : Int) ≤ ((n + 1 : Nat) : Int) := by omega
  go_enter Try.func61, Try.ntmps61
  go_wp2_with (simp only [hov])
  have hle : n ≤ c := by omega
  have f9 : (0 : Int) ≤ (i : Int) + 1 := by omega
  have f10 : (i : Int) ≤ (n : Int) + 1 := by omega
  have HD : Hid ((encW.cells (xs.drop i)).length = (n - i) * 3) := by show _ = _; rw [encW.cells_len, List.length_drop, ← HN.out]; rfl
  have HCP1 : Hid (∀ ty dc sc, (Builtin.copy_ #[30, 30] ty #[.slice (some ⟨g, (i + 1) * 3, none⟩) (n - i) dc, .slice (some ⟨g, i * 3, none⟩) (n + 1 - i) sc]).run Try.prog w.drew = .ok (goInt (Nat.min (n + 1 - i) (n - i))) (w.drew.setRow g (cur.toList.take ((i + 1) * 3) ++ encW.cells (xs.drop i) ++ cur.toList.drop ((i + 1) * 3 + (encW.cells (xs.drop i)).length)).toArray)) := fun ty dc sc => by
    refine run_copyK w.drew 30 30 ty 34 g ((i + 1) * 3) (n - i) dc ⟨g, i * 3, none⟩ (n + 1 - i) sc 3 cur 34 (encW.cells (xs.drop i)) Try.underlying30 (by kernel_rfl) HH.out ?_ ?_ ?_ (cells_one _)
    · rw [HD.out, show Nat.min (n + 1 - i) (n - i) = n - i from Nat.min_eq_right (by omega)]
    · intro j v hj
      rw [Addr.add_lit]
      have hjl : j < (encW.cells (xs.drop i)).length := by
        rcases Nat.lt_or_ge j (encW.cells (xs.drop i)).length with h | h
        · exact h
        · rw [List.getElem?_eq_none h] at hj; cases hj
      rw [HD.out] at hjl
      have e : (w.drew).cell? ⟨g, i * 3 + j, none⟩ = cur.toList[i * 3 + j]? := by
        show w.cell? _ = _
        simp [World.cell?, HH.out]
      rw [e, ← hj, ← cells_drop xs i (by rw [← HN.out]; omega), ← HT.out, List.getElem?_drop, List.getElem?_take, if_pos (by rw [← HN.out]; omega)]
    · rw [HD.out, HCS.out]
      omega
  refine wp_region_held_drew (S := fun w' => True) (by kernel_rfl) trivial (fun hHeld => ?_)
  (refine wpAnyH_take (i := 0) (v := ?_) rfl (by kernel_rfl) (by kernel_rfl) (by kernel_rfl) (fun _ _ _ h => h) (Or.inl ⟨by rfl, ?_⟩) (by assumption) ?_; rotate_left; (focus (intro w hSw; (try dsimp only at hSw); go_simp; (try with_reducible rfl); done)); simp only [Act.put, List.getElem_toArray, List.getElem_cons_zero, List.setIfInBounds_toArray, List.set_cons_zero, List.set_cons_succ])
  (refine wpAnyH_take (i := 1) (v := ?_) rfl (by kernel_rfl) (by kernel_rfl) (by kernel_rfl) (fun _ _ _ h => h) (Or.inl ⟨by rfl, ?_⟩) (by assumption) ?_; rotate_left; (focus (intro w hSw; (try dsimp only at hSw); go_simp; (try with_reducible rfl); done)); simp only [Act.put, List.getElem_toArray, List.getElem_cons_zero, List.getElem_cons_succ, List.setIfInBounds_toArray, List.set_cons_zero, List.set_cons_succ])
  (refine wpAnyH_take (i := 2) (v := ?_) rfl (by kernel_rfl) (by kernel_rfl) (by kernel_rfl) (fun _ _ _ h => h) (Or.inl ⟨by rfl, ?_⟩) (by assumption) ?_; rotate_left; (focus (intro w hSw; (try dsimp only at hSw); go_simp; (try with_reducible rfl); done)); simp only [Act.put, List.getElem_toArray, List.getElem_cons_zero, List.getElem_cons_succ, List.setIfInBounds_toArray, List.set_cons_zero, List.set_cons_succ])
  (refine wpAnyH_take (i := 3) (v := ?_) rfl (by kernel_rfl) (by kernel_rfl) (by kernel_rfl) (fun _ _ _ h => h) (Or.inl ⟨by rfl, ?_⟩) (by assumption) ?_; rotate_left; (focus (intro w hSw; (try dsimp only at hSw); go_simp; (try with_reducible rfl); done)); simp only [Act.put, List.getElem_toArray, List.getElem_cons_zero, List.getElem_cons_succ, List.setIfInBounds_toArray, List.set_cons_zero, List.set_cons_succ])
  (refine wpAnyH_take (i := 4) (v := ?_) rfl (by kernel_rfl) (by kernel_rfl) (by kernel_rfl) (fun _ _ _ h => h) (Or.inl ⟨by rfl, ?_⟩) (by assumption) ?_; rotate_left; (focus (intro w hSw; (try dsimp only at hSw); go_simp; (try with_reducible rfl); done)); simp only [Act.put, List.getElem_toArray, List.getElem_cons_zero, List.getElem_cons_succ, List.setIfInBounds_toArray, List.set_cons_zero, List.set_cons_succ])
  (refine wpAnyH_take (i := 5) (v := ?_) rfl (by kernel_rfl) (by kernel_rfl) (by kernel_rfl) (fun _ _ _ h => h) (Or.inl ⟨by rfl, ?_⟩) (by assumption) ?_; rotate_left; (focus (intro w hSw; (try dsimp only at hSw); go_simp; (try with_reducible rfl); done)); simp only [Act.put, List.getElem_toArray, List.getElem_cons_zero, List.getElem_cons_succ, List.setIfInBounds_toArray, List.set_cons_zero, List.set_cons_succ])
  (refine wpAnyH_take (i := 6) (v := ?_) rfl (by kernel_rfl) (by kernel_rfl) (by kernel_rfl) (fun _ _ _ h => h) (Or.inl ⟨by rfl, ?_⟩) (by assumption) ?_; rotate_left; (focus (intro w hSw; (try dsimp only at hSw); go_simp; (try with_reducible rfl); done)); simp only [Act.put, List.getElem_toArray, List.getElem_cons_zero, List.getElem_cons_succ, List.setIfInBounds_toArray, List.set_cons_zero, List.set_cons_succ])
  (refine wpAnyH_take (i := 7) (v := ?_) rfl (by kernel_rfl) (by kernel_rfl) (by kernel_rfl) (fun _ _ _ h => h) (Or.inl ⟨by rfl, ?_⟩) (by assumption) ?_; rotate_left; (focus (intro w hSw; (try dsimp only at hSw); go_simp; (try with_reducible rfl); done)); simp only [Act.put, List.getElem_toArray, List.getElem_cons_zero, List.getElem_cons_succ, List.setIfInBounds_toArray, List.set_cons_zero, List.set_cons_succ])
  refine wpAnyH_ready (rs := [8]) (by kernel_rfl) (by simp) ?_
  refine AllReadyH.cons rfl (fun K hK => ?_) AllReadyH.nil
  refine step_copyK rfl _ _ 30 30 rfl _ _ rfl rfl (HCP1.out _ _ _) ?_
  refine hK.out _ _ trivial (fun hHeld2 => ?_)
  clear hK K hHeld hHeld2
  refine wpAnyH_done (by kernel_rfl) ?_ _
  obtain ⟨R1, hR1⟩ : ∃ R1 : Array Value, R1 = (cur.toList.take ((i + 1) * 3) ++ encW.cells (xs.drop i) ++ cur.toList.drop ((i + 1) * 3 + (encW.cells (xs.drop i)).length)).toArray := ⟨_, rfl⟩
  rw [← hR1]
  have HW1 : Hid ((w.drew.setRow g R1).heap[g]? = some (.cells R1 34 (0, 0))) := setRow_heap w.drew g cur R1 34 (0, 0) HH.out
  have HV1 : Hid (OneW (w.drew.setRow g R1) vb x) := (setRow_other w.drew g vb R1 hne).trans HX.out
  have HG1 : Hid (w.grownBy (w.drew.setRow g R1) (some g)) := ⟨rfl, rfl, rfl, by simp, fun j _ hj => setRow_other w.drew g j R1 (fun e => hj (by rw [e]))⟩
  have HRL : Hid (R1.size = c * 3) := by
    show R1.size = c * 3
    rw [hR1]
    simp only [List.size_toArray, List.length_append, List.length_take, List.length_drop, HD.out, Array.length_toList, HCS.out]
    omega
  have HR : Hid (∀ r2 : List Value, r2 = R1.toList.take (i * 3) ++ encW.enc x ++ R1.toList.drop (i * 3 + (encW.enc x).length) → r2.length = c * 3 ∧ r2.take ((n + 1) * 3) = encW.cells (insAt xs i x)) := fun r2 h2 => by
    have h := row_put cur.toList xs x i c (by rw [← HN.out]; omega) (by rw [Array.length_toList]; exact HCS.out) (by rw [← HN.out]; exact hroom) HT.out
    rw [← HN.out] at h
    rw [h2, hR1]
    exact h
  clear hR1
  generalize w.drew.setRow g R1 = W1 at *
  have HCP2 : Hid (∀ ty dc, (Builtin.copy_ #[30, 30] ty #[.slice (some ⟨g, i * 3, none⟩) (n + 1 - i) dc, .slice (some ⟨vb, 0, none⟩) 1 1]).run Try.prog W1 = .ok (goInt (Nat.min 1 (n + 1 - i))) (W1.setRow g (R1.toList.take (i * 3) ++ encW.enc x ++ R1.toList.drop (i * 3 + (encW.enc x).length)).toArray)) := fun ty dc => by
    refine run_copyK W1 30 30 ty 34 g (i * 3) (n + 1 - i) dc ⟨vb, 0, none⟩ 1 1 3 R1 34 (encW.enc x) Try.underlying30 (by kernel_rfl) HW1.out ?_ ?_ ?_ wone
    · rw [show Nat.min 1 (n + 1 - i) = 1 from Nat.min_eq_left (by omega)]; rfl
    · intro j v hj
      rw [Addr.add_lit, Nat.zero_add]
      have h := HV1.out
      unfold OneW at h
      simp only [World.cell?, h]
      rw [← hj]
      simp [encW]
    · rw [HRL.out]
      show i * 3 + 3 ≤ _
      omega
  go_wp2
  rw [HCP2.out]
  obtain ⟨R2, hR2⟩ : ∃ R2 : List Value, R2 = R1.toList.take (i * 3) ++ encW.enc x ++ R1.toList.drop (i * 3 + (encW.enc x).length) := ⟨_, rfl⟩
  rw [← hR2]
  have HF : Hid (R2.length = c * 3 ∧ R2.take ((n + 1) * 3) = encW.cells (insAt xs i x)) := HR.out R2 hR2
  have HW2 : Hid ((W1.setRow g R2.toArray).heap[g]? = some (.cells R2.toArray 34 (0, 0))) := setRow_heap W1 g R1 R2.toArray 34 (0, 0) HW1.out
  have HG2 : Hid (w.grownBy (W1.setRow g R2.toArray) (some g)) := grown_trans HG1.out ⟨rfl, rfl, rfl, by simp, fun j _ hj => setRow_other W1 g j R2.toArray (fun e => hj (by rw [e]))⟩
  clear hR2
  generalize W1.setRow g R2.toArray = W2 at *
  go_wp2
  go_ret
  exact ⟨R2.toArray, rfl, HW2.out, by simpa using HF.out.1, by simpa using HF.out.2, HG2.out⟩
end Go.Proofs.Ythlfddbijlfgeaa

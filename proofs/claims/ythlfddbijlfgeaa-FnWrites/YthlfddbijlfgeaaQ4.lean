/- What slices.Insert does of one write, where there is no room. -/
import Derived.Test.YthlfddbijlfgeaaQ3
namespace Go.Proofs.Ythlfddbijlfgeaa
open Go.RowKit
open KM
attribute [local go_sem ↓] Go.wp_at_zero Go.wp_at_succ

/-- the new row behind both copies -/
theorem row_put2 (R0 : List Value) (xs : List Wt) (x : Wt) (i G : Nat) (hi : i ≤ xs.length) (hc : R0.length = G * 3) (hG : xs.length + 1 ≤ G) (ht : R0.take (i * 3) = encW.cells (xs.take i)) :
    let r1 := R0.take (i * 3) ++ encW.enc x ++ R0.drop (i * 3 + (encW.enc x).length)
    let r2 := r1.take ((i + 1) * 3) ++ encW.cells (xs.drop i) ++ r1.drop ((i + 1) * 3 + (encW.cells (xs.drop i)).length)
    r1.length = G * 3 ∧ r2.length = G * 3 ∧ r2.take ((xs.length + 1) * 3) = encW.cells (insAt xs i x) := by
  have hdl : (encW.cells (xs.drop i)).length = (xs.length - i) * 3 := by rw [encW.cells_len, List.length_drop]; rfl
  have hxl : (encW.enc x).length = 3 := rfl
  have hAl : (encW.cells (xs.take i)).length = i * 3 := by rw [encW.cells_len, List.length_take, Nat.min_eq_left hi]; rfl
  intro r1 r2
  have e0 : r1 = encW.cells (xs.take i) ++ encW.enc x ++ R0.drop (i * 3 + 3) := by
    show R0.take (i * 3) ++ encW.enc x ++ R0.drop (i * 3 + 3) = _
    rw [ht]
  have hl1 : r1.length = G * 3 := by
    rw [e0]
    simp only [List.length_append, List.length_drop, hxl, hAl, hc]
    omega
  have e1 : r1.take ((i + 1) * 3) = encW.cells (xs.take i) ++ encW.enc x := by
    rw [e0, List.take_left']
    simp only [List.length_append, hxl, hAl]
    omega
  have e3 : r2 = encW.cells (insAt xs i x) ++ r1.drop ((i + 1) * 3 + (encW.cells (xs.drop i)).length) := by
    show r1.take ((i + 1) * 3) ++ encW.cells (xs.drop i) ++ _ = _
    rw [e1, cells_ins]
  refine ⟨hl1, ?_, ?_⟩
  · rw [e3, cells_ins]
    simp only [List.length_append, List.length_drop, hdl, hxl, hAl, hl1]
    omega
  · rw [e3, List.take_left']
    rw [encW.cells_len, insAt_len]
    rfl

set_option maxRecDepth 100000 in
set_option maxHeartbeats 2000000 in
/-- there is no room -/
theorem insGrow (xs : List Wt) (x : Wt) (g c vb i : Nat) (hn : xs.length ≤ 1000000) (hi : i < xs.length) (hnc : xs.length ≤ c) (hroom : c < xs.length + 1) (w : World)
    (hr : ∀ j v, (encW.cells xs)[j]? = some v → w.cell? ⟨g, j, none⟩ = some v) (hgl : g < w.heap.size) (hx : OneW w vb x) :
    Calls Try.prog 61 #[.slice (some ⟨g, 0, none⟩) xs.length c, .int .i64 (i : Int), .slice (some ⟨vb, 0, none⟩) 1 1] w fun e w' => ∃ (cur' : Array Value) (G : Nat), e = .returned (.slice (some ⟨w.heap.size, 0, none⟩) (xs.length + 1) G) ∧ G ≤ maxLen ∧ xs.length + 1 ≤ G ∧ w'.heap[w.heap.size]? = some (.cells cur' 34 (0, 0)) ∧ cur'.size = G * 3 ∧ cur'.toList.take ((xs.length + 1) * 3) = encW.cells (insAt xs i x) ∧ Below w.heap.size w w' := by
  have hvl : vb < w.heap.size := by
    unfold OneW at hx
    exact (Array.getElem?_eq_some_iff.1 hx).1
  have HR : Hid (∀ j v, (encW.cells xs)[j]? = some v → w.cell? ⟨g, j, none⟩ = some v) := hr
  have HX : Hid (OneW w vb x) := hx
  clear hr hx
  obtain ⟨n, hxn⟩ : ∃ n, n = xs.length := ⟨_, rfl⟩
  have HN : Hid (n = xs.length) := hxn
  rw [← hxn] at hn hi hroom hnc ⊢
  clear hxn
  obtain ⟨i0, hi0, hz0, hzs, hzb⟩ := info_parts Try.info34
  have hik : i + (n + 1 - i) = n + 1 := by omega
  have hold : (Builtin.firstCells i0.size i (.slice (some ⟨g, 0, none⟩) i c)).run Try.prog w.drew = .ok (encW.cells (xs.take i)).toArray w.drew := by
    rw [hzs]
    refine run_firstCells_some w.drew 3 i ⟨g, 0, none⟩ i c (encW.cells (xs.take i)) ?_ (fun j v hj => ?_)
    · rw [encW.cells_len, List.length_take, Nat.min_eq_left (by rw [← HN.out]; omega)]; rfl
    · rw [Addr.add_lit, Nat.zero_add]
      rw [← cells_take xs i (by rw [← HN.out]; omega), List.getElem?_take] at hj
      split at hj
      · exact HR.out j v hj
      · cases hj
  obtain ⟨G, hG⟩ : ∃ G, G = grownCap w (n + 1) c 34 := ⟨_, rfl⟩
  obtain ⟨R0, hR0⟩ : ∃ R0 : Array Value, R0 = (encW.cells (xs.take i)).toArray ++ Builtin.zeroCells (Value.agg #[.string ByteArray.empty, .string ByteArray.empty, .bool false]).cells (n + 1 - i) ++ Builtin.zeroCells (Value.agg #[.string ByteArray.empty, .string ByteArray.empty, .bool false]).cells (G - (n + 1)) := ⟨_, rfl⟩
  have hrz : ∀ ty, (Builtin.append_ #[30, 3] ty #[.slice (some ⟨g, 0, none⟩) i c, .int .i64 ((n + 1 - i : Nat) : Int)]).run Try.prog w = .ok (.slice (some ⟨w.heap.size, 0, none⟩) (n + 1) G) (w.drew.alloc (.cells R0 34)) := fun ty => by
    have h := Lib.run_append_grow_zeros w 30 3 ty 34 i0 _ .i64 .i64 Try.underlying30 Try.underlying3 hi0 hz0 (some ⟨g, 0, none⟩) i c _ hold (n + 1 - i) (by omega) (by omega) (by omega) (by omega) (by rw [hzb]; omega) (by rw [hzb, hik]; exact growslice_fits hroom (by omega))
    rw [hik] at h
    rw [hR0, hG]
    exact h
  have HRZ : Hid (∀ ty, (Builtin.append_ #[30, 3] ty #[.slice (some ⟨g, 0, none⟩) i c, .int .i64 ((n + 1 - i : Nat) : Int)]).run Try.prog w = .ok (.slice (some ⟨w.heap.size, 0, none⟩) (n + 1) G) (w.drew.alloc (.cells R0 34))) := hrz
  have hGn : n + 1 ≤ G := by rw [hG]; exact grownCap_ge w _ _ _
  have HGM : Hid (G ≤ maxLen) := by show G ≤ maxLen; rw [hG]; exact grownCap_le_maxLen w (n + 1) c 34 (by unfold maxLen; omega)
  have hG63 : G ≤ 9223372036854775807 := by have := HGM.out; unfold maxLen at this; omega
  have HRS : Hid (R0.size = G * 3) := by
    show R0.size = G * 3
    rw [hR0]
    have e1 : (encW.cells (xs.take i)).length = i * 3 := by rw [encW.cells_len, List.length_take, Nat.min_eq_left (by rw [← HN.out]; omega)]; rfl
    simp [Builtin.zeroCells, Value.cells, e1]
    omega
  have HRT : Hid (R0.toList.take (i * 3) = encW.cells (xs.take i)) := by
    show R0.toList.take (i * 3) = _
    have e1 : (encW.cells (xs.take i)).length = i * 3 := by rw [encW.cells_len, List.length_take, Nat.min_eq_left (by rw [← HN.out]; omega)]; rfl
    rw [hR0]
    simp only [Array.toList_append, List.append_assoc]
    rw [List.take_left' e1]
  clear hrz hold hzs hzb hz0 hi0 hR0 hG hik
  have f0 : (0 : Int) ≤ (i : Int) := by omega
  have f1 : (i : Int) ≤ (n : Int) := by omega
  have f2 : ¬ ((i : Int) = (n : Int)) := by omega
  have f3 : (c : Int) < (n : Int) + 1 := by omega
  have f4 : ¬ (c = i) := by omega
  have f5 : (i : Int) ≤ (c : Int) := by omega
  have f6 : IntKind.i64.wrap ((n : Int) + 1 - (i : Int)) = ((n + 1 - i : Nat) : Int) := by rw [IntKind.wrap_i64]; omega
  have f7 : (n : Int) + 1 - (i : Int) = ((n + 1 - i : Nat) : Int) := by omega
  go_enter Try.func61, Try.ntmps61
  go_wp2_with (at_builtin; refine Lib.wpList_append_run _ rfl _ _ _ _ rfl _ _ rfl rfl _ _ (HRZ.out _) ?_)
  have HW1 : Hid ((w.alloc (.cells R0 34)).drew.heap[w.heap.size]? = some (.cells R0 34 (0, 0))) := heap_alloc_new w _
  have HV1 : Hid (OneW (w.alloc (.cells R0 34)).drew vb x) := (Below.heap_alloc w (.cells R0 34) vb hvl).trans HX.out
  have HB1 : Hid (Below w.heap.size w (w.alloc (.cells R0 34)).drew) := ((belowRefl w).alloc (Nat.le_refl _) _).drew
  generalize (w.alloc (.cells R0 34)).drew = W1 at *
  obtain ⟨X, hX⟩ : ∃ X, X = w.heap.size := ⟨_, rfl⟩
  rw [← hX] at HW1 ⊢
  have HXE : Hid (X = w.heap.size) := hX
  have hgX : g ≠ X := by omega
  have hvX : vb ≠ X := by omega
  clear hX
  have HR2 := row_put2 R0.toList xs x i G (by rw [← HN.out]; omega) (by rw [Array.length_toList]; exact HRS.out) (by rw [← HN.out]; exact hGn) HRT.out
  obtain ⟨R1, hR1⟩ : ∃ R1 : List Value, R1 = R0.toList.take (i * 3) ++ encW.enc x ++ R0.toList.drop (i * 3 + (encW.enc x).length) := ⟨_, rfl⟩
  have HC1 : Hid (∀ ty dc, (Builtin.copy_ #[30, 30] ty #[.slice (some ⟨X, i * 3, none⟩) (n + 1 - i) dc, .slice (some ⟨vb, 0, none⟩) 1 1]).run Try.prog W1 = .ok (goInt (Nat.min 1 (n + 1 - i))) (W1.setRow X R1.toArray)) := fun ty dc => by
    rw [hR1]
    refine run_copyK W1 30 30 ty 34 X (i * 3) (n + 1 - i) dc ⟨vb, 0, none⟩ 1 1 3 R0 34 (encW.enc x) Try.underlying30 (by kernel_rfl) HW1.out ?_ ?_ ?_ wone
    · rw [show Nat.min 1 (n + 1 - i) = 1 from Nat.min_eq_left (by omega)]; rfl
    · intro j v hj
      rw [Addr.add_lit, Nat.zero_add]
      have h := HV1.out
      unfold OneW at h
      simp only [World.cell?, h]
      rw [← hj]
      simp [encW]
    · rw [HRS.out]
      show i * 3 + 3 ≤ _
      omega
  simp only [← hR1, ← HN.out] at HR2
  have HF1 : Hid (R1.length = G * 3) := HR2.1
  have HF2 : Hid ((R1.take ((i + 1) * 3) ++ encW.cells (xs.drop i) ++ R1.drop ((i + 1) * 3 + (encW.cells (xs.drop i)).length)).length = G * 3 ∧ (R1.take ((i + 1) * 3) ++ encW.cells (xs.drop i) ++ R1.drop ((i + 1) * 3 + (encW.cells (xs.drop i)).length)).take ((n + 1) * 3) = encW.cells (insAt xs i x)) := HR2.2
  clear HR2 hR1
  rw [HC1.out]
  have HW2 : Hid ((W1.setRow X R1.toArray).heap[X]? = some (.cells R1.toArray 34 (0, 0))) := setRow_heap W1 X R0 R1.toArray 34 (0, 0) HW1.out
  have HB2 : Hid (Below w.heap.size w (W1.setRow X R1.toArray)) := HB1.out.grown ⟨rfl, rfl, rfl, by simp, fun j _ hj => setRow_other W1 X j R1.toArray (fun e => hj (by rw [e]))⟩ HB1.out.size (fun j hj => by cases hj; rw [← HXE.out]; exact Nat.le_refl _)
  generalize W1.setRow X R1.toArray = W2 at *
  have f8 : ((i + 1 : Nat) : Int) ≤ ((n + 1 : Nat) : Int) := by omega
  have f9 : (0 : Int) ≤ (i : Int) + 1 := by omega
  have f10 : (i : Int) + 1 ≤ (n : Int) + 1 := by omega
  have f11 : IntKind.i64.wrap ((i : Int) + 1) = ((i + 1 : Nat) : Int) := by rw [IntKind.wrap_i64]; omega
  have f12 : ¬ (G = i + 1) := by omega
  have f13 : ¬ (G = i) := by omega
  go_wp2
  have HD : Hid ((encW.cells (xs.drop i)).length = (n - i) * 3) := by show _ = _; rw [encW.cells_len, List.length_drop, ← HN.out]; rfl
  have HC2 : Hid (∀ ty dc sc, (Builtin.copy_ #[30, 30] ty #[.slice (some ⟨X, (i + 1) * 3, none⟩) (n - i) dc, .slice (some ⟨g, i * 3, none⟩) (n - i) sc]).run Try.prog W2.drew = .ok (goInt (Nat.min (n - i) (n - i))) (W2.drew.setRow X (R1.take ((i + 1) * 3) ++ encW.cells (xs.drop i) ++ R1.drop ((i + 1) * 3 + (encW.cells (xs.drop i)).length)).toArray)) := fun ty dc sc => by
    refine run_copyK W2.drew 30 30 ty 34 X ((i + 1) * 3) (n - i) dc ⟨g, i * 3, none⟩ (n - i) sc 3 R1.toArray 34 (encW.cells (xs.drop i)) Try.underlying30 (by kernel_rfl) HW2.out ?_ ?_ ?_ (cells_one _)
    · rw [HD.out, show Nat.min (n - i) (n - i) = n - i from Nat.min_self _]
    · intro j v hj
      rw [Addr.add_lit]
      refine (HB2.out.drew.cell (p := ⟨g, i * 3 + j, none⟩) hgl).trans (HR.out _ v ?_)
      rw [← hj, ← cells_drop xs i (by rw [← HN.out]; omega), List.getElem?_drop]
    · rw [HD.out, List.size_toArray, HF1.out]
      omega
  refine wp_region_held_drew (S := fun w' => True) (by kernel_rfl) trivial (fun hHeld => ?_)
  (refine wpAnyH_take (i := 0) (v := ?_) rfl (by kernel_rfl) (by kernel_rfl) (by kernel_rfl) (fun _ _ _ h => h) (Or.inl ⟨by rfl, ?_⟩) (by assumption) ?_; rotate_left; (focus (intro w hSw; (try dsimp only at hSw); go_simp; (try with_reducible rfl); done)); simp only [Act.put, List.getElem_toArray, List.getElem_cons_zero, List.setIfInBounds_toArray, List.set_cons_zero, List.set_cons_succ])
  (refine wpAnyH_take (i := 1) (v := ?_) rfl (by kernel_rfl) (by kernel_rfl) (by kernel_rfl) (fun _ _ _ h => h) (Or.inl ⟨by rfl, ?_⟩) (by assumption) ?_; rotate_left; (focus (intro w hSw; (try dsimp only at hSw); go_simp; (try with_reducible rfl); done)); simp only [Act.put, List.getElem_toArray, List.getElem_cons_zero, List.getElem_cons_succ, List.setIfInBounds_toArray, List.set_cons_zero, List.set_cons_succ])
  (refine wpAnyH_take (i := 2) (v := ?_) rfl (by kernel_rfl) (by kernel_rfl) (by kernel_rfl) (fun _ _ _ h => h) (Or.inl ⟨by rfl, ?_⟩) (by assumption) ?_; rotate_left; (focus (intro w hSw; (try dsimp only at hSw); go_simp; (try with_reducible rfl); done)); simp only [Act.put, List.getElem_toArray, List.getElem_cons_zero, List.getElem_cons_succ, List.setIfInBounds_toArray, List.set_cons_zero, List.set_cons_succ])
  (refine wpAnyH_take (i := 3) (v := ?_) rfl (by kernel_rfl) (by kernel_rfl) (by kernel_rfl) (fun _ _ _ h => h) (Or.inl ⟨by rfl, ?_⟩) (by assumption) ?_; rotate_left; (focus (intro w hSw; (try dsimp only at hSw); go_simp; (try with_reducible rfl); done)); simp only [Act.put, List.getElem_toArray, List.getElem_cons_zero, List.getElem_cons_succ, List.setIfInBounds_toArray, List.set_cons_zero, List.set_cons_succ])
  (refine wpAnyH_take (i := 4) (v := ?_) rfl (by kernel_rfl) (by kernel_rfl) (by kernel_rfl) (fun _ _ _ h => h) (Or.inl ⟨by rfl, ?_⟩) (by assumption) ?_; rotate_left; (focus (intro w hSw; (try dsimp only at hSw); go_simp; (try with_reducible rfl); done)); simp only [Act.put, List.getElem_toArray, List.getElem_cons_zero, List.getElem_cons_succ, List.setIfInBounds_toArray, List.set_cons_zero, List.set_cons_succ])
  (refine wpAnyH_take (i := 5) (v := ?_) rfl (by kernel_rfl) (by kernel_rfl) (by kernel_rfl) (fun _ _ _ h => h) (Or.inl ⟨by rfl, ?_⟩) (by assumption) ?_; rotate_left; (focus (intro w hSw; (try dsimp only at hSw); go_simp; (try with_reducible rfl); done)); simp only [Act.put, List.getElem_toArray, List.getElem_cons_zero, List.getElem_cons_succ, List.setIfInBounds_toArray, List.set_cons_zero, List.set_cons_succ])
  (refine wpAnyH_take (i := 6) (v := ?_) rfl (by kernel_rfl) (by kernel_rfl) (by kernel_rfl) (fun _ _ _ h => h) (Or.inl ⟨by rfl, ?_⟩) (by assumption) ?_; rotate_left; (focus (intro w hSw; (try dsimp only at hSw); go_simp; (try with_reducible rfl); done)); simp only [Act.put, List.getElem_toArray, List.getElem_cons_zero, List.getElem_cons_succ, List.setIfInBounds_toArray, List.set_cons_zero, List.set_cons_succ])
  (refine wpAnyH_take (i := 7) (v := ?_) rfl (by kernel_rfl) (by kernel_rfl) (by kernel_rfl) (fun _ _ _ h => h) (Or.inl ⟨by rfl, ?_⟩) (by assumption) ?_; rotate_left; (focus (intro w hSw; (try dsimp only at hSw); go_simp; (try with_reducible rfl); done)); simp only [Act.put, List.getElem_toArray, List.getElem_cons_zero, List.getElem_cons_succ, List.setIfInBounds_toArray, List.set_cons_zero, List.set_cons_succ])
  refine wpAnyH_ready (rs := [8]) (by kernel_rfl) (by simp) ?_
  refine AllReadyH.cons rfl (fun K hK => ?_) AllReadyH.nil
  refine step_copyK rfl _ _ 30 30 rfl _ _ rfl rfl (HC2.out _ _ _) ?_
  refine hK.out _ _ trivial (fun hHeld2 => ?_)
  clear hK K hHeld hHeld2
  refine wpAnyH_done (by kernel_rfl) ?_ _
  obtain ⟨R2, hR2⟩ : ∃ R2 : List Value, R2 = R1.take ((i + 1) * 3) ++ encW.cells (xs.drop i) ++ R1.drop ((i + 1) * 3 + (encW.cells (xs.drop i)).length) := ⟨_, rfl⟩
  rw [← hR2] at HF2 ⊢
  have HW3 : Hid ((W2.drew.setRow X R2.toArray).heap[X]? = some (.cells R2.toArray 34 (0, 0))) := setRow_heap W2.drew X R1.toArray R2.toArray 34 (0, 0) HW2.out
  have HB3 : Hid (Below w.heap.size w (W2.drew.setRow X R2.toArray)) := HB2.out.drew.grown ⟨rfl, rfl, rfl, by simp, fun j _ hj => setRow_other W2.drew X j R2.toArray (fun e => hj (by rw [e]))⟩ HB2.out.drew.size (fun j hj => by cases hj; rw [← HXE.out]; exact Nat.le_refl _)
  clear hR2
  generalize W2.drew.setRow X R2.toArray = W3 at *
  go_wp2
  go_ret
  exact ⟨R2.toArray, G, by rw [← HXE.out]; rfl, HGM.out, hGn, by rw [← HXE.out]; exact HW3.out, by simpa using HF2.out.1, by simpa using HF2.out.2, HB3.out⟩

/-- one write put in, wherever -/
theorem insW (xs : List Wt) (x : Wt) (a : Option Addr) (c vb base i : Nat) (hn : xs.length ≤ 1000000) (hi : i ≤ xs.length) (w : World) (hown : GOwn encW 34 w base (.slice a xs.length c) xs) (hb : base ≤ w.heap.size) (hx : OneW w vb x) (hne : a ≠ some ⟨vb, 0, none⟩) :
    Calls Try.prog 61 #[.slice a xs.length c, .int .i64 (i : Int), .slice (some ⟨vb, 0, none⟩) 1 1] w fun e w' => ∃ a1 c1, e = .returned (.slice a1 (insAt xs i x).length c1) ∧ GOwn encW 34 w' base (.slice a1 (insAt xs i x).length c1) (insAt xs i x) ∧ Below base w w' := by
  by_cases hin : i = xs.length
  · subst hin
    exact insEnd xs x a c vb base hn w hown hb hx
  rcases hown.2 with ⟨hv, h0⟩ | ⟨g, cap, cur, hv, hg, hh, hnc, hcp, hcs, htake⟩
  · omega
  · simp only [Value.slice.injEq] at hv
    obtain ⟨rfl, -, rfl⟩ := hv
    have hvg : vb ≠ g := fun e => hne (by rw [e])
    have hlt := (World.ownsRow.lt hown g rfl).2
    by_cases hroom : xs.length + 1 ≤ c
    · refine (insRoom xs x g c vb i cur hn (by omega) hroom (by unfold maxLen at hcp; exact hcp) w hh hcs htake hx hvg).mono ?_
      rintro e w' ⟨cur', rfl, h1, h2, h3, h4⟩
      refine ⟨some ⟨g, 0, none⟩, c, by rw [insAt_len], ?_, (Below.refl _ _).grown h4 hb (fun j hj => by cases hj; exact hg)⟩
      rw [insAt_len]
      refine ⟨by rw [encW.cells_len, insAt_len], Or.inr ⟨g, c, cur', by rw [insAt_len], hg, h1, by rw [insAt_len]; exact hroom, hcp, h2, by rw [insAt_len]; exact h3⟩⟩
    · refine (insGrow xs x g c vb i hn (by omega) hnc (by omega) w (fun j v hj => ?_) hlt hx).mono ?_
      · have hjl : j < (encW.cells xs).length := by
          rcases Nat.lt_or_ge j (encW.cells xs).length with h | h
          · exact h
          · rw [List.getElem?_eq_none h] at hj; cases hj
        rw [encW.cells_len] at hjl
        rw [World.ownsRow.cellAt hown j hjl]
        exact hj
      · rintro e w' ⟨cur', G, rfl, hGm, hGn, h1, h2, h3, h4⟩
        refine ⟨some ⟨w.heap.size, 0, none⟩, G, by rw [insAt_len], ?_, h4.mono hb⟩
        rw [insAt_len]
        exact ⟨by rw [encW.cells_len, insAt_len], Or.inr ⟨w.heap.size, G, cur', by rw [insAt_len], hb, h1, by rw [insAt_len]; exact hGn, hGm, h2, by rw [insAt_len]; exact h3⟩⟩
end Go.Proofs.Ythlfddbijlfgeaa

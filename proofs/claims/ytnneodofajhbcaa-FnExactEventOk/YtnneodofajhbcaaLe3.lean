/- The law FnExactEventOk, walked. -/
import Derived.Test.YtnneodofajhbcaaEv
import Derived.Deep.RegionHeld3
namespace Go.Proofs.Ytnneodofajhbcaa
open Go.RowKit
open KM
attribute [local go_sem ↓] Go.wp_at_zero Go.wp_at_succ

theorem growI {w : World} {lo hi n c : Nat} {a : Option Addr} {l : List Int} (h : Lies encI 3 w lo hi (.slice a n c) l) (hn : n = l.length) : GRow encI w a l := by
  subst hn
  exact h.own.grow
set_option maxRecDepth 100000 in
set_option maxHeartbeats 6000000 in
theorem law3 (k p : Int) (s u : ByteArray) (ka : Option Addr) (n kc : Nat) (xs : List Int) (hx : n = xs.length) (hs : s.size ≤ maxLen) (hu : u.size ≤ maxLen) (hn : n ≤ maxLen) (w : World) (hp : GRow encI w ka xs) : Calls Try.prog 3 #[.agg #[.int .i64 k, .int .i64 p, .string s, .string u, .slice ka n kc]] w fun e w' => e = .returned (.bool true) ∧ Below w.heap.size w w' := by
  have HPr : Hid (GRow encI w ka xs) := hp
  have HX : Hid (n = xs.length) := hx
  clear hp hx
  have BA : Hid (Bx (w.alloc (.cells #[.int .i64 k, .int .i64 p, .string s, .string u, .slice ka n kc] 24)) (w.heap.size) [.int .i64 k, .int .i64 p, .string s, .string u, .slice ka n kc]) := Bx.new w [.int .i64 k, .int .i64 p, .string s, .string u, .slice ka n kc] 24
  have HB : Hid (Below w.heap.size w (w.alloc (.cells #[.int .i64 k, .int .i64 p, .string s, .string u, .slice ka n kc] 24))) := (belowRefl w).alloc (Nat.le_refl _) _
  have PR : Hid (GRow encI (w.alloc (.cells #[.int .i64 k, .int .i64 p, .string s, .string u, .slice ka n kc] 24)) ka xs) := HPr.out.below HB.out
  go_enter Try.func3, Try.ntmps3
  have x0 := BA.out.c0
  have x1 := BA.out.c1
  have x2 := BA.out.c2
  have x3 := BA.out.c3
  have x4 := BA.out.c4
  go_wp2_with fail
  refine (szEv k p s u ka n kc hs hu hn _).mono ?_
  rintro e w1 ⟨r1, rfl, hr1, hb1⟩
  have Z1 : Hid (w.heap.size + 1 ≤ w1.heap.size) := by show _ ≤ _; have h := hb1.size; simpa using h
  replace BA : Hid (Bx w1 (w.heap.size) [.int .i64 k, .int .i64 p, .string s, .string u, .slice ka n kc]) := BA.out.below hb1
  replace HB : Hid (Below w.heap.size w w1) := HB.out.trans (hb1.mono HB.out.size)
  replace PR : Hid (GRow encI w1 ka xs) := HPr.out.below HB.out
  clear hb1 x0 x1 x2 x3 x4
  by_cases hneg1 : r1 < 0
  · clear hr1
    go_wp2
    go_ret
    exact ⟨rfl, HB.out⟩
  have hpos1 : ¬ r1 < 0 := hneg1
  have HR : Hid (s.size ≤ 1048576 ∧ u.size ≤ 1048576 ∧ n ≤ 1048576) := by
    rcases hr1 with h | h
    · exact absurd h hneg1
    · exact h
  clear hr1 hneg1 hs hu hn
  obtain ⟨bv, hbv⟩ : ∃ bv, bv = evB k p s u n := ⟨_, rfl⟩
  have CI : Hid (∀ (ka : Option Addr) (kc : Nat) (w : World), Calls Try.prog 8 #[.agg #[.int .i64 k, .int .i64 p, .string s, .string u, .slice ka n kc]] w fun e w' => e = .returned (.bool bv) ∧ Below w.heap.size w w') := fun ka kc w => by rw [hbv]; exact iev k p s u ka n kc HR.out.1 HR.out.2.1 HR.out.2.2 w
  have CS : Hid (∀ (ka : Option Addr) (kc : Nat) (w : World), Calls Try.prog 6 #[.agg #[.int .i64 k, .int .i64 p, .string s, .string u, .slice ka n kc]] w fun e w' => e = .returned (.bool bv) ∧ Below w.heap.size w w') := fun ka kc w => by rw [hbv]; exact sev k p s u ka n kc HR.out.1 HR.out.2.1 HR.out.2.2 w
  clear hbv
  cases bv
  all_goals
    have x0 := BA.out.c0
    have x1 := BA.out.c1
    have x2 := BA.out.c2
    have x3 := BA.out.c3
    have x4 := BA.out.c4
    go_wp2_with fail
    refine (toEv k p s u ka n kc xs HX.out HR.out.2.2 _ PR.out).mono ?_
    rintro e w2 ⟨a1, c1, rfl, hl, hb2⟩
    have Z2 : Hid (w1.heap.size ≤ w2.heap.size) := by show _ ≤ _; have h := hb2.size; simpa using h
    replace BA : Hid (Bx w2 (w.heap.size) [.int .i64 k, .int .i64 p, .string s, .string u, .slice ka n kc]) := BA.out.below hb2
    replace HB : Hid (Below w.heap.size w w2) := HB.out.trans (hb2.mono HB.out.size)
    replace PR : Hid (GRow encI w2 ka xs) := HPr.out.below HB.out
    have L1 : Hid (Lies encI 3 w2 (w1.heap.size) w2.heap.size (.slice a1 n c1) xs) := (by show Lies _ _ _ _ _ _ _; simpa using hl)
    clear hl
    clear hb2 x0 x1 x2 x3 x4
    go_wp2_with fail
    refine (CS.out a1 c1 _).mono ?_
    rintro e w3 ⟨rfl, hb3⟩
    have Z3 : Hid (w2.heap.size ≤ w3.heap.size) := by show _ ≤ _; have h := hb3.size; simpa using h
    replace BA : Hid (Bx w3 (w.heap.size) [.int .i64 k, .int .i64 p, .string s, .string u, .slice ka n kc]) := BA.out.below hb3
    replace HB : Hid (Below w.heap.size w w3) := HB.out.trans (hb3.mono HB.out.size)
    replace PR : Hid (GRow encI w3 ka xs) := HPr.out.below HB.out
    replace L1 : Hid (Lies encI 3 w3 (w1.heap.size) w2.heap.size (.slice a1 n c1) xs) := L1.out.below hb3
    clear hb3
    clear L1
    have x0 := BA.out.c0
    have x1 := BA.out.c1
    have x2 := BA.out.c2
    have x3 := BA.out.c3
    have x4 := BA.out.c4
    go_wp2_with fail
    refine (toEv k p s u ka n kc xs HX.out HR.out.2.2 _ PR.out).mono ?_
    rintro e w4 ⟨a2, c2, rfl, hl, hb4⟩
    have Z4 : Hid (w3.heap.size ≤ w4.heap.size) := by show _ ≤ _; have h := hb4.size; simpa using h
    replace BA : Hid (Bx w4 (w.heap.size) [.int .i64 k, .int .i64 p, .string s, .string u, .slice ka n kc]) := BA.out.below hb4
    replace HB : Hid (Below w.heap.size w w4) := HB.out.trans (hb4.mono HB.out.size)
    replace PR : Hid (GRow encI w4 ka xs) := HPr.out.below HB.out
    have L2 : Hid (Lies encI 3 w4 (w3.heap.size) w4.heap.size (.slice a2 n c2) xs) := (by show Lies _ _ _ _ _ _ _; simpa using hl)
    clear hl
    clear hb4 x0 x1 x2 x3 x4
    have hba : Below w4.heap.size w4 (w4.alloc (.cells #[.int .i64 k, .int .i64 p, .string s, .string u, .slice a2 n c2] 27)) := (belowRefl _).alloc (Nat.le_refl _) _
    replace BA : Hid (Bx (w4.alloc (.cells #[.int .i64 k, .int .i64 p, .string s, .string u, .slice a2 n c2] 27)) (w.heap.size) [.int .i64 k, .int .i64 p, .string s, .string u, .slice ka n kc]) := BA.out.below hba
    replace HB : Hid (Below w.heap.size w (w4.alloc (.cells #[.int .i64 k, .int .i64 p, .string s, .string u, .slice a2 n c2] 27))) := HB.out.trans (hba.mono HB.out.size)
    replace PR : Hid (GRow encI (w4.alloc (.cells #[.int .i64 k, .int .i64 p, .string s, .string u, .slice a2 n c2] 27)) ka xs) := HPr.out.below HB.out
    replace L2 : Hid (Lies encI 3 (w4.alloc (.cells #[.int .i64 k, .int .i64 p, .string s, .string u, .slice a2 n c2] 27)) (w3.heap.size) w4.heap.size (.slice a2 n c2) xs) := L2.out.below hba
    clear hba
    have BX : Hid (Bx (w4.alloc (.cells #[.int .i64 k, .int .i64 p, .string s, .string u, .slice a2 n c2] 27)) (w4.heap.size) [.int .i64 k, .int .i64 p, .string s, .string u, .slice a2 n c2]) := Bx.new w4 [.int .i64 k, .int .i64 p, .string s, .string u, .slice a2 n c2] 27
    have y0 := BX.out.c0
    have y1 := BX.out.c1
    have y2 := BX.out.c2
    have y3 := BX.out.c3
    have y4 := BX.out.c4
    go_wp2_with fail
    refine (CI.out a2 c2 _).mono ?_
    rintro e w5 ⟨rfl, hb5⟩
    have Z5 : Hid (w4.heap.size + 1 ≤ w5.heap.size) := by show _ ≤ _; have h := hb5.size; simpa using h
    replace BA : Hid (Bx w5 (w.heap.size) [.int .i64 k, .int .i64 p, .string s, .string u, .slice ka n kc]) := BA.out.below hb5
    replace HB : Hid (Below w.heap.size w w5) := HB.out.trans (hb5.mono HB.out.size)
    replace PR : Hid (GRow encI w5 ka xs) := HPr.out.below HB.out
    replace L2 : Hid (Lies encI 3 w5 (w3.heap.size) w4.heap.size (.slice a2 n c2) xs) := L2.out.below hb5
    replace BX : Hid (Bx w5 (w4.heap.size) [.int .i64 k, .int .i64 p, .string s, .string u, .slice a2 n c2]) := BX.out.below hb5
    clear hb5 y0 y1 y2 y3 y4
    go_wp2
    refine wp_region_held_drew (S := fun w' => w'.cell? ⟨w4.heap.size, 0, none⟩ = some (.int .i64 k) ∧ w'.cell? ⟨w4.heap.size, 1, none⟩ = some (.int .i64 p) ∧ w'.cell? ⟨w4.heap.size, 2, none⟩ = some (.string s) ∧ w'.cell? ⟨w4.heap.size, 3, none⟩ = some (.string u) ∧ w'.cell? ⟨w4.heap.size, 4, none⟩ = some (.slice a2 n c2) ∧ w'.cell? ⟨w.heap.size, 0, none⟩ = some (.int .i64 k) ∧ w'.cell? ⟨w.heap.size, 1, none⟩ = some (.int .i64 p) ∧ w'.cell? ⟨w.heap.size, 2, none⟩ = some (.string s) ∧ w'.cell? ⟨w.heap.size, 3, none⟩ = some (.string u) ∧ w'.cell? ⟨w.heap.size, 4, none⟩ = some (.slice ka n kc)) (by kernel_rfl) ⟨BX.out.c0, BX.out.c1, BX.out.c2, BX.out.c3, BX.out.c4, BA.out.c0, BA.out.c1, BA.out.c2, BA.out.c3, BA.out.c4⟩ (fun hHeld => ?_)
    (refine wpAnyH_take (i := 0) (v := ?_) rfl (by kernel_rfl) (by kernel_rfl) (by kernel_rfl) (fun _ _ _ h => h) (Or.inl ⟨by rfl, ?_⟩) (by assumption) ?_; rotate_left; (focus (intro w hSw; (try dsimp only at hSw); go_simp; (try with_reducible rfl); done)); simp only [Act.put, List.getElem_toArray, List.getElem_cons_zero, List.setIfInBounds_toArray, List.set_cons_zero, List.set_cons_succ])
    (refine wpAnyH_take (i := 1) (v := ?_) rfl (by kernel_rfl) (by kernel_rfl) (by kernel_rfl) (fun _ _ _ h => h) (Or.inl ⟨by rfl, ?_⟩) (by assumption) ?_; rotate_left; (focus (intro w hSw; (try dsimp only at hSw); go_simp; (try with_reducible rfl); done)); simp only [Act.put, List.getElem_toArray, List.getElem_cons_zero, List.getElem_cons_succ, List.setIfInBounds_toArray, List.set_cons_zero, List.set_cons_succ])
    refine wpAnyH_ready (rs := [2]) (by kernel_rfl) (by simp) ?_
    refine AllReadyH.cons rfl (fun K hK => ?_) AllReadyH.nil
    go_simp
    go_wp2_with fail
    refine (toEv k p s u ka n kc xs HX.out HR.out.2.2 _ PR.out.drew).mono ?_
    rintro e w6 ⟨a3, c3, rfl, hl, hb6⟩
    have hbu6 := undrew hb6
    have Z6 : Hid (w5.heap.size ≤ w6.heap.size) := by show _ ≤ _; have h := hbu6.size; simpa using h
    replace BA : Hid (Bx w6 (w.heap.size) [.int .i64 k, .int .i64 p, .string s, .string u, .slice ka n kc]) := BA.out.below hbu6
    replace HB : Hid (Below w.heap.size w w6) := HB.out.trans (hbu6.mono HB.out.size)
    replace PR : Hid (GRow encI w6 ka xs) := HPr.out.below HB.out
    replace L2 : Hid (Lies encI 3 w6 (w3.heap.size) w4.heap.size (.slice a2 n c2) xs) := L2.out.below hbu6
    replace BX : Hid (Bx w6 (w4.heap.size) [.int .i64 k, .int .i64 p, .string s, .string u, .slice a2 n c2]) := BX.out.below hbu6
    have L3 : Hid (Lies encI 3 w6 (w5.heap.size) w6.heap.size (.slice a3 n c3) xs) := (by show Lies _ _ _ _ _ _ _; simpa using hl)
    clear hl
    go_wp2_with fail
    refine hK.out _ _ ⟨BX.out.c0, BX.out.c1, BX.out.c2, BX.out.c3, BX.out.c4, BA.out.c0, BA.out.c1, BA.out.c2, BA.out.c3, BA.out.c4⟩ (fun hHeld6 => ?_)
    clear hK K hb6 hbu6
    refine wpAnyH_ready (rs := [3]) (by kernel_rfl) (by simp) ?_
    refine AllReadyH.cons rfl (fun K hK => ?_) AllReadyH.nil
    go_simp
    go_wp2_with fail
    refine (eqEv k p s u a2 a3 n c2 c3 xs HX.out HR.out.2.2 _ (growI L2.out HX.out) (growI L3.out HX.out)).mono ?_
    rintro e w7 ⟨rfl, hb7⟩
    have Z7 : Hid (w6.heap.size ≤ w7.heap.size) := by show _ ≤ _; have h := hb7.size; simpa using h
    replace BA : Hid (Bx w7 (w.heap.size) [.int .i64 k, .int .i64 p, .string s, .string u, .slice ka n kc]) := BA.out.below hb7
    replace HB : Hid (Below w.heap.size w w7) := HB.out.trans (hb7.mono HB.out.size)
    replace PR : Hid (GRow encI w7 ka xs) := HPr.out.below HB.out
    replace L2 : Hid (Lies encI 3 w7 (w3.heap.size) w4.heap.size (.slice a2 n c2) xs) := L2.out.below hb7
    replace BX : Hid (Bx w7 (w4.heap.size) [.int .i64 k, .int .i64 p, .string s, .string u, .slice a2 n c2]) := BX.out.below hb7
    replace L3 : Hid (Lies encI 3 w7 (w5.heap.size) w6.heap.size (.slice a3 n c3) xs) := L3.out.below hb7
    go_wp2_with fail
    refine hK.out _ _ ⟨BX.out.c0, BX.out.c1, BX.out.c2, BX.out.c3, BX.out.c4, BA.out.c0, BA.out.c1, BA.out.c2, BA.out.c3, BA.out.c4⟩ (fun hHeld7 => ?_)
    clear hK K hb7
    (refine wpAnyH_take (i := 4) (v := ?_) rfl (by kernel_rfl) (by kernel_rfl) (by kernel_rfl) (fun _ _ _ h => h) (Or.inl ⟨by rfl, ?_⟩) (by assumption) ?_; rotate_left; (focus (intro w hSw; (try dsimp only at hSw); go_simp; (try with_reducible rfl); done)); simp only [Act.put, List.getElem_toArray, List.getElem_cons_zero, List.getElem_cons_succ, List.setIfInBounds_toArray, List.set_cons_zero, List.set_cons_succ])
    refine wpAnyH_done (by kernel_rfl) ?_ _
    go_wp2
    go_ret
    exact ⟨rfl, HB.out⟩
end Go.Proofs.Ytnneodofajhbcaa

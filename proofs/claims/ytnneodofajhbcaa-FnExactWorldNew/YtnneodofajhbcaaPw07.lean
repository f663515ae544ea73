/- The marks of rows of versions. -/
import Derived.Test.YtnneodofajhbcaaPw05
import Derived.Test.YtnneodofajhbcaaPw02
import Derived.Test.YtnneodofajhbcaaPw03
namespace Go.Proofs.Ytnneodofajhbcaa
open Go.RowKit
open KM
attribute [local go_sem ↓] Go.wp_at_zero Go.wp_at_succ
set_option maxRecDepth 100000 in
set_option maxHeartbeats 4000000 in
theorem markV (n k0 : Nat) (a : Option Addr) (c base : Nat) (xs0 : List Value) (hn : n ≤ 100000000) (hk0 : 0 < k0) (hk1 : k0 ≤ 100000000000000000) (w : World) (h : w.ownsRow base 104 4 (.slice a n c) n xs0) :
    Calls Try.prog 67 #[.slice a n c, .int .i64 k0] w fun e w' => e = .returned (.int .i64 ((k0 + 4 * n : Nat) : Int)) ∧ GOwn encV 104 w' base (.slice a n c) (mkV k0 n) ∧ w.grownBy w' (Value.slice a n c).ownBlock := by
  have H : Hid (w.ownsRow base 104 4 (.slice a n c) n xs0) := h
  clear h
  go_enter Try.func67, Try.ntmps67
  go_wp2
  go_loopw [1, 5] (fun tk t wr => ∃ (k : Nat) (xs : List Value), k ≤ n ∧ t = .int .i64 k ∧ tk = .int .i64 ((k0 + 4 * k : Nat) : Int) ∧ Hid (wr.ownsRow base 104 4 (.slice a n c) n xs) ∧ Hid (∀ j, j < k * 4 → xs[j]? = (encV.cells (mkV k0 n))[j]?) ∧ Hid (w.grownBy wr (Value.slice a n c).ownBlock)) (fun _ t _ => n - (intOf t).toNat)
  case atStart => exact ⟨0, xs0, Nat.zero_le _, rfl, rfl, H, (fun j hj => by omega), grown_refl _ _⟩
  case round =>
    obtain ⟨k, xs, hk, rfl, rfl, HX, HA, HG⟩ := hrel
    by_cases hlt : k < n
    · have hlt' : (k : Int) < (n : Int) := by omega
      have h0 : (0 : Int) ≤ (k : Int) := by omega
      obtain ⟨g, rfl, hbg, hgl⟩ := own_form HX.out (by omega)
      have hlen := HX.out.1
      obtain ⟨q, hq⟩ : ∃ q, q = k0 + 4 * k := ⟨_, rfl⟩
      have HQ : Hid (q = k0 + 4 * k) := hq
      rw [← hq]
      have hq0 : 0 < q := by omega
      have hq1 : q ≤ 900000000000000000 := by omega
      clear hq
      have W0 := hide HX.out
      have G0 : Hid (wr.grownBy wr (some g)) := grown_refl _ _
      go_wp2_with fail
      refine (mark87 q (by omega) (by omega) _).mono ?_
      rintro e w1 ⟨rfl, hbm⟩
      have V0 := hide (ownsBelow W0.out hbm)
      have F0 : Hid (wr.grownBy w1 (some g)) := grown_trans G0.out (grown_below _ hbm)
      have hgl0 : g < w1.heap.size := Nat.lt_of_lt_of_le hgl F0.out.size
      clear hbm
      have len0 : k * 4 < (xs).length := by omega
      have q0 : (w1).cell? ⟨g, k * 4, none⟩ = some ((xs)[k * 4]'len0) := by rw [World.ownsRow.cellAt V0.out (k * 4) (by omega)]; simp
      have f0 : (w1).frozen? ⟨g, k * 4, none⟩ = false := World.ownsRow.frozenAt V0.out (k * 4)
      have st0 := World.ownsRow.stored V0.out (k * 4) (.string (mkB q))
      have W1 := hide st0.1
      have G1 : Hid (wr.grownBy ((w1).setCell ⟨g, k * 4, none⟩ (.string (mkB q))) (some g)) := grown_trans F0.out st0.2
      clear st0
      have E1 : Hid ((q : Int) + 1 = ((q + 1 : Nat) : Int)) := by show _ = _; omega
      go_wp2_with fail
      rw [E1.out]
      refine (mark87 (q + 1) (by omega) (by omega) _).mono ?_
      rintro e w2 ⟨rfl, hbm⟩
      have V1 := hide (ownsBelow W1.out hbm)
      have F1 : Hid (wr.grownBy w2 (some g)) := grown_trans G1.out (grown_below _ hbm)
      have hgl1 : g < w2.heap.size := Nat.lt_of_lt_of_le hgl F1.out.size
      clear hbm
      have len1 : k * 4 + 1 < ((xs).set (k * 4) (.string (mkB q))).length := by simp only [List.length_set]; omega
      have q1 : (w2).cell? ⟨g, k * 4 + 1, none⟩ = some (((xs).set (k * 4) (.string (mkB q)))[k * 4 + 1]'len1) := by rw [World.ownsRow.cellAt V1.out (k * 4 + 1) (by omega)]; simp
      have f1 : (w2).frozen? ⟨g, k * 4 + 1, none⟩ = false := World.ownsRow.frozenAt V1.out (k * 4 + 1)
      have st1 := World.ownsRow.stored V1.out (k * 4 + 1) (.string (mkB (q + 1)))
      have W2 := hide st1.1
      have G2 : Hid (wr.grownBy ((w2).setCell ⟨g, k * 4 + 1, none⟩ (.string (mkB (q + 1)))) (some g)) := grown_trans F1.out st1.2
      clear st1
      have len2 : k * 4 + 2 < (((xs).set (k * 4) (.string (mkB q))).set (k * 4 + 1) (.string (mkB (q + 1)))).length := by simp only [List.length_set]; omega
      have q2 : ((w2).setCell ⟨g, k * 4 + 1, none⟩ (.string (mkB (q + 1)))).cell? ⟨g, k * 4 + 2, none⟩ = some ((((xs).set (k * 4) (.string (mkB q))).set (k * 4 + 1) (.string (mkB (q + 1))))[k * 4 + 2]'len2) := by rw [World.ownsRow.cellAt W2.out (k * 4 + 2) (by omega)]; simp
      have f2 : ((w2).setCell ⟨g, k * 4 + 1, none⟩ (.string (mkB (q + 1)))).frozen? ⟨g, k * 4 + 2, none⟩ = false := World.ownsRow.frozenAt W2.out (k * 4 + 2)
      have st2 := World.ownsRow.stored W2.out (k * 4 + 2) (.bool (goneQ q))
      have W3 := hide st2.1
      have G3 : Hid (wr.grownBy (((w2).setCell ⟨g, k * 4 + 1, none⟩ (.string (mkB (q + 1)))).setCell ⟨g, k * 4 + 2, none⟩ (.bool (goneQ q))) (some g)) := grown_trans G2.out st2.2
      clear st2
      have len3 : k * 4 + 3 < ((((xs).set (k * 4) (.string (mkB q))).set (k * 4 + 1) (.string (mkB (q + 1)))).set (k * 4 + 2) (.bool (goneQ q))).length := by simp only [List.length_set]; omega
      have q3 : (((w2).setCell ⟨g, k * 4 + 1, none⟩ (.string (mkB (q + 1)))).setCell ⟨g, k * 4 + 2, none⟩ (.bool (goneQ q))).cell? ⟨g, k * 4 + 3, none⟩ = some (((((xs).set (k * 4) (.string (mkB q))).set (k * 4 + 1) (.string (mkB (q + 1)))).set (k * 4 + 2) (.bool (goneQ q)))[k * 4 + 3]'len3) := by rw [World.ownsRow.cellAt W3.out (k * 4 + 3) (by omega)]; simp
      have f3 : (((w2).setCell ⟨g, k * 4 + 1, none⟩ (.string (mkB (q + 1)))).setCell ⟨g, k * 4 + 2, none⟩ (.bool (goneQ q))).frozen? ⟨g, k * 4 + 3, none⟩ = false := World.ownsRow.frozenAt W3.out (k * 4 + 3)
      have st3 := World.ownsRow.stored W3.out (k * 4 + 3) (.int .i64 ((q : Int) + 1 + 1 + 1))
      have W4 := hide st3.1
      have G4 : Hid (wr.grownBy ((((w2).setCell ⟨g, k * 4 + 1, none⟩ (.string (mkB (q + 1)))).setCell ⟨g, k * 4 + 2, none⟩ (.bool (goneQ q))).setCell ⟨g, k * 4 + 3, none⟩ (.int .i64 ((q : Int) + 1 + 1 + 1))) (some g)) := grown_trans G3.out st3.2
      clear st3
      have HA2 : Hid (∀ j, j < (k + 1) * 4 → (((((xs).set (k * 4) (.string (mkB q))).set (k * 4 + 1) (.string (mkB (q + 1)))).set (k * 4 + 2) (.bool (goneQ q))).set (k * 4 + 3) (.int .i64 ((q : Int) + 1 + 1 + 1)))[j]? = (encV.cells (mkV k0 n))[j]?) := fun j hj => by
        have ea := mkV_at k0 n k hlt
        rw [← HQ.out] at ea
        by_cases e0 : j = k * 4
        · subst e0
          rw [List.getElem?_set_ne (by omega), List.getElem?_set_ne (by omega), List.getElem?_set_ne (by omega), List.getElem?_set_self len0]
          have := encV.cells_at (mkV k0 n) k (by rw [mkV_len]; exact hlt) 0 (by decide)
          rw [ea] at this
          simp only [encV, Nat.add_zero] at this ⊢
          rw [this]; rfl
        by_cases e1 : j = k * 4 + 1
        · subst e1
          rw [List.getElem?_set_ne (by omega), List.getElem?_set_ne (by omega), List.getElem?_set_self len1]
          have := encV.cells_at (mkV k0 n) k (by rw [mkV_len]; exact hlt) 1 (by decide)
          rw [ea] at this
          simp only [encV] at this ⊢
          rw [this]; rfl
        by_cases e2 : j = k * 4 + 2
        · subst e2
          rw [List.getElem?_set_ne (by omega), List.getElem?_set_self len2]
          have := encV.cells_at (mkV k0 n) k (by rw [mkV_len]; exact hlt) 2 (by decide)
          rw [ea] at this
          simp only [encV] at this ⊢
          rw [this]; rfl
        by_cases e3 : j = k * 4 + 3
        · subst e3
          rw [List.getElem?_set_self len3]
          have := encV.cells_at (mkV k0 n) k (by rw [mkV_len]; exact hlt) 3 (by decide)
          rw [ea] at this
          simp only [encV] at this ⊢
          rw [this]; rfl
        rw [List.getElem?_set_ne (by omega), List.getElem?_set_ne (by omega), List.getElem?_set_ne (by omega), List.getElem?_set_ne (by omega)]
        exact HA.out j (by omega)
      have HN2 : Hid (((q + 4 : Nat) : Int) = ((k0 + 4 * (k + 1) : Nat) : Int)) := by show _ = _; have := HQ.out; omega
      have eg := goneQ_eq q
      have en : (q : Int) + 1 + 1 + 1 + 1 = ((q + 4 : Nat) : Int) := by omega
      go_wp2
      go_roundw
      case rel => exact ⟨k + 1, _, by omega, by go_num, by rw [← HN2.out]; go_num, W4, HA2, grown_trans HG.out G4.out⟩
      case measure => simp [intOf]; omega
    · have hd : ¬ (k : Int) < (n : Int) := by omega
      have e : k = n := by omega
      have HE : Hid (GOwn encV 104 wr base (.slice a n c) (mkV k0 n)) := gown_ext (mkV_len _ _) HX.out (fun j hj => HA.out j (by have : encV.size = 4 := rfl; rw [this] at hj; omega))
      subst e
      go_wp2
      go_ret
      exact ⟨ret_int rfl, HE.out, HG.out⟩

end Go.Proofs.Ytnneodofajhbcaa

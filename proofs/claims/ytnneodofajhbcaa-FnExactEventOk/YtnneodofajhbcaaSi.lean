/- Rows of ints: their likeness, their marks. -/
import Derived.Test.YtnneodofajhbcaaVMk
import Derived.Test.YtnneodofajhbcaaV1
import Derived.Test.YtnneodofajhbcaaLie
import Derived.Test.YtnneodofajhbcaaE5
import Derived.Deep.Cut
namespace Go.Proofs.Ytnneodofajhbcaa
open Go.RowKit
open KM
attribute [local go_sem ↓] Go.wp_at_zero Go.wp_at_succ

/-- a count of an owned row is written -/
theorem own_int {W : World} {base g cap n : Nat} {l : List Int} (h : GOwn encI 3 W base (.slice (some ⟨g, 0, none⟩) n cap) l) (hn : n = l.length) (i : Nat) (x : Int) :
    GOwn encI 3 (W.setCell ⟨g, i, none⟩ (.int .i64 x)) base (.slice (some ⟨g, 0, none⟩) n cap) (l.set i x) := by
  have hc : encI.cells (l.set i x) = (encI.cells l).set i (.int .i64 x) := by
    have e : ∀ ys : List Int, encI.cells ys = ys.map (fun y => Value.int .i64 y) := fun ys => by
      induction ys with
      | nil => rfl
      | cons y ys ih =>
        simp [Enc.cells, encI] at ih ⊢
        exact ih
    rw [e, e, List.map_set]
  subst hn
  unfold GOwn
  rw [hc, List.length_set]
  exact (World.ownsRow.stored h i _).1
theorem own_fz {W : World} {base g cap n : Nat} {l : List Int} (h : GOwn encI 3 W base (.slice (some ⟨g, 0, none⟩) n cap) l) (hn : n = l.length) (k : Nat) : W.frozen? ⟨g, k, none⟩ = false := by
  subst hn
  exact World.ownsRow.frozenAt h k
/-- the count at k is read -/
theorem own_at {W : World} {base g cap n : Nat} {l : List Int} (h : GOwn encI 3 W base (.slice (some ⟨g, 0, none⟩) n cap) l) (hn : n = l.length) (k : Nat) (hk : k < l.length) : W.cell? ⟨g, k, none⟩ = some (.int .i64 l[k]) := by
  subst hn
  obtain ⟨b, o, hbo, _, hc⟩ := h.grow (by omega)
  cases hbo
  have := iat hc k hk
  simpa using this
theorem encI_cells (ys : List Int) : encI.cells ys = ys.map (fun y => Value.int .i64 y) := by
  induction ys with
  | nil => rfl
  | cons y ys ih =>
    simp [Enc.cells, encI] at ih ⊢
    exact ih
theorem own_zeros (w : World) (n : Nat) (hn : n ≤ 1048576) : GOwn encI 3 (w.alloc (.cells (madeCells (Value.int .i64 0).cells (n * 1)) 3)) w.heap.size (.slice (some ⟨w.heap.size, 0, none⟩) n n) (List.replicate n 0) := by
  have h := World.ownsRow_lit (size := 1) (e := 3) w (madeCells (Value.int .i64 0).cells (n * 1)) n (Nat.le_refl _) (by unfold maxLen; omega) (by rw [size_madeCells])
  unfold GOwn
  rw [List.length_replicate, encI_cells]
  have e : (madeCells (Value.int .i64 0).cells (n * 1)).toList = (List.replicate n (0 : Int)).map (fun y => Value.int .i64 y) := by
    have : (Value.int .i64 0).cells = #[Value.int .i64 0] := rfl
    rw [Nat.mul_one, this, toList_madeCells_one]
    simp
  rw [← e]
  exact h
/-- the marks of a row of ints -/
def mkI (k n : Nat) : List Int := (List.range n).map fun j => ((k + j : Nat) : Int)
theorem mkI_len (k n : Nat) : (mkI k n).length = n := by simp [mkI]
theorem mkI_at (k n j : Nat) (h : j < n) : (mkI k n)[j]'(by rw [mkI_len]; exact h) = ((k + j : Nat) : Int) := by simp [mkI]
set_option maxRecDepth 100000 in
set_option maxHeartbeats 2000000 in
theorem eqI (xs : List Int) (a1 a2 : Option Addr) (c1 c2 n : Nat) (hx : n = xs.length) (hn : n ≤ 100000000) (w : World) (h1 : GRow encI w a1 xs) (h2 : GRow encI w a2 xs) :
    Calls Try.prog 18 #[.slice a1 n c1, .slice a2 n c2] w fun e w' => e = .returned (.bool true) ∧ Below w.heap.size w w' := by
  have H1 : Hid (GRow encI w a1 xs) := h1
  have H2 : Hid (GRow encI w a2 xs) := h2
  have HX : Hid (n = xs.length) := hx
  clear h1 h2 hx
  go_enter Try.func18, Try.ntmps18
  go_wp2
  go_loopw [5] (fun t wr => ∃ k : Nat, k ≤ n ∧ t = .int .i64 k ∧ Hid (Below w.heap.size w wr)) (fun t _ => n - (intOf t).toNat)
  case atStart => exact ⟨0, Nat.zero_le _, rfl, belowRefl w⟩
  case round =>
    obtain ⟨k, hk, rfl, HB⟩ := hrel
    by_cases hlt : k < n
    · have hlt' : (k : Int) < (n : Int) := by omega
      have hk0 : (0 : Int) ≤ (k : Int) := by omega
      have hkx : k < xs.length := by rw [← HX.out]; exact hlt
      obtain ⟨b, off, rfl, hbl, hc⟩ := (H1.out.below HB.out) (by omega)
      have r0 := iat hc k hkx
      clear hc
      obtain ⟨b2, off2, rfl, hbl2, hc2⟩ := (H2.out.below HB.out) (by omega)
      have q0 := iat hc2 k hkx
      clear hc2
      obtain ⟨x, hx⟩ : ∃ x, x = xs[k] := ⟨_, rfl⟩
      rw [← hx] at r0 q0
      clear hx hkx
      have hxx : (x != x) = false := by simp
      go_wp2
      go_quiet (fail)
      go_wp2
      go_roundw
      case rel => exact ⟨k + 1, by omega, by go_num, below_drewN HB.out _⟩
      case measure => simp [intOf]; omega
    · have hd : ¬ (k : Int) < (n : Int) := by omega
      go_wp2
      go_ret
      exact ⟨rfl, HB.out⟩
set_option maxRecDepth 100000 in
set_option maxHeartbeats 2000000 in
theorem markI (n k0 : Nat) (a : Option Addr) (c base : Nat) (xs0 : List Int) (hx0 : xs0.length = n) (hn : n ≤ 100000000) (hk1 : k0 ≤ 100000000000000000) (w : World) (h : GOwn encI 3 w base (.slice a n c) xs0) :
    Calls Try.prog 26 #[.slice a n c, .int .i64 k0] w fun e w' => e = .returned (.int .i64 ((k0 + n : Nat) : Int)) ∧ GOwn encI 3 w' base (.slice a n c) (mkI k0 n) ∧ w.grownBy w' (Value.slice a n c).ownBlock := by
  have H : Hid (GOwn encI 3 w base (.slice a n c) xs0) := h
  have HX0 : Hid (xs0.length = n) := hx0
  clear h hx0
  go_enter Try.func26, Try.ntmps26
  go_wp2
  go_loopw [1, 5] (fun tk t wr => ∃ (k : Nat) (xs : List Int), k ≤ n ∧ t = .int .i64 k ∧ tk = .int .i64 ((k0 + k : Nat) : Int) ∧ Hid (xs.length = n) ∧ Hid (GOwn encI 3 wr base (.slice a n c) xs) ∧ Hid (∀ j, j < k → xs[j]? = (mkI k0 n)[j]?) ∧ Hid (w.grownBy wr (Value.slice a n c).ownBlock)) (fun _ t _ => n - (intOf t).toNat)
  case atStart => exact ⟨0, xs0, Nat.zero_le _, rfl, rfl, HX0, H, (fun j hj => by omega), grown_refl _ _⟩
  case round =>
    obtain ⟨k, xs, hk, rfl, rfl, HXL, HX, HA, HG⟩ := hrel
    by_cases hlt : k < n
    · have hlt' : (k : Int) < (n : Int) := by omega
      have h0 : (0 : Int) ≤ (k : Int) := by omega
      have ho : wr.ownsRow base 3 1 (.slice a n c) n (encI.cells xs) := by have h1 := HX.out; unfold GOwn at h1; rw [HXL.out] at h1; exact h1
      obtain ⟨g, rfl, hbg, hgl⟩ := own_form ho (by omega)
      clear ho hbg hgl
      have hln : n = xs.length := HXL.out.symm
      have hkl : k < xs.length := by rw [← hln]; exact hlt
      have q0 := own_at HX.out hln k hkl
      obtain ⟨vq, hvq⟩ : ∃ vq, vq = xs[k] := ⟨_, rfl⟩
      rw [← hvq] at q0
      clear hvq
      have f0 : wr.frozen? ⟨g, k, none⟩ = false := own_fz HX.out hln k
      obtain ⟨q, hq⟩ : ∃ q, q = k0 + k := ⟨_, rfl⟩
      have HQ : Hid (q = k0 + k) := hq
      rw [← hq]
      have hq1 : q ≤ 200000000000000000 := by omega
      clear hq
      have HO2 : Hid (GOwn encI 3 (wr.setCell ⟨g, k, none⟩ (.int .i64 q)) base (.slice (some ⟨g, 0, none⟩) n c) (xs.set k q)) := own_int HX.out hln k q
      have HL2 : Hid ((xs.set k (q : Int)).length = n) := by show _ = _; rw [List.length_set]; exact HXL.out
      have HG2 : Hid (w.grownBy (wr.setCell ⟨g, k, none⟩ (.int .i64 q)) (Value.slice (some ⟨g, 0, none⟩) n c).ownBlock) := grown_trans HG.out (grown_set _ _ _ _)
      have HA2 : Hid (∀ j, j < k + 1 → (xs.set k (q : Int))[j]? = (mkI k0 n)[j]?) := fun j hj => by
        rw [List.getElem?_set]
        by_cases hjk : k = j
        · subst hjk
          rw [if_pos rfl, if_pos hkl, List.getElem?_eq_getElem (by rw [mkI_len]; exact hlt), mkI_at _ _ _ hlt, HQ.out]
        · rw [if_neg hjk]
          exact HA.out j (by omega)
      have HN2 : Hid (((q + 1 : Nat) : Int) = ((k0 + (k + 1) : Nat) : Int)) := by show _ = _; have := HQ.out; omega
      clear hln hkl HX HXL HA HG
      go_wp2
      go_roundw
      case rel => exact ⟨k + 1, _, by omega, by go_num, by rw [← HN2.out]; go_num, HL2, HO2, HA2, HG2⟩
      case measure => simp [intOf]; omega
    · have hd : ¬ (k : Int) < (n : Int) := by omega
      have HE : Hid (GOwn encI 3 wr base (.slice a n c) (mkI k0 n)) := by
        have e : xs = mkI k0 n := by
          apply List.ext_getElem?
          intro j
          by_cases hj : j < k
          · exact HA.out j hj
          · rw [List.getElem?_eq_none (by rw [HXL.out]; omega), List.getElem?_eq_none (by rw [mkI_len]; omega)]
        have h := HX.out
        rw [e] at h
        exact h
      have e : k = n := by omega
      subst e
      clear HX HXL HA
      go_wp2
      go_ret
      exact ⟨ret_int rfl, HE.out, HG.out⟩
set_option maxRecDepth 100000 in
set_option maxHeartbeats 2000000 in
theorem heldI (n k0 : Nat) (a : Option Addr) (c : Nat) (hn : n ≤ 100000000) (hk1 : k0 ≤ 100000000000000000) (w : World) (h : GRow encI w a (mkI k0 n)) :
    Calls Try.prog 30 #[.slice a n c, .int .i64 k0] w fun e w' => e = .returned (.int .i64 ((k0 + n : Nat) : Int)) ∧ Below w.heap.size w w' := by
  have H : Hid (GRow encI w a (mkI k0 n)) := h
  clear h
  go_enter Try.func30, Try.ntmps30
  go_wp2
  go_loopw [1, 5] (fun tk t wr => ∃ k : Nat, k ≤ n ∧ t = .int .i64 k ∧ tk = .int .i64 ((k0 + k : Nat) : Int) ∧ Hid (Below w.heap.size w wr)) (fun _ t _ => n - (intOf t).toNat)
  case atStart => exact ⟨0, Nat.zero_le _, rfl, rfl, belowRefl w⟩
  case round =>
    obtain ⟨k, hk, rfl, rfl, HB⟩ := hrel
    by_cases hlt : k < n
    · have hlt' : (k : Int) < (n : Int) := by omega
      have h0 : (0 : Int) ≤ (k : Int) := by omega
      have hkx : k < (mkI k0 n).length := by rw [mkI_len]; exact hlt
      obtain ⟨b, off, rfl, hbl, hc⟩ := (H.out.below HB.out) (by omega)
      have r0 := iat hc k hkx
      rw [mkI_at _ _ _ hlt] at r0
      clear hc hkx
      obtain ⟨q, hq⟩ : ∃ q, q = k0 + k := ⟨_, rfl⟩
      have HQ : Hid (q = k0 + k) := hq
      rw [← hq] at r0 ⊢
      have hq1 : q ≤ 200000000000000000 := by omega
      clear hq
      have hqq : ((q : Int) != (q : Int)) = false := by simp
      have HN2 : Hid (((q + 1 : Nat) : Int) = ((k0 + (k + 1) : Nat) : Int)) := by show _ = _; have := HQ.out; omega
      go_wp2
      go_roundw
      case rel => exact ⟨k + 1, by omega, by go_num, by rw [← HN2.out]; go_num, HB⟩
      case measure => simp [intOf]; omega
    · have hd : ¬ (k : Int) < (n : Int) := by omega
      have e : k = n := by omega
      subst e
      go_wp2
      go_ret
      exact ⟨ret_int rfl, HB.out⟩
end Go.Proofs.Ytnneodofajhbcaa

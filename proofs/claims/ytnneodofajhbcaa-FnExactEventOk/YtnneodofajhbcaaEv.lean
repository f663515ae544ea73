/- Events: their sizes, copies, likeness, and whether one is right. -/
import Derived.Test.YtnneodofajhbcaaSi
import Derived.Test.YtnneodofajhbcaaEaL1
import Derived.Deep.Cut
namespace Go.Proofs.Ytnneodofajhbcaa
open Go.RowKit
open KM
attribute [local go_sem ↓] Go.wp_at_zero Go.wp_at_succ

set_option maxRecDepth 100000 in
set_option maxHeartbeats 4000000 in
theorem toI (xs : List Int) (a : Option Addr) (c n : Nat) (hx : n = xs.length) (hn : n ≤ 1048576) (w : World) (hp : GRow encI w a xs) :
    Calls Try.prog 17 #[.slice a n c] w fun e w' => ∃ (a1 : Option Addr) (c1 : Nat), e = .returned (.slice a1 n c1) ∧ GOwn encI 3 w' w.heap.size (.slice a1 n c1) xs ∧ Below w.heap.size w w' := by
  have HP : Hid (GRow encI w a xs) := hp
  have HX : Hid (n = xs.length) := hx
  clear hp hx
  have hmk := mkRow 22 3 1 8 _ Try.underlying22 Try.info3 n (by omega) (by omega)
  have HZ := hide (own_zeros w n hn)
  go_enter Try.func17, Try.ntmps17
  go_wp2
  clear hmk
  have HO0 : Hid (GOwn encI 3 (w.alloc (.cells (madeCells #[Value.int .i64 0] n) 3)) w.heap.size (.slice (some ⟨w.heap.size, 0, none⟩) n n) (List.replicate n 0)) := by
    have h := HZ.out; rw [Nat.mul_one] at h; exact h
  clear HZ
  go_loopw [4] (fun t wr => ∃ (k : Nat) (l : List Int), k ≤ n ∧ t = .int .i64 k ∧ Hid (l.length = n) ∧ Hid (GOwn encI 3 wr w.heap.size (.slice (some ⟨w.heap.size, 0, none⟩) n n) l) ∧ Hid (∀ q, q < k → l[q]? = xs[q]?) ∧ Hid (Below w.heap.size w wr)) (fun t _ => n - (intOf t).toNat)
  case atStart => exact ⟨0, _, Nat.zero_le _, rfl, List.length_replicate, HO0, (fun q hq => absurd hq (Nat.not_lt_zero _)), (belowRefl w).alloc (Nat.le_refl _) _⟩
  case round =>
    obtain ⟨k, l, hk, rfl, HL, HO, HA, HB⟩ := hrel
    by_cases hlt : k < n
    · have hlt' : (k : Int) < (n : Int) := by omega
      have h0 : (0 : Int) ≤ (k : Int) := by omega
      have hkx : k < xs.length := by rw [← HX.out]; exact hlt
      obtain ⟨b, off, rfl, hbl, hc⟩ := (HP.out.below HB.out) (by omega)
      have r0 := iat hc k hkx
      clear hc
      obtain ⟨x, hx⟩ : ∃ x, x = xs[k] := ⟨_, rfl⟩
      rw [← hx] at r0
      have hln : n = l.length := HL.out.symm
      have hkl : k < l.length := by rw [← hln]; exact hlt
      have q0 := own_at HO.out hln k hkl
      obtain ⟨vq, hvq⟩ : ∃ vq, vq = l[k] := ⟨_, rfl⟩
      rw [← hvq] at q0
      have f0 : wr.frozen? ⟨w.heap.size, k, none⟩ = false := own_fz HO.out hln k
      have HO2 : Hid (GOwn encI 3 (wr.setCell ⟨w.heap.size, k, none⟩ (.int .i64 x)) w.heap.size (.slice (some ⟨w.heap.size, 0, none⟩) n n) (l.set k x)) := own_int HO.out hln k x
      have HL2 : Hid ((l.set k x).length = n) := by show _ = _; rw [List.length_set]; exact HL.out
      have HA2 : Hid (∀ q, q < k + 1 → (l.set k x)[q]? = xs[q]?) := fun q hq => by
        rw [List.getElem?_set]
        by_cases hqk : k = q
        · subst hqk
          rw [if_pos rfl, if_pos hkl, List.getElem?_eq_getElem hkx, hx]
        · rw [if_neg hqk]
          exact HA.out q (by omega)
      have HB2 : Hid (Below w.heap.size w (wr.setCell ⟨w.heap.size, k, none⟩ (.int .i64 x))) := HB.out.setCell (Nat.le_refl _) _
      clear hvq hx hln hkl HO HL HA HB hkx
      go_wp2
      go_roundw
      case rel => exact ⟨k + 1, _, by omega, by go_num, HL2, HO2, HA2, HB2⟩
      case measure => simp [intOf]; omega
    · have hd : ¬ (k : Int) < (n : Int) := by omega
      have HE : Hid (GOwn encI 3 wr w.heap.size (.slice (some ⟨w.heap.size, 0, none⟩) n n) xs) := by
        have e : l = xs := by
          apply List.ext_getElem?
          intro q
          by_cases hq : q < k
          · exact HA.out q hq
          · rw [List.getElem?_eq_none (by rw [HL.out]; omega), List.getElem?_eq_none (by rw [← HX.out]; omega)]
        have h := HO.out
        rw [e] at h
        exact h
      clear HO HL HA
      go_wp2
      go_ret
      exact ⟨_, _, rfl, HE.out, HB.out⟩
set_option maxRecDepth 100000 in
set_option maxHeartbeats 4000000 in
theorem szI (a : Option Addr) (c n : Nat) (L : Int) (h0 : 0 ≤ L) (hl : L ≤ 1048576) (hn : n ≤ maxLen) (w : World) :
    Calls Try.prog 15 #[.slice a n c, .int .i64 L] w fun e w' => ∃ r : Int, e = .returned (.int .i64 r) ∧ (r < 0 ∨ (r = L - n ∧ 0 ≤ r)) ∧ w' = w := by
  unfold maxLen at hn
  have e1 : IntKind.i64.wrap (L - (n : Int)) = L - n := by rw [IntKind.wrap_i64]; omega
  by_cases h1 : L - (n : Int) < 0
  · go_enter Try.func15, Try.ntmps15
    go_wp2
    go_ret
    exact ⟨_, rfl, Or.inl (by omega), rfl⟩
  · have h1' : ¬ L - (n : Int) < 0 := h1
    go_enter Try.func15, Try.ntmps15
    go_wp2
    go_ret
    exact ⟨_, rfl, Or.inr ⟨rfl, by omega⟩, rfl⟩

/-- what szEvent leaves -/
def EvRoom (s u : ByteArray) (n : Nat) (r : Int) : Prop := r < 0 ∨ (s.size ≤ 1048576 ∧ u.size ≤ 1048576 ∧ n ≤ 1048576)
set_option maxRecDepth 100000 in
set_option maxHeartbeats 4000000 in
theorem szEv (k p : Int) (s u : ByteArray) (ka : Option Addr) (n kc : Nat) (hs : s.size ≤ maxLen) (hu : u.size ≤ maxLen) (hn : n ≤ maxLen) (w : World) :
    Calls Try.prog 5 #[.agg #[.int .i64 k, .int .i64 p, .string s, .string u, .slice ka n kc], .int .i64 1048576] w fun e w' => ∃ r : Int, e = .returned (.int .i64 r) ∧ EvRoom s u n r ∧ Below w.heap.size w w' := by
  have hn0 := hn
  unfold maxLen at hs hu hn
  have X0 : Hid (Bx (w.alloc (.cells #[.int .i64 k, .int .i64 p, .string s, .string u, .slice ka n kc] 24)) w.heap.size [.int .i64 k, .int .i64 p, .string s, .string u, .slice ka n kc]) := Bx.new w [.int .i64 k, .int .i64 p, .string s, .string u, .slice ka n kc] 24
  have HB0 : Hid (Below w.heap.size w (w.alloc (.cells #[.int .i64 k, .int .i64 p, .string s, .string u, .slice ka n kc] 24))) := (belowRefl w).alloc (Nat.le_refl _) _
  have e1 : IntKind.i64.wrap (1048576 - (s.size : Int)) = 1048576 - s.size := by rw [IntKind.wrap_i64]; omega
  by_cases h1 : 1048576 - (s.size : Int) < 0
  · go_enter Try.func5, Try.ntmps5
    go_wp2
    go_ret
    exact ⟨_, rfl, Or.inl (by omega), HB0.out⟩
  have h1' : ¬ 1048576 - (s.size : Int) < 0 := h1
  have e2 : IntKind.i64.wrap (1048576 - (s.size : Int) - (u.size : Int)) = 1048576 - s.size - u.size := by rw [IntKind.wrap_i64]; omega
  by_cases h2 : 1048576 - (s.size : Int) - (u.size : Int) < 0
  · go_enter Try.func5, Try.ntmps5
    go_wp2
    go_ret
    exact ⟨_, rfl, Or.inl (by omega), HB0.out⟩
  have h2' : ¬ 1048576 - (s.size : Int) - (u.size : Int) < 0 := h2
  obtain ⟨L, hL⟩ : ∃ L, L = 1048576 - (s.size : Int) - (u.size : Int) := ⟨_, rfl⟩
  have HLL : Hid (L = 1048576 - (s.size : Int) - (u.size : Int)) := hL
  have hl0 : 0 ≤ L := by omega
  have hl1 : L ≤ 1048576 := by omega
  have hneg : ¬ L < 0 := by omega
  rw [← hL] at e2
  have e2' : 1048576 - (s.size : Int) - (u.size : Int) = L := hL.symm
  clear hL h2 h2'
  go_enter Try.func5, Try.ntmps5
  go_upto_region 7 with fail
  generalize (w.alloc (.cells #[.int .i64 k, .int .i64 p, .string s, .string u, .slice ka n kc] 24)) = w0 at *
  have q4 := X0.out.c4
  go_wp2_with fail
  refine (szI ka kc n L hl0 hl1 hn0 _).mono ?_
  rintro e w1 ⟨r, rfl, hr, rfl⟩
  clear q4 e2'
  by_cases h3 : r < 0
  · clear hr
    go_wp2
    go_ret
    exact ⟨_, rfl, Or.inl (by omega), HB0.out⟩
  · have h3' : ¬ r < 0 := h3
    have HR : Hid (EvRoom s u n r) := by
      rcases hr with hr | hr
      · exact absurd hr h3
      · refine Or.inr ?_
        have := HLL.out
        omega
    clear hr
    go_wp2
    go_ret
    exact ⟨_, rfl, HR.out, HB0.out⟩

set_option maxRecDepth 100000 in
set_option maxHeartbeats 4000000 in
theorem toEv (k p : Int) (s u : ByteArray) (ka : Option Addr) (n kc : Nat) (xs : List Int) (hx : n = xs.length) (hn : n ≤ 1048576) (w : World) (hp : GRow encI w ka xs) :
    Calls Try.prog 7 #[.agg #[.int .i64 k, .int .i64 p, .string s, .string u, .slice ka n kc]] w fun e w' => ∃ ka1 kc1, e = .returned (.agg #[.int .i64 k, .int .i64 p, .string s, .string u, .slice ka1 n kc1]) ∧ Lies encI 3 w' w.heap.size w'.heap.size (.slice ka1 n kc1) xs ∧ Below w.heap.size w w' := by
  have HP : Hid (GRow encI w ka xs) := hp
  have HX : Hid (n = xs.length) := hx
  clear hp hx
  have BA0 : Hid (Bx (((w.alloc (.cells #[.int .i64 k, .int .i64 p, .string s, .string u, .slice ka n kc] 24)).alloc (.cells #[.int .i64 0, .int .i64 0, .string ⟨#[]⟩, .string ⟨#[]⟩, .slice none 0 0] 27)).alloc (.cells #[.int .i64 k, .int .i64 p, .string s, .string u, .slice none 0 0] 27)) w.heap.size [.int .i64 k, .int .i64 p, .string s, .string u, .slice ka n kc]) := ((Bx.new w [.int .i64 k, .int .i64 p, .string s, .string u, .slice ka n kc] 24).alloc _).alloc _
  have BR0 : Hid (Bx (((w.alloc (.cells #[.int .i64 k, .int .i64 p, .string s, .string u, .slice ka n kc] 24)).alloc (.cells #[.int .i64 0, .int .i64 0, .string ⟨#[]⟩, .string ⟨#[]⟩, .slice none 0 0] 27)).alloc (.cells #[.int .i64 k, .int .i64 p, .string s, .string u, .slice none 0 0] 27)) (w.heap.size + 1) [.int .i64 0, .int .i64 0, .string ⟨#[]⟩, .string ⟨#[]⟩, .slice none 0 0]) := by
    have h := (Bx.new (w.alloc (.cells #[.int .i64 k, .int .i64 p, .string s, .string u, .slice ka n kc] 24)) [.int .i64 0, .int .i64 0, .string ⟨#[]⟩, .string ⟨#[]⟩, .slice none 0 0] 27).alloc (.cells #[.int .i64 k, .int .i64 p, .string s, .string u, .slice none 0 0] 27)
    rw [show (w.alloc (.cells #[.int .i64 k, .int .i64 p, .string s, .string u, .slice ka n kc] 24)).heap.size = w.heap.size + 1 by simp] at h
    exact h
  have BO0 : Hid (Bx (((w.alloc (.cells #[.int .i64 k, .int .i64 p, .string s, .string u, .slice ka n kc] 24)).alloc (.cells #[.int .i64 0, .int .i64 0, .string ⟨#[]⟩, .string ⟨#[]⟩, .slice none 0 0] 27)).alloc (.cells #[.int .i64 k, .int .i64 p, .string s, .string u, .slice none 0 0] 27)) (w.heap.size + 1 + 1) [.int .i64 k, .int .i64 p, .string s, .string u, .slice none 0 0]) := by
    have h := Bx.new ((w.alloc (.cells #[.int .i64 k, .int .i64 p, .string s, .string u, .slice ka n kc] 24)).alloc (.cells #[.int .i64 0, .int .i64 0, .string ⟨#[]⟩, .string ⟨#[]⟩, .slice none 0 0] 27)) [.int .i64 k, .int .i64 p, .string s, .string u, .slice none 0 0] 27
    rw [show ((w.alloc (.cells #[.int .i64 k, .int .i64 p, .string s, .string u, .slice ka n kc] 24)).alloc (.cells #[.int .i64 0, .int .i64 0, .string ⟨#[]⟩, .string ⟨#[]⟩, .slice none 0 0] 27)).heap.size = w.heap.size + 1 + 1 by simp] at h
    exact h
  have HB0 : Hid (Below w.heap.size w (((w.alloc (.cells #[.int .i64 k, .int .i64 p, .string s, .string u, .slice ka n kc] 24)).alloc (.cells #[.int .i64 0, .int .i64 0, .string ⟨#[]⟩, .string ⟨#[]⟩, .slice none 0 0] 27)).alloc (.cells #[.int .i64 k, .int .i64 p, .string s, .string u, .slice none 0 0] 27))) := (((belowRefl w).alloc (Nat.le_refl _) _).alloc (by simp) _).alloc (by simp; omega) _
  have S0 : Hid ((((w.alloc (.cells #[.int .i64 k, .int .i64 p, .string s, .string u, .slice ka n kc] 24)).alloc (.cells #[.int .i64 0, .int .i64 0, .string ⟨#[]⟩, .string ⟨#[]⟩, .slice none 0 0] 27)).alloc (.cells #[.int .i64 k, .int .i64 p, .string s, .string u, .slice none 0 0] 27)).heap.size = w.heap.size + 1 + 1 + 1) := by show _ = _; simp
  go_enter Try.func7, Try.ntmps7
  go_wp2_with fail
  refine (toI xs ka kc n HX.out hn _ (HP.out.below HB0.out)).mono ?_
  rintro e w1 ⟨ka1, kc1, rfl, hd1, hb1⟩
  rw [S0.out] at hd1
  have BR1 : Hid (Bx w1 (w.heap.size + 1) [.int .i64 0, .int .i64 0, .string ⟨#[]⟩, .string ⟨#[]⟩, .slice none 0 0]) := BR0.out.below hb1
  have BO1 : Hid (Bx w1 (w.heap.size + 1 + 1) [.int .i64 k, .int .i64 p, .string s, .string u, .slice none 0 0]) := BO0.out.below hb1
  have HB1 : Hid (Below w.heap.size w w1) := HB0.out.trans (hb1.mono HB0.out.size)
  have L1 : Hid (Lies encI 3 w1 (w.heap.size + 1 + 1 + 1) w1.heap.size (.slice ka1 n kc1) xs) := Lies.of hd1
  clear hb1 hd1 BA0 BR0 BO0 HB0 S0
  have o0 := BO1.out.c0
  have fo0 := BO1.out.fz 0
  have q0 := BR1.out.c0
  have fq0 := BR1.out.fz 0
  have o1 := BO1.out.c1
  have fo1 := BO1.out.fz 1
  have q1 := BR1.out.c1
  have fq1 := BR1.out.fz 1
  have o2 := BO1.out.c2
  have fo2 := BO1.out.fz 2
  have q2 := BR1.out.c2
  have fq2 := BR1.out.fz 2
  have o3 := BO1.out.c3
  have fo3 := BO1.out.fz 3
  have q3 := BR1.out.c3
  have fq3 := BR1.out.fz 3
  have o4 := BO1.out.c4
  have fo4 := BO1.out.fz 4
  have q4 := BR1.out.c4
  have fq4 := BR1.out.fz 4
  go_wp2
  refine bodyPost_ret (v := .agg #[.int .i64 k, .int .i64 p, .string s, .string u, .slice ka1 n kc1]) (by simp [results, Try.results7, go_sem, q0, q1, q2, q3, q4]) rfl ⟨ka1, kc1, rfl, ?_, ?_⟩
  · exact (((((((L1.out.set (by show _ + 1 + 1 < _; omega) _).set (by show _ + 1 < _; omega) _).set (by show _ + 1 < _; omega) _).set (by show _ + 1 < _; omega) _).set (by show _ + 1 < _; omega) _).set (by show _ + 1 < _; omega) _)).mono (by omega) (by simp [World.setCell])
  · exact ((((((HB1.out.setCell (by show _ ≤ _ + 1 + 1; omega) _).setCell (by show _ ≤ _ + 1; omega) _).setCell (by show _ ≤ _ + 1; omega) _).setCell (by show _ ≤ _ + 1; omega) _).setCell (by show _ ≤ _ + 1; omega) _).setCell (by show _ ≤ _ + 1; omega) _)

set_option maxRecDepth 100000 in
set_option maxHeartbeats 4000000 in
theorem eqEv (k p : Int) (s u : ByteArray) (ka1 ka2 : Option Addr) (n kc1 kc2 : Nat) (xs : List Int) (hx : n = xs.length) (hn : n ≤ 1048576) (w : World) (hp : GRow encI w ka1 xs) (hq : GRow encI w ka2 xs) :
    Calls Try.prog 9 #[.agg #[.int .i64 k, .int .i64 p, .string s, .string u, .slice ka1 n kc1], .agg #[.int .i64 k, .int .i64 p, .string s, .string u, .slice ka2 n kc2]] w fun e w' => e = .returned (.bool true) ∧ Below w.heap.size w w' := by
  have HP : Hid (GRow encI w ka1 xs) := hp
  have HQ : Hid (GRow encI w ka2 xs) := hq
  have HX : Hid (n = xs.length) := hx
  clear hp hq hx
  have n0 := ne_self_int k
  have n1 := ne_self_int p
  have BA0 : Hid (Bx ((w.alloc (.cells #[.int .i64 k, .int .i64 p, .string s, .string u, .slice ka1 n kc1] 27)).alloc (.cells #[.int .i64 k, .int .i64 p, .string s, .string u, .slice ka2 n kc2] 27)) w.heap.size [.int .i64 k, .int .i64 p, .string s, .string u, .slice ka1 n kc1]) := (Bx.new w [.int .i64 k, .int .i64 p, .string s, .string u, .slice ka1 n kc1] 27).alloc _
  have BB0 : Hid (Bx ((w.alloc (.cells #[.int .i64 k, .int .i64 p, .string s, .string u, .slice ka1 n kc1] 27)).alloc (.cells #[.int .i64 k, .int .i64 p, .string s, .string u, .slice ka2 n kc2] 27)) (w.heap.size + 1) [.int .i64 k, .int .i64 p, .string s, .string u, .slice ka2 n kc2]) := by
    have h := Bx.new (w.alloc (.cells #[.int .i64 k, .int .i64 p, .string s, .string u, .slice ka1 n kc1] 27)) [.int .i64 k, .int .i64 p, .string s, .string u, .slice ka2 n kc2] 27
    rw [show (w.alloc (.cells #[.int .i64 k, .int .i64 p, .string s, .string u, .slice ka1 n kc1] 27)).heap.size = w.heap.size + 1 by simp] at h
    exact h
  have HB0 : Hid (Below w.heap.size w ((w.alloc (.cells #[.int .i64 k, .int .i64 p, .string s, .string u, .slice ka1 n kc1] 27)).alloc (.cells #[.int .i64 k, .int .i64 p, .string s, .string u, .slice ka2 n kc2] 27))) := ((belowRefl w).alloc (Nat.le_refl _) _).alloc (by simp) _
  go_enter Try.func9, Try.ntmps9
  go_wp2_with fail
  refine (eqI xs ka1 ka2 kc1 kc2 n HX.out (by omega) _ (HP.out.below HB0.out) (HQ.out.below HB0.out)).mono ?_
  rintro e w1 ⟨rfl, hb1⟩
  have HB1 : Hid (Below w.heap.size w w1) := HB0.out.trans (hb1.mono HB0.out.size)
  clear hb1 BA0 BB0 HB0
  go_wp2
  go_ret
  exact ⟨rfl, HB1.out⟩

/-- whether an event is right -/
def evB (k p : Int) (s u : ByteArray) (n : Nat) : Bool := decide (1 ≤ k) && decide (k ≤ 12) && decide (0 ≤ p) && decide (s.size ≤ 6) && decide (u.size ≤ 20) && (decide (n = 0) || (decide (k = 12) && decide (n ≤ 10)))
theorem evB_yes {k p : Int} {s u : ByteArray} {n : Nat} (h : 1 ≤ k ∧ k ≤ 12 ∧ 0 ≤ p ∧ s.size ≤ 6 ∧ u.size ≤ 20 ∧ (n = 0 ∨ (k = 12 ∧ n ≤ 10))) : evB k p s u n = true := by
  obtain ⟨h1, h2, h3, h4, h5, h6⟩ := h
  unfold evB
  rw [decide_eq_true h1, decide_eq_true h2, decide_eq_true h3, decide_eq_true h4, decide_eq_true h5]
  rcases h6 with h6 | ⟨h6, h7⟩
  · rw [decide_eq_true h6]; rfl
  · rw [decide_eq_true h6, decide_eq_true h7]; cases decide (n = 0) <;> rfl
theorem evB_no {k p : Int} {s u : ByteArray} {n : Nat} (h : ¬ (1 ≤ k ∧ k ≤ 12 ∧ 0 ≤ p ∧ s.size ≤ 6 ∧ u.size ≤ 20 ∧ (n = 0 ∨ (k = 12 ∧ n ≤ 10)))) : evB k p s u n = false := by
  cases hb : evB k p s u n with
  | false => rfl
  | true =>
    unfold evB at hb
    simp only [Bool.and_eq_true, Bool.or_eq_true, decide_eq_true_eq] at hb
    exact absurd ⟨hb.1.1.1.1.1, hb.1.1.1.1.2, hb.1.1.1.2, hb.1.1.2, hb.1.2, hb.2⟩ h
set_option maxHeartbeats 1000000 in
theorem in16 (x : Int) (w : World) : Calls Try.prog 16 #[.int .i64 x, .int .i64 1, .int .i64 12] w fun e w' => e = .returned (.bool (decide (1 ≤ x) && decide (x ≤ 12))) ∧ w' = w := by
  by_cases h1 : (1 : Int) ≤ x
  · have d1 : decide ((1 : Int) ≤ x) = true := decide_eq_true h1
    by_cases h2 : x ≤ 12
    · have d2 : decide (x ≤ (12 : Int)) = true := decide_eq_true h2
      go_enter Try.func16, Try.ntmps16
      go_wp2
      go_ret
      exact ⟨ret_bool (by first | rfl | (rw [d1, d2]; rfl)), rfl⟩
    · have d2 : decide (x ≤ (12 : Int)) = false := decide_eq_false h2
      go_enter Try.func16, Try.ntmps16
      go_wp2
      go_ret
      exact ⟨ret_bool (by first | rfl | (rw [d1, d2]; rfl)), rfl⟩
  · have d1 : decide ((1 : Int) ≤ x) = false := decide_eq_false h1
    go_enter Try.func16, Try.ntmps16
    go_wp2
    go_ret
    exact ⟨ret_bool (by first | rfl | (rw [d1]; rfl)), rfl⟩

set_option maxRecDepth 100000 in
set_option maxHeartbeats 4000000 in
theorem iev (k p : Int) (s u : ByteArray) (ka : Option Addr) (n kc : Nat) (hs : s.size ≤ 1048576) (hu : u.size ≤ 1048576) (hn : n ≤ 1048576) (w : World) :
    Calls Try.prog 8 #[.agg #[.int .i64 k, .int .i64 p, .string s, .string u, .slice ka n kc]] w fun e w' => e = .returned (.bool (evB k p s u n)) ∧ Below w.heap.size w w' := by
  have HB0 : Hid (Below w.heap.size w (w.alloc (.cells #[.int .i64 k, .int .i64 p, .string s, .string u, .slice ka n kc] 27))) := (belowRefl w).alloc (Nat.le_refl _) _
  have X0 : Hid (Bx (w.alloc (.cells #[.int .i64 k, .int .i64 p, .string s, .string u, .slice ka n kc] 27)) w.heap.size [.int .i64 k, .int .i64 p, .string s, .string u, .slice ka n kc]) := Bx.new w [.int .i64 k, .int .i64 p, .string s, .string u, .slice ka n kc] 27
  by_cases ha : k < 1
  · have da : decide (k < 1) = true := decide_eq_true ha
    go_enter Try.func8, Try.ntmps8
    go_wp2
    go_ret
    first | exact ⟨ret_bool (evB_yes (by omega)).symm, HB0.out⟩ | exact ⟨ret_bool (evB_no (by omega)).symm, HB0.out⟩
  · have da : decide (k < 1) = false := decide_eq_false ha
    by_cases hb : 12 < k
    · have db : decide (12 < k) = true := decide_eq_true hb
      go_enter Try.func8, Try.ntmps8
      go_wp2
      go_ret
      first | exact ⟨ret_bool (evB_yes (by omega)).symm, HB0.out⟩ | exact ⟨ret_bool (evB_no (by omega)).symm, HB0.out⟩
    · have db : decide (12 < k) = false := decide_eq_false hb
      by_cases hc : p < 0
      · have dc : decide (p < 0) = true := decide_eq_true hc
        go_enter Try.func8, Try.ntmps8
        go_wp2
        go_ret
        first | exact ⟨ret_bool (evB_yes (by omega)).symm, HB0.out⟩ | exact ⟨ret_bool (evB_no (by omega)).symm, HB0.out⟩
      · have dc : decide (p < 0) = false := decide_eq_false hc
        by_cases hd : (6 : Int) < (s.size : Int)
        · have dd : decide ((6 : Int) < (s.size : Int)) = true := decide_eq_true hd
          go_enter Try.func8, Try.ntmps8
          go_wp2
          go_ret
          first | exact ⟨ret_bool (evB_yes (by omega)).symm, HB0.out⟩ | exact ⟨ret_bool (evB_no (by omega)).symm, HB0.out⟩
        · have dd : decide ((6 : Int) < (s.size : Int)) = false := decide_eq_false hd
          by_cases he : (20 : Int) < (u.size : Int)
          · have de : decide ((20 : Int) < (u.size : Int)) = true := decide_eq_true he
            go_enter Try.func8, Try.ntmps8
            go_wp2
            go_ret
            first | exact ⟨ret_bool (evB_yes (by omega)).symm, HB0.out⟩ | exact ⟨ret_bool (evB_no (by omega)).symm, HB0.out⟩
          · have de : decide ((20 : Int) < (u.size : Int)) = false := decide_eq_false he
            by_cases hg : (n : Int) = 0
            · have dg : decide ((n : Int) = 0) = true := decide_eq_true hg
              have eg : ((n : Int) == 0) = true := by rw [hg]; rfl
              go_enter Try.func8, Try.ntmps8
              go_wp2
              go_ret
              first | exact ⟨ret_bool (evB_yes (by omega)).symm, HB0.out⟩ | exact ⟨ret_bool (evB_no (by omega)).symm, HB0.out⟩
            · have dg : decide ((n : Int) = 0) = false := decide_eq_false hg
              have eg : ((n : Int) == 0) = false := by rw [beq_eq_false_iff_ne]; exact hg
              by_cases hh : k = 12
              · have dh : decide (k = 12) = true := decide_eq_true hh
                subst hh
                by_cases hf : (10 : Int) < (n : Int)
                · have df : decide ((10 : Int) < (n : Int)) = true := decide_eq_true hf
                  have ef : decide ((n : Int) ≤ 10) = false := decide_eq_false (by omega)
                  go_enter Try.func8, Try.ntmps8
                  go_wp2
                  go_ret
                  first | exact ⟨ret_bool (evB_yes (by omega)).symm, HB0.out⟩ | exact ⟨ret_bool (evB_no (by omega)).symm, HB0.out⟩
                · have df : decide ((10 : Int) < (n : Int)) = false := decide_eq_false hf
                  have ef : decide ((n : Int) ≤ 10) = true := decide_eq_true (by omega)
                  go_enter Try.func8, Try.ntmps8
                  go_wp2
                  go_ret
                  first | exact ⟨ret_bool (evB_yes (by omega)).symm, HB0.out⟩ | exact ⟨ret_bool (evB_no (by omega)).symm, HB0.out⟩
              · have dh : decide (k = 12) = false := decide_eq_false hh
                have eh : (k == (12 : Int)) = false := by rw [beq_eq_false_iff_ne]; exact hh
                go_enter Try.func8, Try.ntmps8
                go_wp2
                go_ret
                first | exact ⟨ret_bool (evB_yes (by omega)).symm, HB0.out⟩ | exact ⟨ret_bool (evB_no (by omega)).symm, HB0.out⟩

set_option maxRecDepth 100000 in
set_option maxHeartbeats 4000000 in
theorem sev (k p : Int) (s u : ByteArray) (ka : Option Addr) (n kc : Nat) (hs : s.size ≤ 1048576) (hu : u.size ≤ 1048576) (hn : n ≤ 1048576) (w : World) :
    Calls Try.prog 6 #[.agg #[.int .i64 k, .int .i64 p, .string s, .string u, .slice ka n kc]] w fun e w' => e = .returned (.bool (evB k p s u n)) ∧ Below w.heap.size w w' := by
  have HB0 : Hid (Below w.heap.size w (w.alloc (.cells #[.int .i64 k, .int .i64 p, .string s, .string u, .slice ka n kc] 27))) := (belowRefl w).alloc (Nat.le_refl _) _
  have X0 : Hid (Bx (w.alloc (.cells #[.int .i64 k, .int .i64 p, .string s, .string u, .slice ka n kc] 27)) w.heap.size [.int .i64 k, .int .i64 p, .string s, .string u, .slice ka n kc]) := Bx.new w [.int .i64 k, .int .i64 p, .string s, .string u, .slice ka n kc] 27
  by_cases ha : k < 1
  · have da : decide (k < 1) = true := decide_eq_true ha
    go_enter Try.func6, Try.ntmps6
    have C16 : Hid (∀ w : World, Calls Try.prog 16 #[.int .i64 k, .int .i64 1, .int .i64 12] w fun e w' => e = .returned (.bool false) ∧ w' = w) := fun w => by
      have h := in16 k w
      have e : (decide (1 ≤ (k : Int)) && decide ((k : Int) ≤ 12)) = false := by rw [decide_eq_false (by omega : ¬ 1 ≤ k)]; rfl
      rw [e] at h
      exact h
    go_upto_region 1 with fail
    generalize (w.alloc (.cells #[.int .i64 k, .int .i64 p, .string s, .string u, .slice ka n kc] 27)) = w0 at *
    have x0 := X0.out.c0
    have x1 := X0.out.c1
    have x2 := X0.out.c2
    have x3 := X0.out.c3
    have x4 := X0.out.c4
    go_wp2_with fail
    refine (C16.out _).mono ?_
    rintro e w1 ⟨rfl, rfl⟩
    go_wp2
    go_ret
    first | exact ⟨ret_bool (evB_yes (by omega)).symm, HB0.out⟩ | exact ⟨ret_bool (evB_no (by omega)).symm, HB0.out⟩
  · have da : decide (k < 1) = false := decide_eq_false ha
    by_cases hb : 12 < k
    · have db : decide (12 < k) = true := decide_eq_true hb
      go_enter Try.func6, Try.ntmps6
      have C16 : Hid (∀ w : World, Calls Try.prog 16 #[.int .i64 k, .int .i64 1, .int .i64 12] w fun e w' => e = .returned (.bool false) ∧ w' = w) := fun w => by
        have h := in16 k w
        have e : (decide (1 ≤ (k : Int)) && decide ((k : Int) ≤ 12)) = false := by rw [decide_eq_false (by omega : ¬ k ≤ 12), Bool.and_false]
        rw [e] at h
        exact h
      go_upto_region 1 with fail
      generalize (w.alloc (.cells #[.int .i64 k, .int .i64 p, .string s, .string u, .slice ka n kc] 27)) = w0 at *
      have x0 := X0.out.c0
      have x1 := X0.out.c1
      have x2 := X0.out.c2
      have x3 := X0.out.c3
      have x4 := X0.out.c4
      go_wp2_with fail
      refine (C16.out _).mono ?_
      rintro e w1 ⟨rfl, rfl⟩
      go_wp2
      go_ret
      first | exact ⟨ret_bool (evB_yes (by omega)).symm, HB0.out⟩ | exact ⟨ret_bool (evB_no (by omega)).symm, HB0.out⟩
    · have db : decide (12 < k) = false := decide_eq_false hb
      by_cases hc : p < 0
      · have dc : decide (p < 0) = true := decide_eq_true hc
        go_enter Try.func6, Try.ntmps6
        have C16 : Hid (∀ w : World, Calls Try.prog 16 #[.int .i64 k, .int .i64 1, .int .i64 12] w fun e w' => e = .returned (.bool true) ∧ w' = w) := fun w => by
          have h := in16 k w
          have e : (decide (1 ≤ (k : Int)) && decide ((k : Int) ≤ 12)) = true := by rw [decide_eq_true (by omega : 1 ≤ k), decide_eq_true (by omega : k ≤ 12)]; rfl
          rw [e] at h
          exact h
        go_upto_region 1 with fail
        generalize (w.alloc (.cells #[.int .i64 k, .int .i64 p, .string s, .string u, .slice ka n kc] 27)) = w0 at *
        have x0 := X0.out.c0
        have x1 := X0.out.c1
        have x2 := X0.out.c2
        have x3 := X0.out.c3
        have x4 := X0.out.c4
        go_wp2_with fail
        refine (C16.out _).mono ?_
        rintro e w1 ⟨rfl, rfl⟩
        go_wp2
        go_ret
        first | exact ⟨ret_bool (evB_yes (by omega)).symm, HB0.out⟩ | exact ⟨ret_bool (evB_no (by omega)).symm, HB0.out⟩
      · have dc : decide (p < 0) = false := decide_eq_false hc
        by_cases hd : (6 : Int) < (s.size : Int)
        · have dd : decide ((6 : Int) < (s.size : Int)) = true := decide_eq_true hd
          go_enter Try.func6, Try.ntmps6
          have C16 : Hid (∀ w : World, Calls Try.prog 16 #[.int .i64 k, .int .i64 1, .int .i64 12] w fun e w' => e = .returned (.bool true) ∧ w' = w) := fun w => by
            have h := in16 k w
            have e : (decide (1 ≤ (k : Int)) && decide ((k : Int) ≤ 12)) = true := by rw [decide_eq_true (by omega : 1 ≤ k), decide_eq_true (by omega : k ≤ 12)]; rfl
            rw [e] at h
            exact h
          go_upto_region 1 with fail
          generalize (w.alloc (.cells #[.int .i64 k, .int .i64 p, .string s, .string u, .slice ka n kc] 27)) = w0 at *
          have x0 := X0.out.c0
          have x1 := X0.out.c1
          have x2 := X0.out.c2
          have x3 := X0.out.c3
          have x4 := X0.out.c4
          go_wp2_with fail
          refine (C16.out _).mono ?_
          rintro e w1 ⟨rfl, rfl⟩
          go_wp2
          go_ret
          first | exact ⟨ret_bool (evB_yes (by omega)).symm, HB0.out⟩ | exact ⟨ret_bool (evB_no (by omega)).symm, HB0.out⟩
        · have dd : decide ((6 : Int) < (s.size : Int)) = false := decide_eq_false hd
          by_cases he : (20 : Int) < (u.size : Int)
          · have de : decide ((20 : Int) < (u.size : Int)) = true := decide_eq_true he
            go_enter Try.func6, Try.ntmps6
            have C16 : Hid (∀ w : World, Calls Try.prog 16 #[.int .i64 k, .int .i64 1, .int .i64 12] w fun e w' => e = .returned (.bool true) ∧ w' = w) := fun w => by
              have h := in16 k w
              have e : (decide (1 ≤ (k : Int)) && decide ((k : Int) ≤ 12)) = true := by rw [decide_eq_true (by omega : 1 ≤ k), decide_eq_true (by omega : k ≤ 12)]; rfl
              rw [e] at h
              exact h
            go_upto_region 1 with fail
            generalize (w.alloc (.cells #[.int .i64 k, .int .i64 p, .string s, .string u, .slice ka n kc] 27)) = w0 at *
            have x0 := X0.out.c0
            have x1 := X0.out.c1
            have x2 := X0.out.c2
            have x3 := X0.out.c3
            have x4 := X0.out.c4
            go_wp2_with fail
            refine (C16.out _).mono ?_
            rintro e w1 ⟨rfl, rfl⟩
            go_wp2
            go_ret
            first | exact ⟨ret_bool (evB_yes (by omega)).symm, HB0.out⟩ | exact ⟨ret_bool (evB_no (by omega)).symm, HB0.out⟩
          · have de : decide ((20 : Int) < (u.size : Int)) = false := decide_eq_false he
            by_cases hf : (10 : Int) < (n : Int)
            · have df : decide ((10 : Int) < (n : Int)) = true := decide_eq_true hf
              have ef : decide ((n : Int) ≤ 10) = false := decide_eq_false (by omega)
              go_enter Try.func6, Try.ntmps6
              have C16 : Hid (∀ w : World, Calls Try.prog 16 #[.int .i64 k, .int .i64 1, .int .i64 12] w fun e w' => e = .returned (.bool true) ∧ w' = w) := fun w => by
                have h := in16 k w
                have e : (decide (1 ≤ (k : Int)) && decide ((k : Int) ≤ 12)) = true := by rw [decide_eq_true (by omega : 1 ≤ k), decide_eq_true (by omega : k ≤ 12)]; rfl
                rw [e] at h
                exact h
              go_upto_region 1 with fail
              generalize (w.alloc (.cells #[.int .i64 k, .int .i64 p, .string s, .string u, .slice ka n kc] 27)) = w0 at *
              have x0 := X0.out.c0
              have x1 := X0.out.c1
              have x2 := X0.out.c2
              have x3 := X0.out.c3
              have x4 := X0.out.c4
              go_wp2_with fail
              refine (C16.out _).mono ?_
              rintro e w1 ⟨rfl, rfl⟩
              go_wp2
              go_ret
              first | exact ⟨ret_bool (evB_yes (by omega)).symm, HB0.out⟩ | exact ⟨ret_bool (evB_no (by omega)).symm, HB0.out⟩
            · have df : decide ((10 : Int) < (n : Int)) = false := decide_eq_false hf
              have ef : decide ((n : Int) ≤ 10) = true := decide_eq_true (by omega)
              by_cases hh : k = 12
              · have dh : decide (k = 12) = true := decide_eq_true hh
                subst hh
                by_cases hg : (n : Int) = 0
                · have dg : decide ((n : Int) = 0) = true := decide_eq_true hg
                  have eg : ((n : Int) == 0) = true := by rw [hg]; rfl
                  go_enter Try.func6, Try.ntmps6
                  have C16 : Hid (∀ w : World, Calls Try.prog 16 #[.int .i64 12, .int .i64 1, .int .i64 12] w fun e w' => e = .returned (.bool true) ∧ w' = w) := fun w => by
                    have h := in16 12 w
                    have e : (decide (1 ≤ (12 : Int)) && decide ((12 : Int) ≤ 12)) = true := by rfl
                    rw [e] at h
                    exact h
                  go_upto_region 1 with fail
                  generalize (w.alloc (.cells #[.int .i64 12, .int .i64 p, .string s, .string u, .slice ka n kc] 27)) = w0 at *
                  have x0 := X0.out.c0
                  have x1 := X0.out.c1
                  have x2 := X0.out.c2
                  have x3 := X0.out.c3
                  have x4 := X0.out.c4
                  go_wp2_with fail
                  refine (C16.out _).mono ?_
                  rintro e w1 ⟨rfl, rfl⟩
                  go_wp2
                  go_ret
                  first | exact ⟨ret_bool (evB_yes (by omega)).symm, HB0.out⟩ | exact ⟨ret_bool (evB_no (by omega)).symm, HB0.out⟩
                · have dg : decide ((n : Int) = 0) = false := decide_eq_false hg
                  have eg : ((n : Int) == 0) = false := by rw [beq_eq_false_iff_ne]; exact hg
                  go_enter Try.func6, Try.ntmps6
                  have C16 : Hid (∀ w : World, Calls Try.prog 16 #[.int .i64 12, .int .i64 1, .int .i64 12] w fun e w' => e = .returned (.bool true) ∧ w' = w) := fun w => by
                    have h := in16 12 w
                    have e : (decide (1 ≤ (12 : Int)) && decide ((12 : Int) ≤ 12)) = true := by rfl
                    rw [e] at h
                    exact h
                  go_upto_region 1 with fail
                  generalize (w.alloc (.cells #[.int .i64 12, .int .i64 p, .string s, .string u, .slice ka n kc] 27)) = w0 at *
                  have x0 := X0.out.c0
                  have x1 := X0.out.c1
                  have x2 := X0.out.c2
                  have x3 := X0.out.c3
                  have x4 := X0.out.c4
                  go_wp2_with fail
                  refine (C16.out _).mono ?_
                  rintro e w1 ⟨rfl, rfl⟩
                  go_wp2
                  go_ret
                  first | exact ⟨ret_bool (evB_yes (by omega)).symm, HB0.out⟩ | exact ⟨ret_bool (evB_no (by omega)).symm, HB0.out⟩
              · have dh : decide (k = 12) = false := decide_eq_false hh
                have eh : (k == (12 : Int)) = false := by rw [beq_eq_false_iff_ne]; exact hh
                by_cases hg : (n : Int) = 0
                · have dg : decide ((n : Int) = 0) = true := decide_eq_true hg
                  have eg : ((n : Int) == 0) = true := by rw [hg]; rfl
                  go_enter Try.func6, Try.ntmps6
                  have C16 : Hid (∀ w : World, Calls Try.prog 16 #[.int .i64 k, .int .i64 1, .int .i64 12] w fun e w' => e = .returned (.bool true) ∧ w' = w) := fun w => by
                    have h := in16 k w
                    have e : (decide (1 ≤ (k : Int)) && decide ((k : Int) ≤ 12)) = true := by rw [decide_eq_true (by omega : 1 ≤ k), decide_eq_true (by omega : k ≤ 12)]; rfl
                    rw [e] at h
                    exact h
                  go_upto_region 1 with fail
                  generalize (w.alloc (.cells #[.int .i64 k, .int .i64 p, .string s, .string u, .slice ka n kc] 27)) = w0 at *
                  have x0 := X0.out.c0
                  have x1 := X0.out.c1
                  have x2 := X0.out.c2
                  have x3 := X0.out.c3
                  have x4 := X0.out.c4
                  go_wp2_with fail
                  refine (C16.out _).mono ?_
                  rintro e w1 ⟨rfl, rfl⟩
                  go_wp2
                  go_ret
                  first | exact ⟨ret_bool (evB_yes (by omega)).symm, HB0.out⟩ | exact ⟨ret_bool (evB_no (by omega)).symm, HB0.out⟩
                · have dg : decide ((n : Int) = 0) = false := decide_eq_false hg
                  have eg : ((n : Int) == 0) = false := by rw [beq_eq_false_iff_ne]; exact hg
                  go_enter Try.func6, Try.ntmps6
                  have C16 : Hid (∀ w : World, Calls Try.prog 16 #[.int .i64 k, .int .i64 1, .int .i64 12] w fun e w' => e = .returned (.bool true) ∧ w' = w) := fun w => by
                    have h := in16 k w
                    have e : (decide (1 ≤ (k : Int)) && decide ((k : Int) ≤ 12)) = true := by rw [decide_eq_true (by omega : 1 ≤ k), decide_eq_true (by omega : k ≤ 12)]; rfl
                    rw [e] at h
                    exact h
                  go_upto_region 1 with fail
                  generalize (w.alloc (.cells #[.int .i64 k, .int .i64 p, .string s, .string u, .slice ka n kc] 27)) = w0 at *
                  have x0 := X0.out.c0
                  have x1 := X0.out.c1
                  have x2 := X0.out.c2
                  have x3 := X0.out.c3
                  have x4 := X0.out.c4
                  go_wp2_with fail
                  refine (C16.out _).mono ?_
                  rintro e w1 ⟨rfl, rfl⟩
                  go_wp2
                  go_ret
                  first | exact ⟨ret_bool (evB_yes (by omega)).symm, HB0.out⟩ | exact ⟨ret_bool (evB_no (by omega)).symm, HB0.out⟩
end Go.Proofs.Ytnneodofajhbcaa

/- The law FnWrites, walked. -/
import Derived.Test.YthlfddbijlfgeaaD6
import Derived.Test.YthlfddbijlfgeaaC2
import Derived.Test.YthlfddbijlfgeaaW2
import Derived.Test.YthlfddbijlfgeaaJ1
namespace Go.Proofs.Ythlfddbijlfgeaa
open Go.RowKit
open KM
attribute [local go_sem ↓] Go.wp_at_zero Go.wp_at_succ

theorem lt_of_ne {a b : ByteArray} (h : lt a b = false) (hne : a ≠ b) : lt b a = true := less_total _ _ h (fun e => hne (toList_inj e))
theorem filter_all' {ys : List Wt} {p : Wt → Bool} (h : ∀ z ∈ ys, p z = true) : ys.filter p = ys := List.filter_eq_self.2 h
theorem filter_none' {ys : List Wt} {p : Wt → Bool} (h : ∀ z ∈ ys, p z = false) : ys.filter p = [] := List.filter_eq_nil_iff.2 (fun z hz => by rw [h z hz]; simp)
/-- on ascending writes both make the same -/
theorem putI_eq : ∀ (xs : List Wt) (x : Wt), Asc xs → putI xs x = putS xs x
  | [], x, _ => rfl
  | y :: ys, x, h => by
    obtain ⟨h1, h2⟩ := List.pairwise_cons.1 h
    have ih := putI_eq ys x h2
    by_cases e : y.1 = x.1
    · have ha : (y :: ys).any (fun z => decide (z.1 = x.1)) = true := by simp [e]
      have hf : fidx (y :: ys) x.1 = 0 := by unfold fidx; rw [if_pos e]
      unfold putI putS
      rw [if_pos ha, hf]
      have h3 : ∀ z ∈ ys, lt x.1 z.1 = true := fun z hz => by rw [← e]; exact h1 z hz
      have f1 : (y :: ys).filter (fun z => lt z.1 x.1) = [] := filter_none' (fun z hz => by
        rcases List.mem_cons.1 hz with rfl | hz
        · rw [e]; exact lt_irrefl' _
        · exact lt_asymm' (h3 z hz))
      have f2 : (y :: ys).filter (fun z => lt x.1 z.1) = ys := by
        rw [List.filter_cons, e, lt_irrefl']
        simp only [Bool.false_eq_true, if_false]
        exact filter_all' h3
      rw [f1, f2]
      rfl
    · by_cases ha : ys.any (fun z => decide (z.1 = x.1)) = true
      · have ha' : (y :: ys).any (fun z => decide (z.1 = x.1)) = true := by rw [List.any_cons, ha]; simp
        have hf : fidx (y :: ys) x.1 = fidx ys x.1 + 1 := by unfold fidx; rw [if_neg e]; cases ys <;> rfl
        have hy : lt y.1 x.1 = true := by
          rw [List.any_eq_true] at ha
          obtain ⟨z, hz, ez⟩ := ha
          have := h1 z hz
          rw [of_decide_eq_true ez] at this
          exact this
        unfold putI putS at ih ⊢
        rw [if_pos ha] at ih
        rw [if_pos ha', hf, List.set_cons_succ, ih, List.filter_cons, hy, List.filter_cons, lt_asymm' hy]
        simp
      · have ha' : ¬ (y :: ys).any (fun z => decide (z.1 = x.1)) = true := by rw [List.any_cons]; simp [e]; simpa using ha
        cases hl : lt x.1 y.1
        · have hy : lt y.1 x.1 = true := lt_of_ne hl (fun e' => e e'.symm)
          have hx : aidx (y :: ys) x.1 = aidx ys x.1 + 1 := by
            show (if lt x.1 y.1 then 0 else aidx ys x.1 + 1) = _
            rw [hl]; rfl
          unfold putI putS at ih ⊢
          rw [if_neg ha] at ih
          rw [if_neg ha', hx, List.filter_cons, hy, List.filter_cons, hl]
          have e2 : insAt (y :: ys) (aidx ys x.1 + 1) x = y :: insAt ys (aidx ys x.1) x := by unfold insAt; simp
          rw [e2, ih]
          simp
        · have hx : aidx (y :: ys) x.1 = 0 := by
            show (if lt x.1 y.1 then 0 else aidx ys x.1 + 1) = _
            rw [hl]; rfl
          have h3 : ∀ z ∈ y :: ys, lt x.1 z.1 = true := fun z hz => by
            rcases List.mem_cons.1 hz with rfl | hz
            · exact hl
            · exact lt_trans' hl (h1 z hz)
          unfold putI putS
          rw [if_neg ha', hx, filter_none' (fun z hz => lt_asymm' (h3 z hz)), filter_all' h3]
          unfold insAt
          simp

/-- how many of the first k bear the key -/
def cntK (L : List Wt) (s : ByteArray) (k : Nat) : Nat := (L.take k).countP fun y => decide (y.1 = s)
theorem cntK_yes {L : List Wt} {s : ByteArray} {k : Nat} (h : k < L.length) (e : L[k].1 = s) : cntK L s (k + 1) = cntK L s k + 1 := by
  unfold cntK
  rw [List.take_succ_eq_append_getElem h, List.countP_append]
  simp [e]
theorem cntK_no {L : List Wt} {s : ByteArray} {k : Nat} (h : k < L.length) (e : L[k].1 ≠ s) : cntK L s (k + 1) = cntK L s k := by
  unfold cntK
  rw [List.take_succ_eq_append_getElem h, List.countP_append]
  simp [e]
theorem cntK_le (L : List Wt) (s : ByteArray) (k : Nat) : cntK L s k ≤ L.length := by
  unfold cntK
  exact Nat.le_trans List.countP_le_length (by rw [List.length_take]; omega)
theorem put_key {xs : List Wt} {x : Wt} {y : Wt} (hy : y ∈ putS xs x) (e : y.1 = x.1) : y = x := by
  unfold putS at hy
  simp only [List.mem_append, List.mem_filter, List.mem_cons, List.not_mem_nil, or_false] at hy
  rcases hy with (⟨_, h⟩ | rfl) | ⟨_, h⟩
  · rw [e, lt_irrefl'] at h; cases h
  · rfl
  · rw [e, lt_irrefl'] at h; cases h
theorem put_cnt (xs : List Wt) (x : Wt) : cntK (putS xs x) x.1 (putS xs x).length = 1 := by
  unfold cntK
  rw [List.take_length]
  unfold putS
  rw [List.countP_append, List.countP_append]
  have h1 : (xs.filter fun y => lt y.1 x.1).countP (fun y => decide (y.1 = x.1)) = 0 := by
    rw [List.countP_eq_zero]
    intro y hy e
    have := (List.mem_filter.1 hy).2
    rw [of_decide_eq_true e, lt_irrefl'] at this
    cases this
  have h2 : (xs.filter fun y => lt x.1 y.1).countP (fun y => decide (y.1 = x.1)) = 0 := by
    rw [List.countP_eq_zero]
    intro y hy e
    have := (List.mem_filter.1 hy).2
    rw [of_decide_eq_true e, lt_irrefl'] at this
    cases this
  rw [h1, h2]
  simp
theorem put_has {xs : List Wt} {x y : Wt} (hy : y ∈ xs) : y.1 = x.1 ∨ y ∈ putS xs x := by
  by_cases e : y.1 = x.1
  · exact Or.inl e
  · refine Or.inr ?_
    unfold putS
    simp only [List.mem_append, List.mem_filter, List.mem_cons, List.not_mem_nil, or_false]
    cases h : lt y.1 x.1
    · exact Or.inr ⟨hy, lt_of_ne h e⟩
    · exact Or.inl (Or.inl ⟨hy, rfl⟩)
theorem wsd_ok {L : List Wt} (h : WsD L) (h8 : L.length ≤ 8) : writesB L = true := by
  unfold writesB
  simp only [Bool.and_eq_true, decide_eq_true_eq]
  refine ⟨h8, fun j hj => ⟨(h.1 _ (List.getElem_mem hj)).1, fun h0 => ?_⟩⟩
  exact List.pairwise_iff_getElem.1 h.2 (j - 1) j (by omega) hj (by omega)

/-- found so far -/
def fnd (L : List Wt) (y : Wt) (m : Nat) : Bool := (L.take m).any fun z => decide (z = y)
theorem fnd_more {L : List Wt} {y : Wt} {m : Nat} (h : m < L.length) : fnd L y (m + 1) = (fnd L y m || decide (L[m] = y)) := by
  unfold fnd
  rw [List.take_succ_eq_append_getElem h, List.any_append]
  simp

set_option maxRecDepth 100000 in
set_option maxHeartbeats 8000000 in
theorem law4 (len cap : Nat) (a : Option Addr) (w : World) (hl0 : len ≤ 9223372036854775807) (hr : CodeRow w a len) :
    Calls Try.prog 4 #[.slice a len cap] w fun e w' => e = .returned (.bool true) ∧ Below w.heap.size w w' := by
  have HBG : Hid (∀ W : World, Calls Try.prog 12 #[.slice a len cap] W fun e w' => e = .returned (.bool (decide ((1048576 : Int) < (len : Int)))) ∧ w' = W) := fun W => big12 len cap a W
  have HR : Hid (CodeRow w a len) := hr
  clear hr
  by_cases hl : len ≤ 1048576
  · rw [decide_eq_false (by omega)] at HBG
    go_enter Try.func4, Try.ntmps4
    go_wp2_with fail
    refine (HBG.out _).mono ?_
    rintro e w ⟨rfl, rfl⟩
    go_wp2_with fail
    refine (dPutWrite len cap a hl _ HR.out).mono ?_
    rintro e w1 ⟨xs, x, a1, c1, hws, hxl, hwx, rfl, ho1, hb1⟩
    have HW : Hid (WsD xs) := hws
    have HX : Hid (WtD x) := hwx
    have HZX : Hid (x.1.size ≤ 1048576 ∧ x.2.1.size ≤ 1048576) := ⟨by have := hwx.2.1; omega, by have := hwx.2.2; omega⟩
    have B1 : Hid (Bx (w1.alloc (.cells #[.string x.1, .string x.2.1, .bool x.2.2] 34)) w1.heap.size [.string x.1, .string x.2.1, .bool x.2.2]) := Bx.new w1 _ 34
    have R1 : Hid (GRow encW (w1.alloc (.cells #[.string x.1, .string x.2.1, .bool x.2.2] 34)) a1 xs) := ho1.grow.below ((belowRefl w1).alloc (Nat.le_refl _) _)
    have HB1 : Hid (Below w.heap.size w (w1.alloc (.cells #[.string x.1, .string x.2.1, .bool x.2.2] 34))) := hb1.alloc hb1.size _
    obtain ⟨L, hL⟩ : ∃ L, L = putS xs x := ⟨_, rfl⟩
    have HL : Hid (L = putS xs x) := hL
    have hLl : L.length ≤ 4 := by rw [hL]; exact Nat.le_trans (len_put xs x) (by omega)
    have C2 : Hid (∀ W : World, GRow encW W a1 xs → Calls Try.prog 28 #[.slice a1 xs.length c1, .agg #[.string x.1, .string x.2.1, .bool x.2.2]] W fun e w' => ∃ a2 c2, e = .returned (.slice a2 L.length c2) ∧ GOwn encW 34 w' W.heap.size (.slice a2 L.length c2) L ∧ Below W.heap.size W w') := fun W hW => by
      have h := iput xs x a1 c1 (by omega) hws.fit HZX.out.1 HZX.out.2 W hW
      rw [putI_eq xs x hws.2, ← hL] at h
      exact h
    have C3 : Hid (∀ W : World, GRow encW W a1 xs → Calls Try.prog 32 #[.slice a1 xs.length c1, .agg #[.string x.1, .string x.2.1, .bool x.2.2]] W fun e w' => ∃ a2 c2, e = .returned (.slice a2 L.length c2) ∧ GOwn encW 34 w' W.heap.size (.slice a2 L.length c2) L ∧ Below W.heap.size W w') := fun W hW => by
      have h := sput xs x a1 c1 (by omega) W hW
      rw [← hL] at h
      exact h
    have HK : Hid (∀ z ∈ L, z.1 = x.1 → z = x) := fun z hz e => put_key (by rw [← hL]; exact hz) e
    have HCN : Hid (cntK L x.1 L.length = 1) := by show _ = _; rw [hL]; exact put_cnt xs x
    have HHS : Hid (∀ z ∈ xs, z.1 = x.1 ∨ z ∈ L) := fun z hz => by rw [hL]; exact put_has hz
    have HLD : Hid (WsD L) := by show WsD L; rw [hL]; exact wsd_put hws hwx
    have HOK : Hid (writesB L = true) := wsd_ok HLD.out (by omega)
    clear hws hwx ho1 hb1 hL
    have b0 := B1.out.c0
    have b1 := B1.out.c1
    have b2 := B1.out.c2
    go_wp2_with fail
    refine (C2.out _ R1.out).mono ?_
    rintro e w2 ⟨a2, c2, rfl, ho2, hb2⟩
    have O2 : Hid (GRow encW w2 a2 L) := ho2.grow
    have B2 : Hid (Bx w2 w1.heap.size [.string x.1, .string x.2.1, .bool x.2.2]) := B1.out.below hb2
    have R2 : Hid (GRow encW w2 a1 xs) := R1.out.below hb2
    have HB2 : Hid (Below w.heap.size w w2) := HB1.out.trans (hb2.mono HB1.out.size)
    clear ho2 hb2 B1 R1 HB1 b0 b1 b2
    go_wp2
    go_loopw [6, 7] (fun s t wr => ∃ k : Nat, k ≤ L.length ∧ s = .int .i64 ((cntK L x.1 k : Nat) : Int) ∧ t = .int .i64 k ∧ Hid (GRow encW wr a2 L) ∧ Hid (Bx wr w1.heap.size [.string x.1, .string x.2.1, .bool x.2.2]) ∧ Hid (GRow encW wr a1 xs) ∧ Hid (Below w.heap.size w wr)) (fun _ t _ => L.length - (intOf t).toNat)
    case atStart => exact ⟨0, Nat.zero_le _, rfl, rfl, O2, B2, R2, HB2⟩
    case round =>
      clear O2 B2 R2 HB2
      obtain ⟨k, hk, rfl, rfl, O, BB, R, HB⟩ := hrel
      by_cases hlt : k < L.length
      · have hlt' : (k : Int) < (L.length : Int) := by omega
        have hk0 : (0 : Int) ≤ (k : Int) := by omega
        have hcl := cntK_le L x.1 k
        obtain ⟨b, off, rfl, hbl, hc⟩ := O.out (by omega)
        have r0 := (wat hc k hlt).1
        have r1 := (wat hc k hlt).2.1
        have r2 := (wat hc k hlt).2.2
        clear hc
        have b0 := BB.out.c0
        have b1 := BB.out.c1
        have b2 := BB.out.c2
        by_cases hin : L[k].1 = x.1
        · have hx : L[k] = x := HK.out _ (List.getElem_mem hlt) hin
          have HC : Hid (cntK L x.1 (k + 1) = cntK L x.1 k + 1) := cntK_yes hlt hin
          rw [hx] at r0 r1 r2
          clear hin hx
          go_wp2
          go_quiet (fail)
          go_wp2
          go_quiet (fail)
          go_wp2
          go_roundw
          case rel => exact ⟨k + 1, by omega, by rw [HC.out]; go_num, by go_num, O.out.below (below_drewN (belowRefl wr) _), BB.out.below (below_drewN (belowRefl wr) _), R.out.below (below_drewN (belowRefl wr) _), below_drewN HB.out _⟩
          case measure => simp [intOf]; omega
        · have hin' : (L[k].1.toList == x.1.toList) = false := by rw [beq_eq_false_iff_ne]; exact fun e => hin (toList_inj e)
          have HC : Hid (cntK L x.1 (k + 1) = cntK L x.1 k) := cntK_no hlt hin
          clear hin
          go_wp2
          go_quiet (fail)
          go_wp2
          go_roundw
          case rel => exact ⟨k + 1, by omega, by rw [HC.out], by go_num, O.out.below (below_drewN (belowRefl wr) _), BB.out.below (below_drewN (belowRefl wr) _), R.out.below (below_drewN (belowRefl wr) _), below_drewN HB.out _⟩
          case measure => simp [intOf]; omega
      · have hlt' : ¬ (k : Int) < (L.length : Int) := by omega
        have HC : Hid (cntK L x.1 k = 1) := by
          show _ = _
          rw [show k = L.length by omega]; exact HCN.out
        rw [HC.out]
        go_wp2
        go_loopw [8] (fun t wr => ∃ j : Nat, j ≤ xs.length ∧ t = .int .i64 j ∧ Hid (GRow encW wr a2 L) ∧ Hid (Bx wr w1.heap.size [.string x.1, .string x.2.1, .bool x.2.2]) ∧ Hid (GRow encW wr a1 xs) ∧ Hid (Below w.heap.size w wr)) (fun t _ => xs.length - (intOf t).toNat)
        case atStart => exact ⟨0, Nat.zero_le _, rfl, O, BB, R, HB⟩
        case round =>
          clear O BB R HB
          obtain ⟨j, hj, rfl, O, BB, R, HB⟩ := hrel
          by_cases hltj : j < xs.length
          · have hltj' : (j : Int) < (xs.length : Int) := by omega
            have hj0 : (0 : Int) ≤ (j : Int) := by omega
            obtain ⟨b, off, rfl, hbl, hc⟩ := R.out (by omega)
            have r0 := (wat hc j hltj).1
            clear hc
            have b0 := BB.out.c0
            go_wp2
            go_quiet (fail)
            obtain ⟨S0, hS0⟩ : ∃ S0, S0 = (xs[j].1.toList == x.1.toList) := ⟨_, rfl⟩
            have HS0 : Hid (S0 = (xs[j].1.toList == x.1.toList)) := hS0
            go_wp2
            rw [← hS0]
            clear r0 b0 hS0
            go_loopw [9, 10] (fun s t wr => ∃ m : Nat, m ≤ L.length ∧ s = .bool (S0 || fnd L xs[j] m) ∧ t = .int .i64 m ∧ Hid (GRow encW wr a2 L) ∧ Hid (Bx wr w1.heap.size [.string x.1, .string x.2.1, .bool x.2.2]) ∧ Hid (GRow encW wr (some ⟨b, off, none⟩) xs) ∧ Hid (Below w.heap.size w wr)) (fun _ t _ => L.length - (intOf t).toNat)
            case atStart => exact ⟨0, Nat.zero_le _, by simp [fnd], rfl, O.out.below (below_drewN (belowRefl wr) _), BB.out.below (below_drewN (belowRefl wr) _), R.out.below (below_drewN (belowRefl wr) _), below_drewN HB.out _⟩
            case round =>
              clear O BB R HB
              obtain ⟨m, hm, rfl, rfl, O, BB, R, HB⟩ := hrel
              by_cases hltm : m < L.length
              · have hltm' : (m : Int) < (L.length : Int) := by omega
                have hm0 : (0 : Int) ≤ (m : Int) := by omega
                obtain ⟨b', off', hbo, hbl', hc'⟩ := R.out (by omega)
                cases hbo
                have r0 := (wat hc' j hltj).1
                have r1 := (wat hc' j hltj).2.1
                have r2 := (wat hc' j hltj).2.2
                clear hc'
                obtain ⟨b2, off2, rfl, hbl2, hc2⟩ := O.out (by omega)
                have q0 := (wat hc2 m hltm).1
                have q1 := (wat hc2 m hltm).2.1
                have q2 := (wat hc2 m hltm).2.2
                clear hc2
                obtain ⟨S, hS⟩ : ∃ S, S = (S0 || fnd L xs[j] m) := ⟨_, rfl⟩
                have HS : Hid ((S0 || fnd L xs[j] (m + 1)) = (S || decide (L[m] = xs[j]))) := by show _ = _; rw [fnd_more hltm, ← Bool.or_assoc, hS]
                rw [← hS]
                clear hS
                cases S
                · by_cases heq : L[m] = xs[j]
                  · have HS2 : Hid ((S0 || fnd L xs[j] (m + 1)) = true) := by show _ = _; rw [HS.out]; simp [heq]
                    rw [heq] at q0 q1 q2
                    clear heq HS
                    go_wp2
                    go_quiet (fail)
                    go_wp2
                    go_roundw
                    case rel => exact ⟨m + 1, by omega, by rw [HS2.out], by go_num, O.out.below (below_drewN (belowRefl wr) _), BB.out.below (below_drewN (belowRefl wr) _), R.out.below (below_drewN (belowRefl wr) _), below_drewN HB.out _⟩
                    case measure => simp [intOf]; omega
                  · have HS2 : Hid ((S0 || fnd L xs[j] (m + 1)) = false) := by show _ = _; rw [HS.out]; simp [heq]
                    by_cases h0 : L[m].1 = xs[j].1
                    · rw [h0] at q0
                      by_cases h1 : L[m].2.1 = xs[j].2.1
                      · have h2 : L[m].2.2 ≠ xs[j].2.2 := fun e => heq (Prod.ext h0 (Prod.ext h1 e))
                        have h2' : (L[m].2.2 == xs[j].2.2) = false := by simpa using h2
                        rw [h1] at q1
                        clear heq HS h0 h1 h2
                        go_wp2
                        go_quiet (fail)
                        go_wp2
                        go_roundw
                        case rel => exact ⟨m + 1, by omega, by rw [HS2.out], by go_num, O.out.below (below_drewN (belowRefl wr) _), BB.out.below (below_drewN (belowRefl wr) _), R.out.below (below_drewN (belowRefl wr) _), below_drewN HB.out _⟩
                        case measure => simp [intOf]; omega
                      · have h1' : (L[m].2.1.toList == xs[j].2.1.toList) = false := by rw [beq_eq_false_iff_ne]; exact fun e => h1 (toList_inj e)
                        clear heq HS h0 h1
                        go_wp2
                        go_quiet (fail)
                        go_wp2
                        go_roundw
                        case rel => exact ⟨m + 1, by omega, by rw [HS2.out], by go_num, O.out.below (below_drewN (belowRefl wr) _), BB.out.below (below_drewN (belowRefl wr) _), R.out.below (below_drewN (belowRefl wr) _), below_drewN HB.out _⟩
                        case measure => simp [intOf]; omega
                    · have h0' : (L[m].1.toList == xs[j].1.toList) = false := by rw [beq_eq_false_iff_ne]; exact fun e => h0 (toList_inj e)
                      clear heq HS h0
                      go_wp2
                      go_quiet (fail)
                      go_wp2
                      go_roundw
                      case rel => exact ⟨m + 1, by omega, by rw [HS2.out], by go_num, O.out.below (below_drewN (belowRefl wr) _), BB.out.below (below_drewN (belowRefl wr) _), R.out.below (below_drewN (belowRefl wr) _), below_drewN HB.out _⟩
                      case measure => simp [intOf]; omega
                · have HS2 : Hid ((S0 || fnd L xs[j] (m + 1)) = true) := by show _ = _; rw [HS.out]; rfl
                  clear HS
                  go_wp2
                  go_quiet (fail)
                  go_wp2
                  go_roundw
                  case rel => exact ⟨m + 1, by omega, by rw [HS2.out], by go_num, O.out.below (below_drewN (belowRefl wr) _), BB.out.below (below_drewN (belowRefl wr) _), R.out.below (below_drewN (belowRefl wr) _), below_drewN HB.out _⟩
                  case measure => simp [intOf]; omega
              · have hltm' : ¬ (m : Int) < (L.length : Int) := by omega
                have HT : Hid ((S0 || fnd L xs[j] m) = true) := by
                  show _ = _
                  rcases HHS.out _ (List.getElem_mem hltj) with h | h
                  · rw [HS0.out, h]; simp
                  · have : fnd L xs[j] m = true := by
                      unfold fnd
                      rw [show m = L.length by omega, List.take_length, List.any_eq_true]
                      exact ⟨_, h, by simp⟩
                    rw [this]; simp
                rw [HT.out]
                go_wp2
                go_roundw
                case rel => exact ⟨j + 1, by omega, by go_num, O, BB, R, HB⟩
                case measure => simp [intOf]; omega
          · have hltj' : ¬ (j : Int) < (xs.length : Int) := by omega
            go_wp2_with fail
            refine (dWritesOk len cap a hl _ (HR.out.below HB.out)).mono ?_
            rintro e w5 ⟨zs, a5, c5, hza, hzl, rfl, hr5, hb5⟩
            have Z5 : Hid (GRow encW w5 a5 zs) := hr5
            have HZF : Hid (WFit zs) := hza.fit
            have O5 : Hid (GRow encW w5 a2 L) := O.out.below hb5
            have B5 : Hid (Bx w5 w1.heap.size [.string x.1, .string x.2.1, .bool x.2.2]) := BB.out.below hb5
            have R5 : Hid (GRow encW w5 a1 xs) := R.out.below hb5
            have HB5 : Hid (Below w.heap.size w w5) := HB.out.trans (hb5.mono HB.out.size)
            clear hb5 hr5 hza O BB R HB
            go_wp2_with fail
            refine (dWriteOk len cap a hl _ (HR.out.below HB5.out)).mono ?_
            rintro e w6 ⟨y, hya, rfl, hb6⟩
            have HYZ : Hid (y.1.size ≤ 1048576) := by show _ ≤ _; have := hya.1; omega
            have ab : Below w5.heap.size w5 (w6.alloc (.cells #[.string y.1, .string y.2.1, .bool y.2.2] 34)).drew := (hb6.alloc hb6.size _).drew
            have Z6 : Hid (GRow encW (w6.alloc (.cells #[.string y.1, .string y.2.1, .bool y.2.2] 34)).drew a5 zs) := Z5.out.below ab
            have O6 : Hid (GRow encW (w6.alloc (.cells #[.string y.1, .string y.2.1, .bool y.2.2] 34)).drew a2 L) := O5.out.below ab
            have B6 : Hid (Bx (w6.alloc (.cells #[.string y.1, .string y.2.1, .bool y.2.2] 34)).drew w1.heap.size [.string x.1, .string x.2.1, .bool x.2.2]) := B5.out.below ab
            have R6 : Hid (GRow encW (w6.alloc (.cells #[.string y.1, .string y.2.1, .bool y.2.2] 34)).drew a1 xs) := R5.out.below ab
            have Y6 : Hid (Bx (w6.alloc (.cells #[.string y.1, .string y.2.1, .bool y.2.2] 34)).drew w6.heap.size [.string y.1, .string y.2.1, .bool y.2.2]) := (Bx.new w6 _ 34).drew
            have HB6 : Hid (Below w.heap.size w (w6.alloc (.cells #[.string y.1, .string y.2.1, .bool y.2.2] 34)).drew) := HB5.out.trans (ab.mono HB5.out.size)
            clear hb6 hya ab Z5 O5 B5 R5 HB5
            have bW := beqS (writesB zs)
            have bY := beqS (writeB (y.1, y.2.1, y.2.2))
            go_wp2
            refine wp_region_held_drew (S := fun w' => w'.cell? ⟨w1.heap.size, 0, none⟩ = some (.string x.1) ∧ w'.cell? ⟨w1.heap.size, 1, none⟩ = some (.string x.2.1) ∧ w'.cell? ⟨w1.heap.size, 2, none⟩ = some (.bool x.2.2) ∧ w'.cell? ⟨w6.heap.size, 0, none⟩ = some (.string y.1) ∧ w'.cell? ⟨w6.heap.size, 1, none⟩ = some (.string y.2.1) ∧ w'.cell? ⟨w6.heap.size, 2, none⟩ = some (.bool y.2.2)) (by kernel_rfl) ⟨B6.out.c0, B6.out.c1, B6.out.c2, Y6.out.c0, Y6.out.c1, Y6.out.c2⟩ (fun hHeld => ?_)
            (refine wpAnyH_take (i := 0) (v := ?_) rfl (by kernel_rfl) (by kernel_rfl) (by kernel_rfl) (fun _ _ _ h => h) (Or.inl ⟨by rfl, ?_⟩) (by assumption) ?_; rotate_left; (focus (intro w hSw; (try dsimp only at hSw); go_simp; (try with_reducible rfl); done)); simp only [Act.put, List.getElem_toArray, List.getElem_cons_zero, List.setIfInBounds_toArray, List.set_cons_zero, List.set_cons_succ])
            (refine wpAnyH_take (i := 1) (v := ?_) rfl (by kernel_rfl) (by kernel_rfl) (by kernel_rfl) (fun _ _ _ h => h) (Or.inl ⟨by rfl, ?_⟩) (by assumption) ?_; rotate_left; (focus (intro w hSw; (try dsimp only at hSw); go_simp; (try with_reducible rfl); done)); simp only [Act.put, List.getElem_toArray, List.getElem_cons_zero, List.getElem_cons_succ, List.setIfInBounds_toArray, List.set_cons_zero, List.set_cons_succ])
            (refine wpAnyH_take (i := 2) (v := ?_) rfl (by kernel_rfl) (by kernel_rfl) (by kernel_rfl) (fun _ _ _ h => h) (Or.inl ⟨by rfl, ?_⟩) (by assumption) ?_; rotate_left; (focus (intro w hSw; (try dsimp only at hSw); go_simp; (try with_reducible rfl); done)); simp only [Act.put, List.getElem_toArray, List.getElem_cons_zero, List.getElem_cons_succ, List.setIfInBounds_toArray, List.set_cons_zero, List.set_cons_succ])
            (refine wpAnyH_take (i := 3) (v := ?_) rfl (by kernel_rfl) (by kernel_rfl) (by kernel_rfl) (fun _ _ _ h => h) (Or.inl ⟨by rfl, ?_⟩) (by assumption) ?_; rotate_left; (focus (intro w hSw; (try dsimp only at hSw); go_simp; (try with_reducible rfl); done)); simp only [Act.put, List.getElem_toArray, List.getElem_cons_zero, List.getElem_cons_succ, List.setIfInBounds_toArray, List.set_cons_zero, List.set_cons_succ])
            (refine wpAnyH_take (i := 4) (v := ?_) rfl (by kernel_rfl) (by kernel_rfl) (by kernel_rfl) (fun _ _ _ h => h) (Or.inl ⟨by rfl, ?_⟩) (by assumption) ?_; rotate_left; (focus (intro w hSw; (try dsimp only at hSw); go_simp; (try with_reducible rfl); done)); simp only [Act.put, List.getElem_toArray, List.getElem_cons_zero, List.getElem_cons_succ, List.setIfInBounds_toArray, List.set_cons_zero, List.set_cons_succ])
            (refine wpAnyH_take (i := 5) (v := ?_) rfl (by kernel_rfl) (by kernel_rfl) (by kernel_rfl) (fun _ _ _ h => h) (Or.inl ⟨by rfl, ?_⟩) (by assumption) ?_; rotate_left; (focus (intro w hSw; (try dsimp only at hSw); go_simp; (try with_reducible rfl); done)); simp only [Act.put, List.getElem_toArray, List.getElem_cons_zero, List.getElem_cons_succ, List.setIfInBounds_toArray, List.set_cons_zero, List.set_cons_succ])
            refine wpAnyH_ready (rs := [6]) (by kernel_rfl) (by simp) ?_
            refine AllReadyH.cons rfl (fun K hK => ?_) AllReadyH.nil
            go_simp
            go_wp2_with fail
            refine (C3.out _ R6.out).mono ?_
            rintro e w7 ⟨a7, c7, rfl, ho7, hb7⟩
            have Z7 : Hid (GRow encW w7 a5 zs) := Z6.out.below hb7
            have O7 : Hid (GRow encW w7 a2 L) := O6.out.below hb7
            have R7 : Hid (GRow encW w7 a1 xs) := R6.out.below hb7
            have B7 : Hid (Bx w7 w1.heap.size [.string x.1, .string x.2.1, .bool x.2.2]) := B6.out.below hb7
            have Y7 : Hid (Bx w7 w6.heap.size [.string y.1, .string y.2.1, .bool y.2.2]) := Y6.out.below hb7
            have HB7 : Hid (Below w.heap.size w w7) := HB6.out.trans (hb7.mono HB6.out.size)
            have V7 : Hid (GRow encW w7 a7 L) := ho7.grow
            clear ho7
            clear hb7 Z6 O6 R6 B6 Y6 HB6
            go_wp2_with fail
            refine hK.out _ _ ⟨B7.out.c0, B7.out.c1, B7.out.c2, Y7.out.c0, Y7.out.c1, Y7.out.c2⟩ (fun hHeld7 => ?_)
            clear hK K
            refine wpAnyH_ready (rs := [7]) (by kernel_rfl) (by simp) ?_
            refine AllReadyH.cons rfl (fun K hK => ?_) AllReadyH.nil
            go_simp
            go_wp2_with fail
            refine (sameW a2 a7 c2 c7 L (by omega) _ O7.out V7.out).mono ?_
            rintro e w8 ⟨rfl, hb8⟩
            have Z8 : Hid (GRow encW w8 a5 zs) := Z7.out.below hb8
            have O8 : Hid (GRow encW w8 a2 L) := O7.out.below hb8
            have R8 : Hid (GRow encW w8 a1 xs) := R7.out.below hb8
            have B8 : Hid (Bx w8 w1.heap.size [.string x.1, .string x.2.1, .bool x.2.2]) := B7.out.below hb8
            have Y8 : Hid (Bx w8 w6.heap.size [.string y.1, .string y.2.1, .bool y.2.2]) := Y7.out.below hb8
            have HB8 : Hid (Below w.heap.size w w8) := HB7.out.trans (hb8.mono HB7.out.size)
            clear hb8 Z7 O7 R7 B7 Y7 HB7
            go_wp2_with fail
            refine hK.out _ _ ⟨B8.out.c0, B8.out.c1, B8.out.c2, Y8.out.c0, Y8.out.c1, Y8.out.c2⟩ (fun hHeld8 => ?_)
            clear hK K
            (refine wpAnyH_take (i := 8) (v := ?_) rfl (by kernel_rfl) (by kernel_rfl) (by kernel_rfl) (fun _ _ _ h => h) (Or.inl ⟨by rfl, ?_⟩) (by assumption) ?_; rotate_left; (focus (intro w hSw; (try dsimp only at hSw); go_simp; (try with_reducible rfl); done)); simp only [Act.put, List.getElem_toArray, List.getElem_cons_zero, List.getElem_cons_succ, List.setIfInBounds_toArray, List.set_cons_zero, List.set_cons_succ])
            (refine wpAnyH_take (i := 9) (v := ?_) rfl (by kernel_rfl) (by kernel_rfl) (by kernel_rfl) (fun _ _ _ h => h) (Or.inl ⟨by rfl, ?_⟩) (by assumption) ?_; rotate_left; (focus (intro w hSw; (try dsimp only at hSw); go_simp; (try with_reducible rfl); done)); simp only [Act.put, List.getElem_toArray, List.getElem_cons_zero, List.getElem_cons_succ, List.setIfInBounds_toArray, List.set_cons_zero, List.set_cons_succ])
            (refine wpAnyH_take (i := 10) (v := ?_) rfl (by kernel_rfl) (by kernel_rfl) (by kernel_rfl) (fun _ _ _ h => h) (Or.inl ⟨by rfl, ?_⟩) (by assumption) ?_; rotate_left; (focus (intro w hSw; (try dsimp only at hSw); go_simp; (try with_reducible rfl); done)); simp only [Act.put, List.getElem_toArray, List.getElem_cons_zero, List.getElem_cons_succ, List.setIfInBounds_toArray, List.set_cons_zero, List.set_cons_succ])
            refine wpAnyH_ready (rs := [11]) (by kernel_rfl) (by simp) ?_
            refine AllReadyH.cons rfl (fun K hK => ?_) AllReadyH.nil
            go_simp
            go_wp2_with fail
            refine (iwrites L a2 c2 (by omega) _ O8.out).mono ?_
            rintro e w9 ⟨rfl, hb9⟩
            rw [HOK.out]
            have Z9 : Hid (GRow encW w9 a5 zs) := Z8.out.below hb9
            have O9 : Hid (GRow encW w9 a2 L) := O8.out.below hb9
            have R9 : Hid (GRow encW w9 a1 xs) := R8.out.below hb9
            have B9 : Hid (Bx w9 w1.heap.size [.string x.1, .string x.2.1, .bool x.2.2]) := B8.out.below hb9
            have Y9 : Hid (Bx w9 w6.heap.size [.string y.1, .string y.2.1, .bool y.2.2]) := Y8.out.below hb9
            have HB9 : Hid (Below w.heap.size w w9) := HB8.out.trans (hb9.mono HB8.out.size)
            clear hb9 Z8 O8 R8 B8 Y8 HB8
            go_wp2_with fail
            refine hK.out _ _ ⟨B9.out.c0, B9.out.c1, B9.out.c2, Y9.out.c0, Y9.out.c1, Y9.out.c2⟩ (fun hHeld9 => ?_)
            clear hK K
            (refine wpAnyH_take (i := 12) (v := ?_) rfl (by kernel_rfl) (by kernel_rfl) (by kernel_rfl) (fun _ _ _ h => h) (Or.inl ⟨by rfl, ?_⟩) (by assumption) ?_; rotate_left; (focus (intro w hSw; (try dsimp only at hSw); go_simp; (try with_reducible rfl); done)); simp only [Act.put, List.getElem_toArray, List.getElem_cons_zero, List.getElem_cons_succ, List.setIfInBounds_toArray, List.set_cons_zero, List.set_cons_succ])
            (refine wpAnyH_take (i := 13) (v := ?_) rfl (by kernel_rfl) (by kernel_rfl) (by kernel_rfl) (fun _ _ _ h => h) (Or.inl ⟨by rfl, ?_⟩) (by assumption) ?_; rotate_left; (focus (intro w hSw; (try dsimp only at hSw); go_simp; (try with_reducible rfl); done)); simp only [Act.put, List.getElem_toArray, List.getElem_cons_zero, List.getElem_cons_succ, List.setIfInBounds_toArray, List.set_cons_zero, List.set_cons_succ])
            (refine wpAnyH_take (i := 14) (v := ?_) rfl (by kernel_rfl) (by kernel_rfl) (by kernel_rfl) (fun _ _ _ h => h) (Or.inl ⟨by rfl, ?_⟩) (by assumption) ?_; rotate_left; (focus (intro w hSw; (try dsimp only at hSw); go_simp; (try with_reducible rfl); done)); simp only [Act.put, List.getElem_toArray, List.getElem_cons_zero, List.getElem_cons_succ, List.setIfInBounds_toArray, List.set_cons_zero, List.set_cons_succ])
            (refine wpAnyH_take (i := 16) (v := ?_) rfl (by kernel_rfl) (by kernel_rfl) (by kernel_rfl) (fun _ _ _ h => h) (Or.inl ⟨by rfl, ?_⟩) (by assumption) ?_; rotate_left; (focus (intro w hSw; (try dsimp only at hSw); go_simp; (try with_reducible rfl); done)); simp only [Act.put, List.getElem_toArray, List.getElem_cons_zero, List.getElem_cons_succ, List.setIfInBounds_toArray, List.set_cons_zero, List.set_cons_succ])
            refine wpAnyH_ready (rs := [15]) (by kernel_rfl) (by simp) ?_
            refine AllReadyH.cons rfl (fun K hK => ?_) AllReadyH.nil
            go_simp
            go_wp2_with fail
            refine (iwrites zs a5 c5 (by omega) _ Z9.out).mono ?_
            rintro e w10 ⟨rfl, hb10⟩
            have Z10 : Hid (GRow encW w10 a5 zs) := Z9.out.below hb10
            have O10 : Hid (GRow encW w10 a2 L) := O9.out.below hb10
            have R10 : Hid (GRow encW w10 a1 xs) := R9.out.below hb10
            have B10 : Hid (Bx w10 w1.heap.size [.string x.1, .string x.2.1, .bool x.2.2]) := B9.out.below hb10
            have Y10 : Hid (Bx w10 w6.heap.size [.string y.1, .string y.2.1, .bool y.2.2]) := Y9.out.below hb10
            have HB10 : Hid (Below w.heap.size w w10) := HB9.out.trans (hb10.mono HB9.out.size)
            clear hb10 Z9 O9 R9 B9 Y9 HB9
            go_wp2_with fail
            refine hK.out _ _ ⟨B10.out.c0, B10.out.c1, B10.out.c2, Y10.out.c0, Y10.out.c1, Y10.out.c2⟩ (fun hHeld10 => ?_)
            clear hK K
            refine wpAnyH_ready (rs := [17]) (by kernel_rfl) (by simp) ?_
            refine AllReadyH.cons rfl (fun K hK => ?_) AllReadyH.nil
            go_simp
            go_wp2_with fail
            refine (swrites zs a5 c5 (by omega) HZF.out _ Z10.out).mono ?_
            rintro e w11 ⟨rfl, hb11⟩
            have Z11 : Hid (GRow encW w11 a5 zs) := Z10.out.below hb11
            have O11 : Hid (GRow encW w11 a2 L) := O10.out.below hb11
            have R11 : Hid (GRow encW w11 a1 xs) := R10.out.below hb11
            have B11 : Hid (Bx w11 w1.heap.size [.string x.1, .string x.2.1, .bool x.2.2]) := B10.out.below hb11
            have Y11 : Hid (Bx w11 w6.heap.size [.string y.1, .string y.2.1, .bool y.2.2]) := Y10.out.below hb11
            have HB11 : Hid (Below w.heap.size w w11) := HB10.out.trans (hb11.mono HB10.out.size)
            clear hb11 Z10 O10 R10 B10 Y10 HB10
            go_wp2_with fail
            refine hK.out _ _ ⟨B11.out.c0, B11.out.c1, B11.out.c2, Y11.out.c0, Y11.out.c1, Y11.out.c2⟩ (fun hHeld11 => ?_)
            clear hK K
            (refine wpAnyH_take (i := 18) (v := ?_) rfl (by kernel_rfl) (by kernel_rfl) (by kernel_rfl) (fun _ _ _ h => h) (Or.inl ⟨by rfl, ?_⟩) (by assumption) ?_; rotate_left; (focus (intro w hSw; (try dsimp only at hSw); go_simp; (try with_reducible rfl); done)); simp only [Act.put, List.getElem_toArray, List.getElem_cons_zero, List.getElem_cons_succ, List.setIfInBounds_toArray, List.set_cons_zero, List.set_cons_succ])
            (refine wpAnyH_take (i := 19) (v := ?_) rfl (by kernel_rfl) (by kernel_rfl) (by kernel_rfl) (fun _ _ _ h => h) (Or.inl ⟨by rfl, ?_⟩) (by assumption) ?_; rotate_left; (focus (intro w hSw; (try dsimp only at hSw); go_simp; (try with_reducible rfl); done)); simp only [Act.put, List.getElem_toArray, List.getElem_cons_zero, List.getElem_cons_succ, List.setIfInBounds_toArray, List.set_cons_zero, List.set_cons_succ])
            (refine wpAnyH_take (i := 20) (v := ?_) rfl (by kernel_rfl) (by kernel_rfl) (by kernel_rfl) (fun _ _ _ h => h) (Or.inl ⟨by rfl, ?_⟩) (by assumption) ?_; rotate_left; (focus (intro w hSw; (try dsimp only at hSw); go_simp; (try with_reducible rfl); done)); simp only [Act.put, List.getElem_toArray, List.getElem_cons_zero, List.getElem_cons_succ, List.setIfInBounds_toArray, List.set_cons_zero, List.set_cons_succ])
            (refine wpAnyH_take (i := 21) (v := ?_) rfl (by kernel_rfl) (by kernel_rfl) (by kernel_rfl) (fun _ _ _ h => h) (Or.inl ⟨by rfl, ?_⟩) (by assumption) ?_; rotate_left; (focus (intro w hSw; (try dsimp only at hSw); go_simp; (try with_reducible rfl); done)); simp only [Act.put, List.getElem_toArray, List.getElem_cons_zero, List.getElem_cons_succ, List.setIfInBounds_toArray, List.set_cons_zero, List.set_cons_succ])
            (refine wpAnyH_take (i := 23) (v := ?_) rfl (by kernel_rfl) (by kernel_rfl) (by kernel_rfl) (fun _ _ _ h => h) (Or.inl ⟨by rfl, ?_⟩) (by assumption) ?_; rotate_left; (focus (intro w hSw; (try dsimp only at hSw); go_simp; (try with_reducible rfl); done)); simp only [Act.put, List.getElem_toArray, List.getElem_cons_zero, List.getElem_cons_succ, List.setIfInBounds_toArray, List.set_cons_zero, List.set_cons_succ])
            refine wpAnyH_ready (rs := [22]) (by kernel_rfl) (by simp) ?_
            refine AllReadyH.cons rfl (fun K hK => ?_) AllReadyH.nil
            go_simp
            go_wp2_with fail
            refine (iwrite y.1 y.2.1 y.2.2 _).mono ?_
            rintro e w12 ⟨rfl, hb12⟩
            have Z12 : Hid (GRow encW w12 a5 zs) := Z11.out.below hb12
            have O12 : Hid (GRow encW w12 a2 L) := O11.out.below hb12
            have R12 : Hid (GRow encW w12 a1 xs) := R11.out.below hb12
            have B12 : Hid (Bx w12 w1.heap.size [.string x.1, .string x.2.1, .bool x.2.2]) := B11.out.below hb12
            have Y12 : Hid (Bx w12 w6.heap.size [.string y.1, .string y.2.1, .bool y.2.2]) := Y11.out.below hb12
            have HB12 : Hid (Below w.heap.size w w12) := HB11.out.trans (hb12.mono HB11.out.size)
            clear hb12 Z11 O11 R11 B11 Y11 HB11
            go_wp2_with fail
            refine hK.out _ _ ⟨B12.out.c0, B12.out.c1, B12.out.c2, Y12.out.c0, Y12.out.c1, Y12.out.c2⟩ (fun hHeld12 => ?_)
            clear hK K
            refine wpAnyH_ready (rs := [24]) (by kernel_rfl) (by simp) ?_
            refine AllReadyH.cons rfl (fun K hK => ?_) AllReadyH.nil
            go_simp
            go_wp2_with fail
            refine (swrite y.1 y.2.1 y.2.2 HYZ.out _).mono ?_
            rintro e w13 ⟨rfl, hb13⟩
            have Z13 : Hid (GRow encW w13 a5 zs) := Z12.out.below hb13
            have O13 : Hid (GRow encW w13 a2 L) := O12.out.below hb13
            have R13 : Hid (GRow encW w13 a1 xs) := R12.out.below hb13
            have B13 : Hid (Bx w13 w1.heap.size [.string x.1, .string x.2.1, .bool x.2.2]) := B12.out.below hb13
            have Y13 : Hid (Bx w13 w6.heap.size [.string y.1, .string y.2.1, .bool y.2.2]) := Y12.out.below hb13
            have HB13 : Hid (Below w.heap.size w w13) := HB12.out.trans (hb13.mono HB12.out.size)
            clear hb13 Z12 O12 R12 B12 Y12 HB12
            go_wp2_with fail
            refine hK.out _ _ ⟨B13.out.c0, B13.out.c1, B13.out.c2, Y13.out.c0, Y13.out.c1, Y13.out.c2⟩ (fun hHeld13 => ?_)
            clear hK K
            (refine wpAnyH_take (i := 25) (v := ?_) rfl (by kernel_rfl) (by kernel_rfl) (by kernel_rfl) (fun _ _ _ h => h) (Or.inl ⟨by rfl, ?_⟩) (by assumption) ?_; rotate_left; (focus (intro w hSw; (try dsimp only at hSw); go_simp; (try with_reducible rfl); done)); simp only [Act.put, List.getElem_toArray, List.getElem_cons_zero, List.getElem_cons_succ, List.setIfInBounds_toArray, List.set_cons_zero, List.set_cons_succ])
            (refine wpAnyH_take (i := 26) (v := ?_) rfl (by kernel_rfl) (by kernel_rfl) (by kernel_rfl) (fun _ _ _ h => h) (Or.inl ⟨by rfl, ?_⟩) (by assumption) ?_; rotate_left; (focus (intro w hSw; (try dsimp only at hSw); go_simp; (try with_reducible rfl); done)); simp only [Act.put, List.getElem_toArray, List.getElem_cons_zero, List.getElem_cons_succ, List.setIfInBounds_toArray, List.set_cons_zero, List.set_cons_succ])
            (refine wpAnyH_take (i := 27) (v := ?_) rfl (by kernel_rfl) (by kernel_rfl) (by kernel_rfl) (fun _ _ _ h => h) (Or.inl ⟨by rfl, ?_⟩) (by assumption) ?_; rotate_left; (focus (intro w hSw; (try dsimp only at hSw); go_simp; (try with_reducible rfl); done)); simp only [Act.put, List.getElem_toArray, List.getElem_cons_zero, List.getElem_cons_succ, List.setIfInBounds_toArray, List.set_cons_zero, List.set_cons_succ])
            refine wpAnyH_done (by kernel_rfl) ?_ _
            go_wp2
            go_ret
            exact ⟨rfl, HB13.out⟩
  · rw [decide_eq_true (by omega)] at HBG
    go_enter Try.func4, Try.ntmps4
    go_wp2_with fail
    refine (HBG.out _).mono ?_
    rintro e w ⟨rfl, rfl⟩
    go_wp2
    go_ret
    exact ⟨rfl, belowRefl _⟩
end Go.Proofs.Ythlfddbijlfgeaa

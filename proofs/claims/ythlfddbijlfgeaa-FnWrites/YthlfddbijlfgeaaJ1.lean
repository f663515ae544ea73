/- The law FnKeys, walked. -/
import Derived.Test.YthlfddbijlfgeaaD4
import Derived.Test.YthlfddbijlfgeaaT1
import Derived.Test.YthlfddbijlfgeaaM1
namespace Go.Proofs.Ythlfddbijlfgeaa
open Go.RowKit
open KM
attribute [local go_sem ↓] Go.wp_at_zero Go.wp_at_succ

set_option maxHeartbeats 400000 in
theorem big12 (len cap : Nat) (a : Option Addr) (w : World) : Calls Try.prog 12 #[.slice a len cap] w fun e w' => e = .returned (.bool (decide ((1048576 : Int) < (len : Int)))) ∧ w' = w := by
  go_enter Try.func12, Try.ntmps12
  go_wp2
  go_ret
  exact ⟨rfl, rfl⟩

theorem ikeyB (s : ByteArray) (w : World) : Calls Try.prog 25 #[.string s] w fun e w' => e = .returned (.bool (keyB s)) ∧ Below w.heap.size w w' :=
  (ikey s w).mono fun _ _ ⟨h1, h2⟩ => ⟨h1, h2 ▸ belowRefl w⟩
theorem skeyB (s : ByteArray) (hz : s.size ≤ 1048576) (w : World) : Calls Try.prog 26 #[.string s] w fun e w' => e = .returned (.bool (keyB s)) ∧ Below w.heap.size w w' :=
  (skey s hz w).mono fun _ _ ⟨h1, h2⟩ => ⟨h1, h2 ▸ belowRefl w⟩
/-- touched so far -/
def tch (rs : List Rg) (ws : List Wt) (k : Nat) : Bool := (rs.take k).any fun r => ws.any fun x => inB r x.1
def tchI (r : Rg) (ws : List Wt) (m : Nat) : Bool := (ws.take m).any fun x => inB r x.1
theorem tch_more {rs : List Rg} {ws : List Wt} {k : Nat} (h : k < rs.length) : tch rs ws (k + 1) = (tch rs ws k || tchI rs[k] ws ws.length) := by
  unfold tch tchI
  rw [List.take_succ_eq_append_getElem h, List.any_append, List.take_length]
  simp
theorem tchI_more {r : Rg} {ws : List Wt} {m : Nat} (h : m < ws.length) : tchI r ws (m + 1) = (tchI r ws m || inB r ws[m].1) := by
  unfold tchI
  rw [List.take_succ_eq_append_getElem h, List.any_append]
  simp
theorem tch_whole (rs : List Rg) (ws : List Wt) : tch rs ws rs.length = touchB rs ws := by unfold tch touchB; rw [List.take_length]
theorem meet_comm (xs ys : List Wt) : meetB ys xs = meetB xs ys := by
  have h : ∀ xs ys : List Wt, meetB xs ys = true → meetB ys xs = true := by
    intro xs ys h
    unfold meetB at h ⊢
    rw [List.any_eq_true] at h
    obtain ⟨x, hx, hy⟩ := h
    rw [List.any_eq_true] at hy
    obtain ⟨y, hy, e⟩ := hy
    rw [List.any_eq_true]
    exact ⟨y, hy, by rw [List.any_eq_true]; exact ⟨x, hx, by simpa using (of_decide_eq_true e).symm⟩⟩
  cases h1 : meetB xs ys
  · cases h2 : meetB ys xs
    · rfl
    · rw [h _ _ h2] at h1; cases h1
  · exact h _ _ h1
theorem beqS (b : Bool) : (b == b) = true := by cases b <;> rfl

set_option maxRecDepth 100000 in
set_option maxHeartbeats 4000000 in
theorem law3 (len cap : Nat) (a : Option Addr) (w : World) (hl0 : len ≤ 9223372036854775807) (hr : CodeRow w a len) :
    Calls Try.prog 3 #[.slice a len cap] w fun e w' => e = .returned (.bool true) ∧ Below w.heap.size w w' := by
  have HBG : Hid (∀ W : World, Calls Try.prog 12 #[.slice a len cap] W fun e w' => e = .returned (.bool (decide ((1048576 : Int) < (len : Int)))) ∧ w' = W) := fun W => big12 len cap a W
  have HR : Hid (CodeRow w a len) := hr
  clear hr
  by_cases hl : len ≤ 1048576
  · rw [decide_eq_false (by omega)] at HBG
    go_enter Try.func3, Try.ntmps3
    go_wp2_with fail
    refine (HBG.out _).mono ?_
    rintro e w ⟨rfl, rfl⟩
    go_wp2_with fail
    refine (dRange len cap a hl _ HR.out).mono ?_
    rintro e w1 ⟨r, hrg, rfl, hb1⟩
    have HB1 : Hid (Below w.heap.size w w1) := (belowRefl w).trans (hb1.mono (belowRefl w).size)
    have HRG : Hid (RgD r) := hrg
    clear hrg
    clear hb1
    have ab2 : Below w1.heap.size w1 (w1.alloc (.cells #[.string r.1, .string r.2] 25)) := (belowRefl w1).alloc (Nat.le_refl _) _
    have HB2 : Hid (Below w.heap.size w (w1.alloc (.cells #[.string r.1, .string r.2] 25))) := HB1.out.trans (ab2.mono HB1.out.size)
    clear HB1
    have BR_2 : Hid (Bx (w1.alloc (.cells #[.string r.1, .string r.2] 25)) w1.heap.size [.string r.1, .string r.2]) := Bx.new w1 _ 25
    clear ab2
    go_wp2_with fail
    refine (dInRange len cap a hl _ (HR.out.below HB2.out)).mono ?_
    rintro e w3 ⟨x, kk, rfl, hb3⟩
    have BR_3 : Hid (Bx w3 w1.heap.size [.string r.1, .string r.2]) := BR_2.out.below hb3
    have HB3 : Hid (Below w.heap.size w w3) := HB2.out.trans (hb3.mono HB2.out.size)
    clear BR_2 HB2
    clear hb3
    have ab4 : Below w3.heap.size w3 (w3.alloc (.cells #[.string x.1, .string x.2] 25)) := (belowRefl w3).alloc (Nat.le_refl _) _
    have BR_4 : Hid (Bx (w3.alloc (.cells #[.string x.1, .string x.2] 25)) w1.heap.size [.string r.1, .string r.2]) := BR_3.out.below ab4
    have HB4 : Hid (Below w.heap.size w (w3.alloc (.cells #[.string x.1, .string x.2] 25))) := HB3.out.trans (ab4.mono HB3.out.size)
    clear BR_3 HB3
    have BX_4 : Hid (Bx (w3.alloc (.cells #[.string x.1, .string x.2] 25)) w3.heap.size [.string x.1, .string x.2]) := Bx.new w3 _ 25
    clear ab4
    go_wp2_with fail
    refine (dTouches len cap a hl _ (HR.out.below HB4.out)).mono ?_
    rintro e w5 ⟨rs, ws, ra, wa, rc, wc, hrs, hrl, hws, hwl, rfl, hro, hwo, hb5⟩
    have BR_5 : Hid (Bx w5 w1.heap.size [.string r.1, .string r.2]) := BR_4.out.below hb5
    have BX_5 : Hid (Bx w5 w3.heap.size [.string x.1, .string x.2]) := BX_4.out.below hb5
    have HB5 : Hid (Below w.heap.size w w5) := HB4.out.trans (hb5.mono HB4.out.size)
    clear BR_4 BX_4 HB4
    have RR_5 : Hid (GRow encR w5 ra rs) := hro.grow
    have RW_5 : Hid (GRow encW w5 wa ws) := hwo.grow
    clear hrs hws hro hwo
    clear hb5
    go_wp2
    go_loopw [8, 9] (fun s t wr => ∃ k : Nat, k ≤ rs.length ∧ s = .bool (tch rs ws k) ∧ t = .int .i64 k ∧ Hid (Bx wr w1.heap.size [.string r.1, .string r.2]) ∧ Hid (Bx wr w3.heap.size [.string x.1, .string x.2]) ∧ Hid (GRow encR wr ra rs) ∧ Hid (GRow encW wr wa ws) ∧ Hid (Below w.heap.size w wr)) (fun _ t _ => rs.length - (intOf t).toNat)
    case atStart => exact ⟨0, Nat.zero_le _, rfl, rfl, BR_5, BX_5, RR_5, RW_5, HB5⟩
    case round =>
      clear BR_5 BX_5 RR_5 RW_5 HB5
      obtain ⟨k, hk, rfl, rfl, BR_a, BX_a, RR_a, RW_a, HBa⟩ := hrel
      by_cases hlt : k < rs.length
      · have hlt' : (k : Int) < (rs.length : Int) := by omega
        have hk0 : (0 : Int) ≤ (k : Int) := by omega
        go_wp2
        go_loopw [8, 10] (fun s t wr => ∃ m : Nat, m ≤ ws.length ∧ s = .bool (tch rs ws k || tchI rs[k] ws m) ∧ t = .int .i64 m ∧ Hid (Bx wr w1.heap.size [.string r.1, .string r.2]) ∧ Hid (Bx wr w3.heap.size [.string x.1, .string x.2]) ∧ Hid (GRow encR wr ra rs) ∧ Hid (GRow encW wr wa ws) ∧ Hid (Below w.heap.size w wr)) (fun _ t _ => ws.length - (intOf t).toNat)
        case atStart => exact ⟨0, Nat.zero_le _, by simp [tchI], rfl, BR_a, BX_a, RR_a, RW_a, HBa⟩
        case round =>
          clear BR_a BX_a RR_a RW_a HBa
          obtain ⟨m, hm, rfl, rfl, BR_b, BX_b, RR_b, RW_b, HBb⟩ := hrel
          by_cases hltm : m < ws.length
          · have hltm' : (m : Int) < (ws.length : Int) := by omega
            have hm0 : (0 : Int) ≤ (m : Int) := by omega
            obtain ⟨b, off, rfl, hbl, hc⟩ := RR_b.out (by omega)
            have r0 := (rat hc k hlt).1
            have r1 := (rat hc k hlt).2
            clear hc
            obtain ⟨b2, off2, rfl, hbl2, hc2⟩ := RW_b.out (by omega)
            have q0 := (wat hc2 m hltm).1
            clear hc2
            obtain ⟨S, hS⟩ : ∃ S, S = (tch rs ws k || tchI rs[k] ws m) := ⟨_, rfl⟩
            have HS : Hid ((tch rs ws k || tchI rs[k] ws (m + 1)) = (S || inB rs[k] ws[m].1)) := by show _ = _; rw [tchI_more hltm, ← Bool.or_assoc, hS]
            rw [← hS]
            clear hS
            cases S
            · cases h1 : le rs[k].1 ws[m].1
              · have h1' : (!Op.bytesLess ws[m].1.toList rs[k].1.toList) = false := (not_lt _ _).trans h1
                have HS2 : Hid ((tch rs ws k || tchI rs[k] ws (m + 1)) = false) := by show _ = _; rw [HS.out]; unfold inB; rw [h1]; rfl
                clear h1 HS
                go_wp2
                go_quiet (fail)
                go_wp2
                go_roundw
                case rel => exact ⟨m + 1, by omega, by rw [HS2.out], by go_num, BR_b.out.below (below_drewN (belowRefl wr) _), BX_b.out.below (below_drewN (belowRefl wr) _), RR_b.out.below (below_drewN (belowRefl wr) _), RW_b.out.below (below_drewN (belowRefl wr) _), below_drewN HBb.out _⟩
                case measure => simp [intOf]; omega
              · have h1' : (!Op.bytesLess ws[m].1.toList rs[k].1.toList) = true := (not_lt _ _).trans h1
                have HS2 : Hid ((tch rs ws k || tchI rs[k] ws (m + 1)) = (Op.bytesLess ws[m].1.toList rs[k].2.toList || ws[m].1.toList == rs[k].2.toList)) := by show _ = _; rw [HS.out]; unfold inB; rw [h1]; rfl
                clear h1 HS
                go_wp2
                go_quiet (fail)
                go_wp2
                go_roundw
                case rel => exact ⟨m + 1, by omega, by rw [HS2.out], by go_num, BR_b.out.below (below_drewN (belowRefl wr) _), BX_b.out.below (below_drewN (belowRefl wr) _), RR_b.out.below (below_drewN (belowRefl wr) _), RW_b.out.below (below_drewN (belowRefl wr) _), below_drewN HBb.out _⟩
                case measure => simp [intOf]; omega
            · have HS2 : Hid ((tch rs ws k || tchI rs[k] ws (m + 1)) = true) := by show _ = _; rw [HS.out]; rfl
              clear HS
              go_wp2
              go_quiet (fail)
              go_wp2
              go_roundw
              case rel => exact ⟨m + 1, by omega, by rw [HS2.out], by go_num, BR_b.out.below (below_drewN (belowRefl wr) _), BX_b.out.below (below_drewN (belowRefl wr) _), RR_b.out.below (below_drewN (belowRefl wr) _), RW_b.out.below (below_drewN (belowRefl wr) _), below_drewN HBb.out _⟩
              case measure => simp [intOf]; omega
          · have hltm' : ¬ (m : Int) < (ws.length : Int) := by omega
            have HT : Hid (tch rs ws (k + 1) = (tch rs ws k || tchI rs[k] ws m)) := by show _ = _; rw [tch_more hlt, show m = ws.length by omega]
            go_wp2
            go_roundw
            case rel => exact ⟨k + 1, by omega, by rw [HT.out], by go_num, BR_b, BX_b, RR_b, RW_b, HBb⟩
            case measure => simp [intOf]; omega
      · have hlt' : ¬ (k : Int) < (rs.length : Int) := by omega
        have HT : Hid (tch rs ws k = touchB rs ws) := by show _ = _; rw [show k = rs.length by omega, tch_whole]
        rw [HT.out]
        clear HT
        have BR_6 := BR_a
        have BX_6 := BX_a
        have RR_6 := RR_a
        have RW_6 := RW_a
        have HB6 := HBa
        clear BR_a BX_a RR_a RW_a HBa
        go_wp2_with fail
        refine (dMeets len cap a hl _ (HR.out.below HB6.out)).mono ?_
        rintro e w7 ⟨xs, ys, xa, ya, xc, yc, hxs, hxl, hys, hyl, rfl, hxo, hyo, hb7⟩
        have BR_7 : Hid (Bx w7 w1.heap.size [.string r.1, .string r.2]) := BR_6.out.below hb7
        have BX_7 : Hid (Bx w7 w3.heap.size [.string x.1, .string x.2]) := BX_6.out.below hb7
        have RR_7 : Hid (GRow encR w7 ra rs) := RR_6.out.below hb7
        have RW_7 : Hid (GRow encW w7 wa ws) := RW_6.out.below hb7
        have HB7 : Hid (Below w.heap.size w w7) := HB6.out.trans (hb7.mono HB6.out.size)
        clear BR_6 BX_6 RR_6 RW_6 HB6
        have RX_7 : Hid (GRow encW w7 xa xs) := hxo.grow
        have RY_7 : Hid (GRow encW w7 ya ys) := hyo.grow
        have FX : Hid (WFit xs) := hxs.fit
        have FY : Hid (WFit ys) := hys.fit
        clear hxs hys hxo hyo
        clear hb7
        go_wp2_with fail
        refine (dRangeOk len cap a hl _ (HR.out.below HB7.out)).mono ?_
        rintro e w8 ⟨er, her, rfl, hb8⟩
        have BR_8 : Hid (Bx w8 w1.heap.size [.string r.1, .string r.2]) := BR_7.out.below hb8
        have BX_8 : Hid (Bx w8 w3.heap.size [.string x.1, .string x.2]) := BX_7.out.below hb8
        have RR_8 : Hid (GRow encR w8 ra rs) := RR_7.out.below hb8
        have RW_8 : Hid (GRow encW w8 wa ws) := RW_7.out.below hb8
        have RX_8 : Hid (GRow encW w8 xa xs) := RX_7.out.below hb8
        have RY_8 : Hid (GRow encW w8 ya ys) := RY_7.out.below hb8
        have HB8 : Hid (Below w.heap.size w w8) := HB7.out.trans (hb8.mono HB7.out.size)
        clear BR_7 BX_7 RR_7 RW_7 RX_7 RY_7 HB7
        have HER : Hid (er.1.size ≤ 3 ∧ er.2.size ≤ 3) := her
        clear her
        clear hb8
        have ab9 : Below w8.heap.size w8 (w8.alloc (.cells #[.string er.1, .string er.2] 25)) := (belowRefl w8).alloc (Nat.le_refl _) _
        have BR_9 : Hid (Bx (w8.alloc (.cells #[.string er.1, .string er.2] 25)) w1.heap.size [.string r.1, .string r.2]) := BR_8.out.below ab9
        have BX_9 : Hid (Bx (w8.alloc (.cells #[.string er.1, .string er.2] 25)) w3.heap.size [.string x.1, .string x.2]) := BX_8.out.below ab9
        have RR_9 : Hid (GRow encR (w8.alloc (.cells #[.string er.1, .string er.2] 25)) ra rs) := RR_8.out.below ab9
        have RW_9 : Hid (GRow encW (w8.alloc (.cells #[.string er.1, .string er.2] 25)) wa ws) := RW_8.out.below ab9
        have RX_9 : Hid (GRow encW (w8.alloc (.cells #[.string er.1, .string er.2] 25)) xa xs) := RX_8.out.below ab9
        have RY_9 : Hid (GRow encW (w8.alloc (.cells #[.string er.1, .string er.2] 25)) ya ys) := RY_8.out.below ab9
        have HB9 : Hid (Below w.heap.size w (w8.alloc (.cells #[.string er.1, .string er.2] 25))) := HB8.out.trans (ab9.mono HB8.out.size)
        clear BR_8 BX_8 RR_8 RW_8 RX_8 RY_8 HB8
        have BE_9 : Hid (Bx (w8.alloc (.cells #[.string er.1, .string er.2] 25)) w8.heap.size [.string er.1, .string er.2]) := Bx.new w8 _ 25
        clear ab9
        go_wp2_with fail
        refine (dKeyOk len cap a hl _ (HR.out.below HB9.out)).mono ?_
        rintro e w10 ⟨fs, hfs, rfl, hb10⟩
        have BR_10 : Hid (Bx w10 w1.heap.size [.string r.1, .string r.2]) := BR_9.out.below hb10
        have BX_10 : Hid (Bx w10 w3.heap.size [.string x.1, .string x.2]) := BX_9.out.below hb10
        have BE_10 : Hid (Bx w10 w8.heap.size [.string er.1, .string er.2]) := BE_9.out.below hb10
        have RR_10 : Hid (GRow encR w10 ra rs) := RR_9.out.below hb10
        have RW_10 : Hid (GRow encW w10 wa ws) := RW_9.out.below hb10
        have RX_10 : Hid (GRow encW w10 xa xs) := RX_9.out.below hb10
        have RY_10 : Hid (GRow encW w10 ya ys) := RY_9.out.below hb10
        have HB10 : Hid (Below w.heap.size w w10) := HB9.out.trans (hb10.mono HB9.out.size)
        clear BR_9 BX_9 BE_9 RR_9 RW_9 RX_9 RY_9 HB9
        have HFS : Hid (fs.size ≤ 4) := hfs
        clear hfs
        clear hb10
        have V1 : Hid (inB (r.1, r.2) r.1 = true) := by show _ = _; unfold inB; rw [le_refl', HRG.out.2.2]; rfl
        have V2 : Hid (inB (r.1, r.2) r.2 = true) := by show _ = _; unfold inB; rw [le_refl', HRG.out.2.2]; rfl
        have V3 : Hid (rangeB (r.1, r.2) = true) := by show _ = _; unfold rangeB; rw [HRG.out.1.1, HRG.out.2.1.1, HRG.out.2.2]; rfl
        have V4 : Hid (meetB ys xs = meetB xs ys) := meet_comm xs ys
        have bT := beqS (touchB rs ws)
        have bM := beqS (meetB xs ys)
        have bR := beqS (rangeB (er.1, er.2))
        have bK := beqS (keyB fs)
        have EZ : Hid (er.1.size ≤ 1048576 ∧ er.2.size ≤ 1048576) := ⟨by have := HER.out.1; omega, by have := HER.out.2; omega⟩
        have FZ : Hid (fs.size ≤ 1048576) := by show _ ≤ _; have := HFS.out; omega
        cases h1 : le x.1 kk
        · have h1' : (!Op.bytesLess kk.toList x.1.toList) = false := (not_lt _ _).trans h1
          have V5 : Hid (inB (x.1, x.2) kk = false) := by show _ = _; unfold inB; rw [h1]; rfl
          clear h1
          go_wp2
          simp only [List.append_eq, List.cons_append, List.nil_append]
          have ab11 : Below w10.heap.size w10 w10.drew := (belowRefl w10).drew
          have BR_11 : Hid (Bx w10.drew w1.heap.size [.string r.1, .string r.2]) := BR_10.out.below ab11
          have BX_11 : Hid (Bx w10.drew w3.heap.size [.string x.1, .string x.2]) := BX_10.out.below ab11
          have BE_11 : Hid (Bx w10.drew w8.heap.size [.string er.1, .string er.2]) := BE_10.out.below ab11
          have RR_11 : Hid (GRow encR w10.drew ra rs) := RR_10.out.below ab11
          have RW_11 : Hid (GRow encW w10.drew wa ws) := RW_10.out.below ab11
          have RX_11 : Hid (GRow encW w10.drew xa xs) := RX_10.out.below ab11
          have RY_11 : Hid (GRow encW w10.drew ya ys) := RY_10.out.below ab11
          have HB11 : Hid (Below w.heap.size w w10.drew) := HB10.out.trans (ab11.mono HB10.out.size)
          clear BR_10 BX_10 BE_10 RR_10 RW_10 RX_10 RY_10 HB10
          clear ab11
          refine wp_region_held_drew (S := fun w' => w'.cell? ⟨w1.heap.size, 0, none⟩ = some (.string r.1) ∧ w'.cell? ⟨w1.heap.size, 1, none⟩ = some (.string r.2) ∧ w'.cell? ⟨w3.heap.size, 0, none⟩ = some (.string x.1) ∧ w'.cell? ⟨w3.heap.size, 1, none⟩ = some (.string x.2) ∧ w'.cell? ⟨w8.heap.size, 0, none⟩ = some (.string er.1) ∧ w'.cell? ⟨w8.heap.size, 1, none⟩ = some (.string er.2)) (by kernel_rfl) ⟨BR_11.out.c0, BR_11.out.c1, BX_11.out.c0, BX_11.out.c1, BE_11.out.c0, BE_11.out.c1⟩ (fun hHeld => ?_)
          (refine wpAnyH_take (i := 0) (v := ?_) rfl (by kernel_rfl) (by kernel_rfl) (by kernel_rfl) (fun _ _ _ h => h) (Or.inl ⟨by rfl, ?_⟩) (by assumption) ?_; rotate_left; (focus (intro w hSw; (try dsimp only at hSw); go_simp; (try with_reducible rfl); done)); simp only [Act.put, List.getElem_toArray, List.getElem_cons_zero, List.setIfInBounds_toArray, List.set_cons_zero, List.set_cons_succ])
          (refine wpAnyH_take (i := 1) (v := ?_) rfl (by kernel_rfl) (by kernel_rfl) (by kernel_rfl) (fun _ _ _ h => h) (Or.inl ⟨by rfl, ?_⟩) (by assumption) ?_; rotate_left; (focus (intro w hSw; (try dsimp only at hSw); go_simp; (try with_reducible rfl); done)); simp only [Act.put, List.getElem_toArray, List.getElem_cons_zero, List.getElem_cons_succ, List.setIfInBounds_toArray, List.set_cons_zero, List.set_cons_succ])
          (refine wpAnyH_take (i := 2) (v := ?_) rfl (by kernel_rfl) (by kernel_rfl) (by kernel_rfl) (fun _ _ _ h => h) (Or.inl ⟨by rfl, ?_⟩) (by assumption) ?_; rotate_left; (focus (intro w hSw; (try dsimp only at hSw); go_simp; (try with_reducible rfl); done)); simp only [Act.put, List.getElem_toArray, List.getElem_cons_zero, List.getElem_cons_succ, List.setIfInBounds_toArray, List.set_cons_zero, List.set_cons_succ])
          refine wpAnyH_ready (rs := [3]) (by kernel_rfl) (by simp) ?_
          refine AllReadyH.cons rfl (fun K hK => ?_) AllReadyH.nil
          go_simp
          go_wp2_with fail
          refine (iin r.1 r.2 r.1 _).mono ?_
          rintro e w12 ⟨rfl, hb12⟩
          rw [V1.out]
          have BR_12 : Hid (Bx w12 w1.heap.size [.string r.1, .string r.2]) := BR_11.out.below hb12
          have BX_12 : Hid (Bx w12 w3.heap.size [.string x.1, .string x.2]) := BX_11.out.below hb12
          have BE_12 : Hid (Bx w12 w8.heap.size [.string er.1, .string er.2]) := BE_11.out.below hb12
          have RR_12 : Hid (GRow encR w12 ra rs) := RR_11.out.below hb12
          have RW_12 : Hid (GRow encW w12 wa ws) := RW_11.out.below hb12
          have RX_12 : Hid (GRow encW w12 xa xs) := RX_11.out.below hb12
          have RY_12 : Hid (GRow encW w12 ya ys) := RY_11.out.below hb12
          have HB12 : Hid (Below w.heap.size w w12) := HB11.out.trans (hb12.mono HB11.out.size)
          clear BR_11 BX_11 BE_11 RR_11 RW_11 RX_11 RY_11 HB11
          clear hb12
          go_wp2_with fail
          refine hK.out _ _ ⟨BR_12.out.c0, BR_12.out.c1, BX_12.out.c0, BX_12.out.c1, BE_12.out.c0, BE_12.out.c1⟩ (fun hHeld12 => ?_)
          clear hK K
          (refine wpAnyH_take (i := 4) (v := ?_) rfl (by kernel_rfl) (by kernel_rfl) (by kernel_rfl) (fun _ _ _ h => h) (Or.inl ⟨by rfl, ?_⟩) (by assumption) ?_; rotate_left; (focus (intro w hSw; (try dsimp only at hSw); go_simp; (try with_reducible rfl); done)); simp only [Act.put, List.getElem_toArray, List.getElem_cons_zero, List.getElem_cons_succ, List.setIfInBounds_toArray, List.set_cons_zero, List.set_cons_succ])
          (refine wpAnyH_take (i := 5) (v := ?_) rfl (by kernel_rfl) (by kernel_rfl) (by kernel_rfl) (fun _ _ _ h => h) (Or.inl ⟨by rfl, ?_⟩) (by assumption) ?_; rotate_left; (focus (intro w hSw; (try dsimp only at hSw); go_simp; (try with_reducible rfl); done)); simp only [Act.put, List.getElem_toArray, List.getElem_cons_zero, List.getElem_cons_succ, List.setIfInBounds_toArray, List.set_cons_zero, List.set_cons_succ])
          (refine wpAnyH_take (i := 6) (v := ?_) rfl (by kernel_rfl) (by kernel_rfl) (by kernel_rfl) (fun _ _ _ h => h) (Or.inl ⟨by rfl, ?_⟩) (by assumption) ?_; rotate_left; (focus (intro w hSw; (try dsimp only at hSw); go_simp; (try with_reducible rfl); done)); simp only [Act.put, List.getElem_toArray, List.getElem_cons_zero, List.getElem_cons_succ, List.setIfInBounds_toArray, List.set_cons_zero, List.set_cons_succ])
          (refine wpAnyH_take (i := 7) (v := ?_) rfl (by kernel_rfl) (by kernel_rfl) (by kernel_rfl) (fun _ _ _ h => h) (Or.inl ⟨by rfl, ?_⟩) (by assumption) ?_; rotate_left; (focus (intro w hSw; (try dsimp only at hSw); go_simp; (try with_reducible rfl); done)); simp only [Act.put, List.getElem_toArray, List.getElem_cons_zero, List.getElem_cons_succ, List.setIfInBounds_toArray, List.set_cons_zero, List.set_cons_succ])
          refine wpAnyH_ready (rs := [8]) (by kernel_rfl) (by simp) ?_
          refine AllReadyH.cons rfl (fun K hK => ?_) AllReadyH.nil
          go_simp
          go_wp2_with fail
          refine (iin r.1 r.2 r.2 _).mono ?_
          rintro e w13 ⟨rfl, hb13⟩
          rw [V2.out]
          have BR_13 : Hid (Bx w13 w1.heap.size [.string r.1, .string r.2]) := BR_12.out.below hb13
          have BX_13 : Hid (Bx w13 w3.heap.size [.string x.1, .string x.2]) := BX_12.out.below hb13
          have BE_13 : Hid (Bx w13 w8.heap.size [.string er.1, .string er.2]) := BE_12.out.below hb13
          have RR_13 : Hid (GRow encR w13 ra rs) := RR_12.out.below hb13
          have RW_13 : Hid (GRow encW w13 wa ws) := RW_12.out.below hb13
          have RX_13 : Hid (GRow encW w13 xa xs) := RX_12.out.below hb13
          have RY_13 : Hid (GRow encW w13 ya ys) := RY_12.out.below hb13
          have HB13 : Hid (Below w.heap.size w w13) := HB12.out.trans (hb13.mono HB12.out.size)
          clear BR_12 BX_12 BE_12 RR_12 RW_12 RX_12 RY_12 HB12
          clear hb13
          go_wp2_with fail
          refine hK.out _ _ ⟨BR_13.out.c0, BR_13.out.c1, BX_13.out.c0, BX_13.out.c1, BE_13.out.c0, BE_13.out.c1⟩ (fun hHeld13 => ?_)
          clear hK K
          (refine wpAnyH_take (i := 9) (v := ?_) rfl (by kernel_rfl) (by kernel_rfl) (by kernel_rfl) (fun _ _ _ h => h) (Or.inl ⟨by rfl, ?_⟩) (by assumption) ?_; rotate_left; (focus (intro w hSw; (try dsimp only at hSw); go_simp; (try with_reducible rfl); done)); simp only [Act.put, List.getElem_toArray, List.getElem_cons_zero, List.getElem_cons_succ, List.setIfInBounds_toArray, List.set_cons_zero, List.set_cons_succ])
          (refine wpAnyH_take (i := 10) (v := ?_) rfl (by kernel_rfl) (by kernel_rfl) (by kernel_rfl) (fun _ _ _ h => h) (Or.inl ⟨by rfl, ?_⟩) (by assumption) ?_; rotate_left; (focus (intro w hSw; (try dsimp only at hSw); go_simp; (try with_reducible rfl); done)); simp only [Act.put, List.getElem_toArray, List.getElem_cons_zero, List.getElem_cons_succ, List.setIfInBounds_toArray, List.set_cons_zero, List.set_cons_succ])
          (refine wpAnyH_take (i := 11) (v := ?_) rfl (by kernel_rfl) (by kernel_rfl) (by kernel_rfl) (fun _ _ _ h => h) (Or.inl ⟨by rfl, ?_⟩) (by assumption) ?_; rotate_left; (focus (intro w hSw; (try dsimp only at hSw); go_simp; (try with_reducible rfl); done)); simp only [Act.put, List.getElem_toArray, List.getElem_cons_zero, List.getElem_cons_succ, List.setIfInBounds_toArray, List.set_cons_zero, List.set_cons_succ])
          (refine wpAnyH_take (i := 12) (v := ?_) rfl (by kernel_rfl) (by kernel_rfl) (by kernel_rfl) (fun _ _ _ h => h) (Or.inl ⟨by rfl, ?_⟩) (by assumption) ?_; rotate_left; (focus (intro w hSw; (try dsimp only at hSw); go_simp; (try with_reducible rfl); done)); simp only [Act.put, List.getElem_toArray, List.getElem_cons_zero, List.getElem_cons_succ, List.setIfInBounds_toArray, List.set_cons_zero, List.set_cons_succ])
          (refine wpAnyH_take (i := 14) (v := ?_) rfl (by kernel_rfl) (by kernel_rfl) (by kernel_rfl) (fun _ _ _ h => h) (Or.inl ⟨by rfl, ?_⟩) (by assumption) ?_; rotate_left; (focus (intro w hSw; (try dsimp only at hSw); go_simp; (try with_reducible rfl); done)); simp only [Act.put, List.getElem_toArray, List.getElem_cons_zero, List.getElem_cons_succ, List.setIfInBounds_toArray, List.set_cons_zero, List.set_cons_succ])
          (refine wpAnyH_take (i := 15) (v := ?_) rfl (by kernel_rfl) (by kernel_rfl) (by kernel_rfl) (fun _ _ _ h => h) (Or.inl ⟨by rfl, ?_⟩) (by assumption) ?_; rotate_left; (focus (intro w hSw; (try dsimp only at hSw); go_simp; (try with_reducible rfl); done)); simp only [Act.put, List.getElem_toArray, List.getElem_cons_zero, List.getElem_cons_succ, List.setIfInBounds_toArray, List.set_cons_zero, List.set_cons_succ])
          (refine wpAnyH_take (i := 16) (v := ?_) rfl (by kernel_rfl) (by kernel_rfl) (by kernel_rfl) (fun _ _ _ h => h) (Or.inl ⟨by rfl, ?_⟩) (by assumption) ?_; rotate_left; (focus (intro w hSw; (try dsimp only at hSw); go_simp; (try with_reducible rfl); done)); simp only [Act.put, List.getElem_toArray, List.getElem_cons_zero, List.getElem_cons_succ, List.setIfInBounds_toArray, List.set_cons_zero, List.set_cons_succ])
          (refine wpAnyH_take (i := 17) (v := ?_) rfl (by kernel_rfl) (by kernel_rfl) (by kernel_rfl) (fun _ _ _ h => h) (Or.inl ⟨by rfl, ?_⟩) (by assumption) ?_; rotate_left; (focus (intro w hSw; (try dsimp only at hSw); go_simp; (try with_reducible rfl); done)); simp only [Act.put, List.getElem_toArray, List.getElem_cons_zero, List.getElem_cons_succ, List.setIfInBounds_toArray, List.set_cons_zero, List.set_cons_succ])
          refine wpAnyH_ready (rs := [13]) (by kernel_rfl) (by simp) ?_
          refine AllReadyH.cons rfl (fun K hK => ?_) AllReadyH.nil
          go_simp
          go_wp2_with fail
          refine (iin x.1 x.2 kk _).mono ?_
          rintro e w14 ⟨rfl, hb14⟩
          rw [V5.out]
          have BR_14 : Hid (Bx w14 w1.heap.size [.string r.1, .string r.2]) := BR_13.out.below hb14
          have BX_14 : Hid (Bx w14 w3.heap.size [.string x.1, .string x.2]) := BX_13.out.below hb14
          have BE_14 : Hid (Bx w14 w8.heap.size [.string er.1, .string er.2]) := BE_13.out.below hb14
          have RR_14 : Hid (GRow encR w14 ra rs) := RR_13.out.below hb14
          have RW_14 : Hid (GRow encW w14 wa ws) := RW_13.out.below hb14
          have RX_14 : Hid (GRow encW w14 xa xs) := RX_13.out.below hb14
          have RY_14 : Hid (GRow encW w14 ya ys) := RY_13.out.below hb14
          have HB14 : Hid (Below w.heap.size w w14) := HB13.out.trans (hb14.mono HB13.out.size)
          clear BR_13 BX_13 BE_13 RR_13 RW_13 RX_13 RY_13 HB13
          clear hb14
          go_wp2_with fail
          refine hK.out _ _ ⟨BR_14.out.c0, BR_14.out.c1, BX_14.out.c0, BX_14.out.c1, BE_14.out.c0, BE_14.out.c1⟩ (fun hHeld14 => ?_)
          clear hK K
          (refine wpAnyH_take (i := 18) (v := ?_) rfl (by kernel_rfl) (by kernel_rfl) (by kernel_rfl) (fun _ _ _ h => h) (Or.inl ⟨by rfl, ?_⟩) (by assumption) ?_; rotate_left; (focus (intro w hSw; (try dsimp only at hSw); go_simp; (try with_reducible rfl); done)); simp only [Act.put, List.getElem_toArray, List.getElem_cons_zero, List.getElem_cons_succ, List.setIfInBounds_toArray, List.set_cons_zero, List.set_cons_succ])
          (refine wpAnyH_take (i := 19) (v := undef) rfl (by kernel_rfl) (by kernel_rfl) (by kernel_rfl) (fun _ _ _ h => h) (Or.inr ⟨by rfl, rfl⟩) (by assumption) ?_; simp only [Act.put, List.getElem_toArray, List.getElem_cons_zero, List.getElem_cons_succ, List.setIfInBounds_toArray, List.set_cons_zero, List.set_cons_succ])
          (refine wpAnyH_take (i := 20) (v := undef) rfl (by kernel_rfl) (by kernel_rfl) (by kernel_rfl) (fun _ _ _ h => h) (Or.inr ⟨by rfl, rfl⟩) (by assumption) ?_; simp only [Act.put, List.getElem_toArray, List.getElem_cons_zero, List.getElem_cons_succ, List.setIfInBounds_toArray, List.set_cons_zero, List.set_cons_succ])
          (refine wpAnyH_take (i := 21) (v := undef) rfl (by kernel_rfl) (by kernel_rfl) (by kernel_rfl) (fun _ _ _ h => h) (Or.inr ⟨by rfl, rfl⟩) (by assumption) ?_; simp only [Act.put, List.getElem_toArray, List.getElem_cons_zero, List.getElem_cons_succ, List.setIfInBounds_toArray, List.set_cons_zero, List.set_cons_succ])
          (refine wpAnyH_take (i := 22) (v := undef) rfl (by kernel_rfl) (by kernel_rfl) (by kernel_rfl) (fun _ _ _ h => h) (Or.inr ⟨by rfl, rfl⟩) (by assumption) ?_; simp only [Act.put, List.getElem_toArray, List.getElem_cons_zero, List.getElem_cons_succ, List.setIfInBounds_toArray, List.set_cons_zero, List.set_cons_succ])
          (refine wpAnyH_take (i := 23) (v := ?_) rfl (by kernel_rfl) (by kernel_rfl) (by kernel_rfl) (fun _ _ _ h => h) (Or.inl ⟨by rfl, ?_⟩) (by assumption) ?_; rotate_left; (focus (intro w hSw; (try dsimp only at hSw); go_simp; (try with_reducible rfl); done)); simp only [Act.put, List.getElem_toArray, List.getElem_cons_zero, List.getElem_cons_succ, List.setIfInBounds_toArray, List.set_cons_zero, List.set_cons_succ])
          (refine wpAnyH_take (i := 24) (v := ?_) rfl (by kernel_rfl) (by kernel_rfl) (by kernel_rfl) (fun _ _ _ h => h) (Or.inl ⟨by rfl, ?_⟩) (by assumption) ?_; rotate_left; (focus (intro w hSw; (try dsimp only at hSw); go_simp; (try with_reducible rfl); done)); simp only [Act.put, List.getElem_toArray, List.getElem_cons_zero, List.getElem_cons_succ, List.setIfInBounds_toArray, List.set_cons_zero, List.set_cons_succ])
          (refine wpAnyH_take (i := 25) (v := ?_) rfl (by kernel_rfl) (by kernel_rfl) (by kernel_rfl) (fun _ _ _ h => h) (Or.inl ⟨by rfl, ?_⟩) (by assumption) ?_; rotate_left; (focus (intro w hSw; (try dsimp only at hSw); go_simp; (try with_reducible rfl); done)); simp only [Act.put, List.getElem_toArray, List.getElem_cons_zero, List.getElem_cons_succ, List.setIfInBounds_toArray, List.set_cons_zero, List.set_cons_succ])
          (refine wpAnyH_take (i := 26) (v := ?_) rfl (by kernel_rfl) (by kernel_rfl) (by kernel_rfl) (fun _ _ _ h => h) (Or.inl ⟨by rfl, ?_⟩) (by assumption) ?_; rotate_left; (focus (intro w hSw; (try dsimp only at hSw); go_simp; (try with_reducible rfl); done)); simp only [Act.put, List.getElem_toArray, List.getElem_cons_zero, List.getElem_cons_succ, List.setIfInBounds_toArray, List.set_cons_zero, List.set_cons_succ])
          (refine wpAnyH_take (i := 27) (v := ?_) rfl (by kernel_rfl) (by kernel_rfl) (by kernel_rfl) (fun _ _ _ h => h) (Or.inl ⟨by rfl, ?_⟩) (by assumption) ?_; rotate_left; (focus (intro w hSw; (try dsimp only at hSw); go_simp; (try with_reducible rfl); done)); simp only [Act.put, List.getElem_toArray, List.getElem_cons_zero, List.getElem_cons_succ, List.setIfInBounds_toArray, List.set_cons_zero, List.set_cons_succ])
          (refine wpAnyH_take (i := 28) (v := ?_) rfl (by kernel_rfl) (by kernel_rfl) (by kernel_rfl) (fun _ _ _ h => h) (Or.inl ⟨by rfl, ?_⟩) (by assumption) ?_; rotate_left; (focus (intro w hSw; (try dsimp only at hSw); go_simp; (try with_reducible rfl); done)); simp only [Act.put, List.getElem_toArray, List.getElem_cons_zero, List.getElem_cons_succ, List.setIfInBounds_toArray, List.set_cons_zero, List.set_cons_succ])
          (refine wpAnyH_take (i := 30) (v := ?_) rfl (by kernel_rfl) (by kernel_rfl) (by kernel_rfl) (fun _ _ _ h => h) (Or.inl ⟨by rfl, ?_⟩) (by assumption) ?_; rotate_left; (focus (intro w hSw; (try dsimp only at hSw); go_simp; (try with_reducible rfl); done)); simp only [Act.put, List.getElem_toArray, List.getElem_cons_zero, List.getElem_cons_succ, List.setIfInBounds_toArray, List.set_cons_zero, List.set_cons_succ])
          refine wpAnyH_ready (rs := [29]) (by kernel_rfl) (by simp) ?_
          refine AllReadyH.cons rfl (fun K hK => ?_) AllReadyH.nil
          go_simp
          go_wp2_with fail
          refine (itouch rs ws ra wa rc wc (by omega) (by omega) _ RR_14.out RW_14.out).mono ?_
          rintro e w15 ⟨rfl, hb15⟩
          have BR_15 : Hid (Bx w15 w1.heap.size [.string r.1, .string r.2]) := BR_14.out.below hb15
          have BX_15 : Hid (Bx w15 w3.heap.size [.string x.1, .string x.2]) := BX_14.out.below hb15
          have BE_15 : Hid (Bx w15 w8.heap.size [.string er.1, .string er.2]) := BE_14.out.below hb15
          have RR_15 : Hid (GRow encR w15 ra rs) := RR_14.out.below hb15
          have RW_15 : Hid (GRow encW w15 wa ws) := RW_14.out.below hb15
          have RX_15 : Hid (GRow encW w15 xa xs) := RX_14.out.below hb15
          have RY_15 : Hid (GRow encW w15 ya ys) := RY_14.out.below hb15
          have HB15 : Hid (Below w.heap.size w w15) := HB14.out.trans (hb15.mono HB14.out.size)
          clear BR_14 BX_14 BE_14 RR_14 RW_14 RX_14 RY_14 HB14
          clear hb15
          go_wp2_with fail
          refine hK.out _ _ ⟨BR_15.out.c0, BR_15.out.c1, BX_15.out.c0, BX_15.out.c1, BE_15.out.c0, BE_15.out.c1⟩ (fun hHeld15 => ?_)
          clear hK K
          (refine wpAnyH_take (i := 31) (v := ?_) rfl (by kernel_rfl) (by kernel_rfl) (by kernel_rfl) (fun _ _ _ h => h) (Or.inl ⟨by rfl, ?_⟩) (by assumption) ?_; rotate_left; (focus (intro w hSw; (try dsimp only at hSw); go_simp; (try with_reducible rfl); done)); simp only [Act.put, List.getElem_toArray, List.getElem_cons_zero, List.getElem_cons_succ, List.setIfInBounds_toArray, List.set_cons_zero, List.set_cons_succ])
          (refine wpAnyH_take (i := 32) (v := ?_) rfl (by kernel_rfl) (by kernel_rfl) (by kernel_rfl) (fun _ _ _ h => h) (Or.inl ⟨by rfl, ?_⟩) (by assumption) ?_; rotate_left; (focus (intro w hSw; (try dsimp only at hSw); go_simp; (try with_reducible rfl); done)); simp only [Act.put, List.getElem_toArray, List.getElem_cons_zero, List.getElem_cons_succ, List.setIfInBounds_toArray, List.set_cons_zero, List.set_cons_succ])
          (refine wpAnyH_take (i := 33) (v := ?_) rfl (by kernel_rfl) (by kernel_rfl) (by kernel_rfl) (fun _ _ _ h => h) (Or.inl ⟨by rfl, ?_⟩) (by assumption) ?_; rotate_left; (focus (intro w hSw; (try dsimp only at hSw); go_simp; (try with_reducible rfl); done)); simp only [Act.put, List.getElem_toArray, List.getElem_cons_zero, List.getElem_cons_succ, List.setIfInBounds_toArray, List.set_cons_zero, List.set_cons_succ])
          (refine wpAnyH_take (i := 34) (v := ?_) rfl (by kernel_rfl) (by kernel_rfl) (by kernel_rfl) (fun _ _ _ h => h) (Or.inl ⟨by rfl, ?_⟩) (by assumption) ?_; rotate_left; (focus (intro w hSw; (try dsimp only at hSw); go_simp; (try with_reducible rfl); done)); simp only [Act.put, List.getElem_toArray, List.getElem_cons_zero, List.getElem_cons_succ, List.setIfInBounds_toArray, List.set_cons_zero, List.set_cons_succ])
          (refine wpAnyH_take (i := 35) (v := ?_) rfl (by kernel_rfl) (by kernel_rfl) (by kernel_rfl) (fun _ _ _ h => h) (Or.inl ⟨by rfl, ?_⟩) (by assumption) ?_; rotate_left; (focus (intro w hSw; (try dsimp only at hSw); go_simp; (try with_reducible rfl); done)); simp only [Act.put, List.getElem_toArray, List.getElem_cons_zero, List.getElem_cons_succ, List.setIfInBounds_toArray, List.set_cons_zero, List.set_cons_succ])
          (refine wpAnyH_take (i := 37) (v := ?_) rfl (by kernel_rfl) (by kernel_rfl) (by kernel_rfl) (fun _ _ _ h => h) (Or.inl ⟨by rfl, ?_⟩) (by assumption) ?_; rotate_left; (focus (intro w hSw; (try dsimp only at hSw); go_simp; (try with_reducible rfl); done)); simp only [Act.put, List.getElem_toArray, List.getElem_cons_zero, List.getElem_cons_succ, List.setIfInBounds_toArray, List.set_cons_zero, List.set_cons_succ])
          (refine wpAnyH_take (i := 38) (v := ?_) rfl (by kernel_rfl) (by kernel_rfl) (by kernel_rfl) (fun _ _ _ h => h) (Or.inl ⟨by rfl, ?_⟩) (by assumption) ?_; rotate_left; (focus (intro w hSw; (try dsimp only at hSw); go_simp; (try with_reducible rfl); done)); simp only [Act.put, List.getElem_toArray, List.getElem_cons_zero, List.getElem_cons_succ, List.setIfInBounds_toArray, List.set_cons_zero, List.set_cons_succ])
          refine wpAnyH_ready (rs := [36]) (by kernel_rfl) (by simp) ?_
          refine AllReadyH.cons rfl (fun K hK => ?_) AllReadyH.nil
          go_simp
          go_wp2_with fail
          refine (imeets xs ys xa ya xc yc (by omega) (by omega) FX.out FY.out _ RX_15.out RY_15.out).mono ?_
          rintro e w16 ⟨rfl, hb16⟩
          have BR_16 : Hid (Bx w16 w1.heap.size [.string r.1, .string r.2]) := BR_15.out.below hb16
          have BX_16 : Hid (Bx w16 w3.heap.size [.string x.1, .string x.2]) := BX_15.out.below hb16
          have BE_16 : Hid (Bx w16 w8.heap.size [.string er.1, .string er.2]) := BE_15.out.below hb16
          have RR_16 : Hid (GRow encR w16 ra rs) := RR_15.out.below hb16
          have RW_16 : Hid (GRow encW w16 wa ws) := RW_15.out.below hb16
          have RX_16 : Hid (GRow encW w16 xa xs) := RX_15.out.below hb16
          have RY_16 : Hid (GRow encW w16 ya ys) := RY_15.out.below hb16
          have HB16 : Hid (Below w.heap.size w w16) := HB15.out.trans (hb16.mono HB15.out.size)
          clear BR_15 BX_15 BE_15 RR_15 RW_15 RX_15 RY_15 HB15
          clear hb16
          go_wp2_with fail
          refine hK.out _ _ ⟨BR_16.out.c0, BR_16.out.c1, BX_16.out.c0, BX_16.out.c1, BE_16.out.c0, BE_16.out.c1⟩ (fun hHeld16 => ?_)
          clear hK K
          refine wpAnyH_ready (rs := [39]) (by kernel_rfl) (by simp) ?_
          refine AllReadyH.cons rfl (fun K hK => ?_) AllReadyH.nil
          go_simp
          go_wp2_with fail
          refine (imeets ys xs ya xa yc xc (by omega) (by omega) FY.out FX.out _ RY_16.out RX_16.out).mono ?_
          rintro e w17 ⟨rfl, hb17⟩
          rw [V4.out]
          have BR_17 : Hid (Bx w17 w1.heap.size [.string r.1, .string r.2]) := BR_16.out.below hb17
          have BX_17 : Hid (Bx w17 w3.heap.size [.string x.1, .string x.2]) := BX_16.out.below hb17
          have BE_17 : Hid (Bx w17 w8.heap.size [.string er.1, .string er.2]) := BE_16.out.below hb17
          have RR_17 : Hid (GRow encR w17 ra rs) := RR_16.out.below hb17
          have RW_17 : Hid (GRow encW w17 wa ws) := RW_16.out.below hb17
          have RX_17 : Hid (GRow encW w17 xa xs) := RX_16.out.below hb17
          have RY_17 : Hid (GRow encW w17 ya ys) := RY_16.out.below hb17
          have HB17 : Hid (Below w.heap.size w w17) := HB16.out.trans (hb17.mono HB16.out.size)
          clear BR_16 BX_16 BE_16 RR_16 RW_16 RX_16 RY_16 HB16
          clear hb17
          go_wp2_with fail
          refine hK.out _ _ ⟨BR_17.out.c0, BR_17.out.c1, BX_17.out.c0, BX_17.out.c1, BE_17.out.c0, BE_17.out.c1⟩ (fun hHeld17 => ?_)
          clear hK K
          (refine wpAnyH_take (i := 40) (v := ?_) rfl (by kernel_rfl) (by kernel_rfl) (by kernel_rfl) (fun _ _ _ h => h) (Or.inl ⟨by rfl, ?_⟩) (by assumption) ?_; rotate_left; (focus (intro w hSw; (try dsimp only at hSw); go_simp; (try with_reducible rfl); done)); simp only [Act.put, List.getElem_toArray, List.getElem_cons_zero, List.getElem_cons_succ, List.setIfInBounds_toArray, List.set_cons_zero, List.set_cons_succ])
          (refine wpAnyH_take (i := 41) (v := ?_) rfl (by kernel_rfl) (by kernel_rfl) (by kernel_rfl) (fun _ _ _ h => h) (Or.inl ⟨by rfl, ?_⟩) (by assumption) ?_; rotate_left; (focus (intro w hSw; (try dsimp only at hSw); go_simp; (try with_reducible rfl); done)); simp only [Act.put, List.getElem_toArray, List.getElem_cons_zero, List.getElem_cons_succ, List.setIfInBounds_toArray, List.set_cons_zero, List.set_cons_succ])
          (refine wpAnyH_take (i := 42) (v := ?_) rfl (by kernel_rfl) (by kernel_rfl) (by kernel_rfl) (fun _ _ _ h => h) (Or.inl ⟨by rfl, ?_⟩) (by assumption) ?_; rotate_left; (focus (intro w hSw; (try dsimp only at hSw); go_simp; (try with_reducible rfl); done)); simp only [Act.put, List.getElem_toArray, List.getElem_cons_zero, List.getElem_cons_succ, List.setIfInBounds_toArray, List.set_cons_zero, List.set_cons_succ])
          (refine wpAnyH_take (i := 43) (v := ?_) rfl (by kernel_rfl) (by kernel_rfl) (by kernel_rfl) (fun _ _ _ h => h) (Or.inl ⟨by rfl, ?_⟩) (by assumption) ?_; rotate_left; (focus (intro w hSw; (try dsimp only at hSw); go_simp; (try with_reducible rfl); done)); simp only [Act.put, List.getElem_toArray, List.getElem_cons_zero, List.getElem_cons_succ, List.setIfInBounds_toArray, List.set_cons_zero, List.set_cons_succ])
          (refine wpAnyH_take (i := 44) (v := ?_) rfl (by kernel_rfl) (by kernel_rfl) (by kernel_rfl) (fun _ _ _ h => h) (Or.inl ⟨by rfl, ?_⟩) (by assumption) ?_; rotate_left; (focus (intro w hSw; (try dsimp only at hSw); go_simp; (try with_reducible rfl); done)); simp only [Act.put, List.getElem_toArray, List.getElem_cons_zero, List.getElem_cons_succ, List.setIfInBounds_toArray, List.set_cons_zero, List.set_cons_succ])
          (refine wpAnyH_take (i := 46) (v := ?_) rfl (by kernel_rfl) (by kernel_rfl) (by kernel_rfl) (fun _ _ _ h => h) (Or.inl ⟨by rfl, ?_⟩) (by assumption) ?_; rotate_left; (focus (intro w hSw; (try dsimp only at hSw); go_simp; (try with_reducible rfl); done)); simp only [Act.put, List.getElem_toArray, List.getElem_cons_zero, List.getElem_cons_succ, List.setIfInBounds_toArray, List.set_cons_zero, List.set_cons_succ])
          (refine wpAnyH_take (i := 47) (v := ?_) rfl (by kernel_rfl) (by kernel_rfl) (by kernel_rfl) (fun _ _ _ h => h) (Or.inl ⟨by rfl, ?_⟩) (by assumption) ?_; rotate_left; (focus (intro w hSw; (try dsimp only at hSw); go_simp; (try with_reducible rfl); done)); simp only [Act.put, List.getElem_toArray, List.getElem_cons_zero, List.getElem_cons_succ, List.setIfInBounds_toArray, List.set_cons_zero, List.set_cons_succ])
          refine wpAnyH_ready (rs := [45]) (by kernel_rfl) (by simp) ?_
          refine AllReadyH.cons rfl (fun K hK => ?_) AllReadyH.nil
          go_simp
          go_wp2_with fail
          refine (imeets xs ys xa ya xc yc (by omega) (by omega) FX.out FY.out _ RX_17.out RY_17.out).mono ?_
          rintro e w18 ⟨rfl, hb18⟩
          have BR_18 : Hid (Bx w18 w1.heap.size [.string r.1, .string r.2]) := BR_17.out.below hb18
          have BX_18 : Hid (Bx w18 w3.heap.size [.string x.1, .string x.2]) := BX_17.out.below hb18
          have BE_18 : Hid (Bx w18 w8.heap.size [.string er.1, .string er.2]) := BE_17.out.below hb18
          have RR_18 : Hid (GRow encR w18 ra rs) := RR_17.out.below hb18
          have RW_18 : Hid (GRow encW w18 wa ws) := RW_17.out.below hb18
          have RX_18 : Hid (GRow encW w18 xa xs) := RX_17.out.below hb18
          have RY_18 : Hid (GRow encW w18 ya ys) := RY_17.out.below hb18
          have HB18 : Hid (Below w.heap.size w w18) := HB17.out.trans (hb18.mono HB17.out.size)
          clear BR_17 BX_17 BE_17 RR_17 RW_17 RX_17 RY_17 HB17
          clear hb18
          go_wp2_with fail
          refine hK.out _ _ ⟨BR_18.out.c0, BR_18.out.c1, BX_18.out.c0, BX_18.out.c1, BE_18.out.c0, BE_18.out.c1⟩ (fun hHeld18 => ?_)
          clear hK K
          refine wpAnyH_ready (rs := [48]) (by kernel_rfl) (by simp) ?_
          refine AllReadyH.cons rfl (fun K hK => ?_) AllReadyH.nil
          go_simp
          go_wp2_with fail
          refine (smeets xs ys xa ya xc yc (by omega) (by omega) _ RX_18.out RY_18.out).mono ?_
          rintro e w19 ⟨rfl, hb19⟩
          have BR_19 : Hid (Bx w19 w1.heap.size [.string r.1, .string r.2]) := BR_18.out.below hb19
          have BX_19 : Hid (Bx w19 w3.heap.size [.string x.1, .string x.2]) := BX_18.out.below hb19
          have BE_19 : Hid (Bx w19 w8.heap.size [.string er.1, .string er.2]) := BE_18.out.below hb19
          have RR_19 : Hid (GRow encR w19 ra rs) := RR_18.out.below hb19
          have RW_19 : Hid (GRow encW w19 wa ws) := RW_18.out.below hb19
          have RX_19 : Hid (GRow encW w19 xa xs) := RX_18.out.below hb19
          have RY_19 : Hid (GRow encW w19 ya ys) := RY_18.out.below hb19
          have HB19 : Hid (Below w.heap.size w w19) := HB18.out.trans (hb19.mono HB18.out.size)
          clear BR_18 BX_18 BE_18 RR_18 RW_18 RX_18 RY_18 HB18
          clear hb19
          go_wp2_with fail
          refine hK.out _ _ ⟨BR_19.out.c0, BR_19.out.c1, BX_19.out.c0, BX_19.out.c1, BE_19.out.c0, BE_19.out.c1⟩ (fun hHeld19 => ?_)
          clear hK K
          (refine wpAnyH_take (i := 49) (v := ?_) rfl (by kernel_rfl) (by kernel_rfl) (by kernel_rfl) (fun _ _ _ h => h) (Or.inl ⟨by rfl, ?_⟩) (by assumption) ?_; rotate_left; (focus (intro w hSw; (try dsimp only at hSw); go_simp; (try with_reducible rfl); done)); simp only [Act.put, List.getElem_toArray, List.getElem_cons_zero, List.getElem_cons_succ, List.setIfInBounds_toArray, List.set_cons_zero, List.set_cons_succ])
          (refine wpAnyH_take (i := 50) (v := ?_) rfl (by kernel_rfl) (by kernel_rfl) (by kernel_rfl) (fun _ _ _ h => h) (Or.inl ⟨by rfl, ?_⟩) (by assumption) ?_; rotate_left; (focus (intro w hSw; (try dsimp only at hSw); go_simp; (try with_reducible rfl); done)); simp only [Act.put, List.getElem_toArray, List.getElem_cons_zero, List.getElem_cons_succ, List.setIfInBounds_toArray, List.set_cons_zero, List.set_cons_succ])
          (refine wpAnyH_take (i := 51) (v := ?_) rfl (by kernel_rfl) (by kernel_rfl) (by kernel_rfl) (fun _ _ _ h => h) (Or.inl ⟨by rfl, ?_⟩) (by assumption) ?_; rotate_left; (focus (intro w hSw; (try dsimp only at hSw); go_simp; (try with_reducible rfl); done)); simp only [Act.put, List.getElem_toArray, List.getElem_cons_zero, List.getElem_cons_succ, List.setIfInBounds_toArray, List.set_cons_zero, List.set_cons_succ])
          (refine wpAnyH_take (i := 52) (v := ?_) rfl (by kernel_rfl) (by kernel_rfl) (by kernel_rfl) (fun _ _ _ h => h) (Or.inl ⟨by rfl, ?_⟩) (by assumption) ?_; rotate_left; (focus (intro w hSw; (try dsimp only at hSw); go_simp; (try with_reducible rfl); done)); simp only [Act.put, List.getElem_toArray, List.getElem_cons_zero, List.getElem_cons_succ, List.setIfInBounds_toArray, List.set_cons_zero, List.set_cons_succ])
          (refine wpAnyH_take (i := 54) (v := ?_) rfl (by kernel_rfl) (by kernel_rfl) (by kernel_rfl) (fun _ _ _ h => h) (Or.inl ⟨by rfl, ?_⟩) (by assumption) ?_; rotate_left; (focus (intro w hSw; (try dsimp only at hSw); go_simp; (try with_reducible rfl); done)); simp only [Act.put, List.getElem_toArray, List.getElem_cons_zero, List.getElem_cons_succ, List.setIfInBounds_toArray, List.set_cons_zero, List.set_cons_succ])
          refine wpAnyH_ready (rs := [53]) (by kernel_rfl) (by simp) ?_
          refine AllReadyH.cons rfl (fun K hK => ?_) AllReadyH.nil
          go_simp
          go_wp2_with fail
          refine (irange er.1 er.2 _).mono ?_
          rintro e w20 ⟨rfl, hb20⟩
          have BR_20 : Hid (Bx w20 w1.heap.size [.string r.1, .string r.2]) := BR_19.out.below hb20
          have BX_20 : Hid (Bx w20 w3.heap.size [.string x.1, .string x.2]) := BX_19.out.below hb20
          have BE_20 : Hid (Bx w20 w8.heap.size [.string er.1, .string er.2]) := BE_19.out.below hb20
          have RR_20 : Hid (GRow encR w20 ra rs) := RR_19.out.below hb20
          have RW_20 : Hid (GRow encW w20 wa ws) := RW_19.out.below hb20
          have RX_20 : Hid (GRow encW w20 xa xs) := RX_19.out.below hb20
          have RY_20 : Hid (GRow encW w20 ya ys) := RY_19.out.below hb20
          have HB20 : Hid (Below w.heap.size w w20) := HB19.out.trans (hb20.mono HB19.out.size)
          clear BR_19 BX_19 BE_19 RR_19 RW_19 RX_19 RY_19 HB19
          clear hb20
          go_wp2_with fail
          refine hK.out _ _ ⟨BR_20.out.c0, BR_20.out.c1, BX_20.out.c0, BX_20.out.c1, BE_20.out.c0, BE_20.out.c1⟩ (fun hHeld20 => ?_)
          clear hK K
          refine wpAnyH_ready (rs := [55]) (by kernel_rfl) (by simp) ?_
          refine AllReadyH.cons rfl (fun K hK => ?_) AllReadyH.nil
          go_simp
          go_wp2_with fail
          refine (srange er.1 er.2 EZ.out.1 EZ.out.2 _).mono ?_
          rintro e w21 ⟨rfl, hb21⟩
          have BR_21 : Hid (Bx w21 w1.heap.size [.string r.1, .string r.2]) := BR_20.out.below hb21
          have BX_21 : Hid (Bx w21 w3.heap.size [.string x.1, .string x.2]) := BX_20.out.below hb21
          have BE_21 : Hid (Bx w21 w8.heap.size [.string er.1, .string er.2]) := BE_20.out.below hb21
          have RR_21 : Hid (GRow encR w21 ra rs) := RR_20.out.below hb21
          have RW_21 : Hid (GRow encW w21 wa ws) := RW_20.out.below hb21
          have RX_21 : Hid (GRow encW w21 xa xs) := RX_20.out.below hb21
          have RY_21 : Hid (GRow encW w21 ya ys) := RY_20.out.below hb21
          have HB21 : Hid (Below w.heap.size w w21) := HB20.out.trans (hb21.mono HB20.out.size)
          clear BR_20 BX_20 BE_20 RR_20 RW_20 RX_20 RY_20 HB20
          clear hb21
          go_wp2_with fail
          refine hK.out _ _ ⟨BR_21.out.c0, BR_21.out.c1, BX_21.out.c0, BX_21.out.c1, BE_21.out.c0, BE_21.out.c1⟩ (fun hHeld21 => ?_)
          clear hK K
          (refine wpAnyH_take (i := 56) (v := ?_) rfl (by kernel_rfl) (by kernel_rfl) (by kernel_rfl) (fun _ _ _ h => h) (Or.inl ⟨by rfl, ?_⟩) (by assumption) ?_; rotate_left; (focus (intro w hSw; (try dsimp only at hSw); go_simp; (try with_reducible rfl); done)); simp only [Act.put, List.getElem_toArray, List.getElem_cons_zero, List.getElem_cons_succ, List.setIfInBounds_toArray, List.set_cons_zero, List.set_cons_succ])
          (refine wpAnyH_take (i := 57) (v := ?_) rfl (by kernel_rfl) (by kernel_rfl) (by kernel_rfl) (fun _ _ _ h => h) (Or.inl ⟨by rfl, ?_⟩) (by assumption) ?_; rotate_left; (focus (intro w hSw; (try dsimp only at hSw); go_simp; (try with_reducible rfl); done)); simp only [Act.put, List.getElem_toArray, List.getElem_cons_zero, List.getElem_cons_succ, List.setIfInBounds_toArray, List.set_cons_zero, List.set_cons_succ])
          (refine wpAnyH_take (i := 58) (v := ?_) rfl (by kernel_rfl) (by kernel_rfl) (by kernel_rfl) (fun _ _ _ h => h) (Or.inl ⟨by rfl, ?_⟩) (by assumption) ?_; rotate_left; (focus (intro w hSw; (try dsimp only at hSw); go_simp; (try with_reducible rfl); done)); simp only [Act.put, List.getElem_toArray, List.getElem_cons_zero, List.getElem_cons_succ, List.setIfInBounds_toArray, List.set_cons_zero, List.set_cons_succ])
          (refine wpAnyH_take (i := 59) (v := ?_) rfl (by kernel_rfl) (by kernel_rfl) (by kernel_rfl) (fun _ _ _ h => h) (Or.inl ⟨by rfl, ?_⟩) (by assumption) ?_; rotate_left; (focus (intro w hSw; (try dsimp only at hSw); go_simp; (try with_reducible rfl); done)); simp only [Act.put, List.getElem_toArray, List.getElem_cons_zero, List.getElem_cons_succ, List.setIfInBounds_toArray, List.set_cons_zero, List.set_cons_succ])
          (refine wpAnyH_take (i := 61) (v := ?_) rfl (by kernel_rfl) (by kernel_rfl) (by kernel_rfl) (fun _ _ _ h => h) (Or.inl ⟨by rfl, ?_⟩) (by assumption) ?_; rotate_left; (focus (intro w hSw; (try dsimp only at hSw); go_simp; (try with_reducible rfl); done)); simp only [Act.put, List.getElem_toArray, List.getElem_cons_zero, List.getElem_cons_succ, List.setIfInBounds_toArray, List.set_cons_zero, List.set_cons_succ])
          refine wpAnyH_ready (rs := [60]) (by kernel_rfl) (by simp) ?_
          refine AllReadyH.cons rfl (fun K hK => ?_) AllReadyH.nil
          go_simp
          go_wp2_with fail
          refine (ikeyB fs _).mono ?_
          rintro e w22 ⟨rfl, hb22⟩
          have BR_22 : Hid (Bx w22 w1.heap.size [.string r.1, .string r.2]) := BR_21.out.below hb22
          have BX_22 : Hid (Bx w22 w3.heap.size [.string x.1, .string x.2]) := BX_21.out.below hb22
          have BE_22 : Hid (Bx w22 w8.heap.size [.string er.1, .string er.2]) := BE_21.out.below hb22
          have RR_22 : Hid (GRow encR w22 ra rs) := RR_21.out.below hb22
          have RW_22 : Hid (GRow encW w22 wa ws) := RW_21.out.below hb22
          have RX_22 : Hid (GRow encW w22 xa xs) := RX_21.out.below hb22
          have RY_22 : Hid (GRow encW w22 ya ys) := RY_21.out.below hb22
          have HB22 : Hid (Below w.heap.size w w22) := HB21.out.trans (hb22.mono HB21.out.size)
          clear BR_21 BX_21 BE_21 RR_21 RW_21 RX_21 RY_21 HB21
          clear hb22
          go_wp2_with fail
          refine hK.out _ _ ⟨BR_22.out.c0, BR_22.out.c1, BX_22.out.c0, BX_22.out.c1, BE_22.out.c0, BE_22.out.c1⟩ (fun hHeld22 => ?_)
          clear hK K
          refine wpAnyH_ready (rs := [62]) (by kernel_rfl) (by simp) ?_
          refine AllReadyH.cons rfl (fun K hK => ?_) AllReadyH.nil
          go_simp
          go_wp2_with fail
          refine (skeyB fs FZ.out _).mono ?_
          rintro e w23 ⟨rfl, hb23⟩
          have BR_23 : Hid (Bx w23 w1.heap.size [.string r.1, .string r.2]) := BR_22.out.below hb23
          have BX_23 : Hid (Bx w23 w3.heap.size [.string x.1, .string x.2]) := BX_22.out.below hb23
          have BE_23 : Hid (Bx w23 w8.heap.size [.string er.1, .string er.2]) := BE_22.out.below hb23
          have RR_23 : Hid (GRow encR w23 ra rs) := RR_22.out.below hb23
          have RW_23 : Hid (GRow encW w23 wa ws) := RW_22.out.below hb23
          have RX_23 : Hid (GRow encW w23 xa xs) := RX_22.out.below hb23
          have RY_23 : Hid (GRow encW w23 ya ys) := RY_22.out.below hb23
          have HB23 : Hid (Below w.heap.size w w23) := HB22.out.trans (hb23.mono HB22.out.size)
          clear BR_22 BX_22 BE_22 RR_22 RW_22 RX_22 RY_22 HB22
          clear hb23
          go_wp2_with fail
          refine hK.out _ _ ⟨BR_23.out.c0, BR_23.out.c1, BX_23.out.c0, BX_23.out.c1, BE_23.out.c0, BE_23.out.c1⟩ (fun hHeld23 => ?_)
          clear hK K
          (refine wpAnyH_take (i := 63) (v := ?_) rfl (by kernel_rfl) (by kernel_rfl) (by kernel_rfl) (fun _ _ _ h => h) (Or.inl ⟨by rfl, ?_⟩) (by assumption) ?_; rotate_left; (focus (intro w hSw; (try dsimp only at hSw); go_simp; (try with_reducible rfl); done)); simp only [Act.put, List.getElem_toArray, List.getElem_cons_zero, List.getElem_cons_succ, List.setIfInBounds_toArray, List.set_cons_zero, List.set_cons_succ])
          (refine wpAnyH_take (i := 64) (v := ?_) rfl (by kernel_rfl) (by kernel_rfl) (by kernel_rfl) (fun _ _ _ h => h) (Or.inl ⟨by rfl, ?_⟩) (by assumption) ?_; rotate_left; (focus (intro w hSw; (try dsimp only at hSw); go_simp; (try with_reducible rfl); done)); simp only [Act.put, List.getElem_toArray, List.getElem_cons_zero, List.getElem_cons_succ, List.setIfInBounds_toArray, List.set_cons_zero, List.set_cons_succ])
          (refine wpAnyH_take (i := 65) (v := ?_) rfl (by kernel_rfl) (by kernel_rfl) (by kernel_rfl) (fun _ _ _ h => h) (Or.inl ⟨by rfl, ?_⟩) (by assumption) ?_; rotate_left; (focus (intro w hSw; (try dsimp only at hSw); go_simp; (try with_reducible rfl); done)); simp only [Act.put, List.getElem_toArray, List.getElem_cons_zero, List.getElem_cons_succ, List.setIfInBounds_toArray, List.set_cons_zero, List.set_cons_succ])
          (refine wpAnyH_take (i := 66) (v := ?_) rfl (by kernel_rfl) (by kernel_rfl) (by kernel_rfl) (fun _ _ _ h => h) (Or.inl ⟨by rfl, ?_⟩) (by assumption) ?_; rotate_left; (focus (intro w hSw; (try dsimp only at hSw); go_simp; (try with_reducible rfl); done)); simp only [Act.put, List.getElem_toArray, List.getElem_cons_zero, List.getElem_cons_succ, List.setIfInBounds_toArray, List.set_cons_zero, List.set_cons_succ])
          refine wpAnyH_ready (rs := [67]) (by kernel_rfl) (by simp) ?_
          refine AllReadyH.cons rfl (fun K hK => ?_) AllReadyH.nil
          go_simp
          go_wp2_with fail
          refine (irange r.1 r.2 _).mono ?_
          rintro e w24 ⟨rfl, hb24⟩
          rw [V3.out]
          have BR_24 : Hid (Bx w24 w1.heap.size [.string r.1, .string r.2]) := BR_23.out.below hb24
          have BX_24 : Hid (Bx w24 w3.heap.size [.string x.1, .string x.2]) := BX_23.out.below hb24
          have BE_24 : Hid (Bx w24 w8.heap.size [.string er.1, .string er.2]) := BE_23.out.below hb24
          have RR_24 : Hid (GRow encR w24 ra rs) := RR_23.out.below hb24
          have RW_24 : Hid (GRow encW w24 wa ws) := RW_23.out.below hb24
          have RX_24 : Hid (GRow encW w24 xa xs) := RX_23.out.below hb24
          have RY_24 : Hid (GRow encW w24 ya ys) := RY_23.out.below hb24
          have HB24 : Hid (Below w.heap.size w w24) := HB23.out.trans (hb24.mono HB23.out.size)
          clear BR_23 BX_23 BE_23 RR_23 RW_23 RX_23 RY_23 HB23
          clear hb24
          go_wp2_with fail
          refine hK.out _ _ ⟨BR_24.out.c0, BR_24.out.c1, BX_24.out.c0, BX_24.out.c1, BE_24.out.c0, BE_24.out.c1⟩ (fun hHeld24 => ?_)
          clear hK K
          (refine wpAnyH_take (i := 68) (v := ?_) rfl (by kernel_rfl) (by kernel_rfl) (by kernel_rfl) (fun _ _ _ h => h) (Or.inl ⟨by rfl, ?_⟩) (by assumption) ?_; rotate_left; (focus (intro w hSw; (try dsimp only at hSw); go_simp; (try with_reducible rfl); done)); simp only [Act.put, List.getElem_toArray, List.getElem_cons_zero, List.getElem_cons_succ, List.setIfInBounds_toArray, List.set_cons_zero, List.set_cons_succ])
          (refine wpAnyH_take (i := 69) (v := ?_) rfl (by kernel_rfl) (by kernel_rfl) (by kernel_rfl) (fun _ _ _ h => h) (Or.inl ⟨by rfl, ?_⟩) (by assumption) ?_; rotate_left; (focus (intro w hSw; (try dsimp only at hSw); go_simp; (try with_reducible rfl); done)); simp only [Act.put, List.getElem_toArray, List.getElem_cons_zero, List.getElem_cons_succ, List.setIfInBounds_toArray, List.set_cons_zero, List.set_cons_succ])
          refine wpAnyH_done (by kernel_rfl) ?_ _
          go_wp2
          go_ret
          exact ⟨rfl, HB24.out⟩
        · have h1' : (!Op.bytesLess kk.toList x.1.toList) = true := (not_lt _ _).trans h1
          have V5 : Hid (inB (x.1, x.2) kk = (Op.bytesLess kk.toList x.2.toList || kk.toList == x.2.toList)) := by show _ = _; unfold inB; rw [h1]; rfl
          have bL := beqS (Op.bytesLess kk.toList x.2.toList || kk.toList == x.2.toList)
          clear h1
          go_wp2
          simp only [List.append_eq, List.cons_append, List.nil_append]
          have ab11 : Below w10.heap.size w10 w10.drew := (belowRefl w10).drew
          have BR_11 : Hid (Bx w10.drew w1.heap.size [.string r.1, .string r.2]) := BR_10.out.below ab11
          have BX_11 : Hid (Bx w10.drew w3.heap.size [.string x.1, .string x.2]) := BX_10.out.below ab11
          have BE_11 : Hid (Bx w10.drew w8.heap.size [.string er.1, .string er.2]) := BE_10.out.below ab11
          have RR_11 : Hid (GRow encR w10.drew ra rs) := RR_10.out.below ab11
          have RW_11 : Hid (GRow encW w10.drew wa ws) := RW_10.out.below ab11
          have RX_11 : Hid (GRow encW w10.drew xa xs) := RX_10.out.below ab11
          have RY_11 : Hid (GRow encW w10.drew ya ys) := RY_10.out.below ab11
          have HB11 : Hid (Below w.heap.size w w10.drew) := HB10.out.trans (ab11.mono HB10.out.size)
          clear BR_10 BX_10 BE_10 RR_10 RW_10 RX_10 RY_10 HB10
          clear ab11
          refine wp_region_held_drew (S := fun w' => w'.cell? ⟨w1.heap.size, 0, none⟩ = some (.string r.1) ∧ w'.cell? ⟨w1.heap.size, 1, none⟩ = some (.string r.2) ∧ w'.cell? ⟨w3.heap.size, 0, none⟩ = some (.string x.1) ∧ w'.cell? ⟨w3.heap.size, 1, none⟩ = some (.string x.2) ∧ w'.cell? ⟨w8.heap.size, 0, none⟩ = some (.string er.1) ∧ w'.cell? ⟨w8.heap.size, 1, none⟩ = some (.string er.2)) (by kernel_rfl) ⟨BR_11.out.c0, BR_11.out.c1, BX_11.out.c0, BX_11.out.c1, BE_11.out.c0, BE_11.out.c1⟩ (fun hHeld => ?_)
          (refine wpAnyH_take (i := 0) (v := ?_) rfl (by kernel_rfl) (by kernel_rfl) (by kernel_rfl) (fun _ _ _ h => h) (Or.inl ⟨by rfl, ?_⟩) (by assumption) ?_; rotate_left; (focus (intro w hSw; (try dsimp only at hSw); go_simp; (try with_reducible rfl); done)); simp only [Act.put, List.getElem_toArray, List.getElem_cons_zero, List.setIfInBounds_toArray, List.set_cons_zero, List.set_cons_succ])
          (refine wpAnyH_take (i := 1) (v := ?_) rfl (by kernel_rfl) (by kernel_rfl) (by kernel_rfl) (fun _ _ _ h => h) (Or.inl ⟨by rfl, ?_⟩) (by assumption) ?_; rotate_left; (focus (intro w hSw; (try dsimp only at hSw); go_simp; (try with_reducible rfl); done)); simp only [Act.put, List.getElem_toArray, List.getElem_cons_zero, List.getElem_cons_succ, List.setIfInBounds_toArray, List.set_cons_zero, List.set_cons_succ])
          (refine wpAnyH_take (i := 2) (v := ?_) rfl (by kernel_rfl) (by kernel_rfl) (by kernel_rfl) (fun _ _ _ h => h) (Or.inl ⟨by rfl, ?_⟩) (by assumption) ?_; rotate_left; (focus (intro w hSw; (try dsimp only at hSw); go_simp; (try with_reducible rfl); done)); simp only [Act.put, List.getElem_toArray, List.getElem_cons_zero, List.getElem_cons_succ, List.setIfInBounds_toArray, List.set_cons_zero, List.set_cons_succ])
          refine wpAnyH_ready (rs := [3]) (by kernel_rfl) (by simp) ?_
          refine AllReadyH.cons rfl (fun K hK => ?_) AllReadyH.nil
          go_simp
          go_wp2_with fail
          refine (iin r.1 r.2 r.1 _).mono ?_
          rintro e w12 ⟨rfl, hb12⟩
          rw [V1.out]
          have BR_12 : Hid (Bx w12 w1.heap.size [.string r.1, .string r.2]) := BR_11.out.below hb12
          have BX_12 : Hid (Bx w12 w3.heap.size [.string x.1, .string x.2]) := BX_11.out.below hb12
          have BE_12 : Hid (Bx w12 w8.heap.size [.string er.1, .string er.2]) := BE_11.out.below hb12
          have RR_12 : Hid (GRow encR w12 ra rs) := RR_11.out.below hb12
          have RW_12 : Hid (GRow encW w12 wa ws) := RW_11.out.below hb12
          have RX_12 : Hid (GRow encW w12 xa xs) := RX_11.out.below hb12
          have RY_12 : Hid (GRow encW w12 ya ys) := RY_11.out.below hb12
          have HB12 : Hid (Below w.heap.size w w12) := HB11.out.trans (hb12.mono HB11.out.size)
          clear BR_11 BX_11 BE_11 RR_11 RW_11 RX_11 RY_11 HB11
          clear hb12
          go_wp2_with fail
          refine hK.out _ _ ⟨BR_12.out.c0, BR_12.out.c1, BX_12.out.c0, BX_12.out.c1, BE_12.out.c0, BE_12.out.c1⟩ (fun hHeld12 => ?_)
          clear hK K
          (refine wpAnyH_take (i := 4) (v := ?_) rfl (by kernel_rfl) (by kernel_rfl) (by kernel_rfl) (fun _ _ _ h => h) (Or.inl ⟨by rfl, ?_⟩) (by assumption) ?_; rotate_left; (focus (intro w hSw; (try dsimp only at hSw); go_simp; (try with_reducible rfl); done)); simp only [Act.put, List.getElem_toArray, List.getElem_cons_zero, List.getElem_cons_succ, List.setIfInBounds_toArray, List.set_cons_zero, List.set_cons_succ])
          (refine wpAnyH_take (i := 5) (v := ?_) rfl (by kernel_rfl) (by kernel_rfl) (by kernel_rfl) (fun _ _ _ h => h) (Or.inl ⟨by rfl, ?_⟩) (by assumption) ?_; rotate_left; (focus (intro w hSw; (try dsimp only at hSw); go_simp; (try with_reducible rfl); done)); simp only [Act.put, List.getElem_toArray, List.getElem_cons_zero, List.getElem_cons_succ, List.setIfInBounds_toArray, List.set_cons_zero, List.set_cons_succ])
          (refine wpAnyH_take (i := 6) (v := ?_) rfl (by kernel_rfl) (by kernel_rfl) (by kernel_rfl) (fun _ _ _ h => h) (Or.inl ⟨by rfl, ?_⟩) (by assumption) ?_; rotate_left; (focus (intro w hSw; (try dsimp only at hSw); go_simp; (try with_reducible rfl); done)); simp only [Act.put, List.getElem_toArray, List.getElem_cons_zero, List.getElem_cons_succ, List.setIfInBounds_toArray, List.set_cons_zero, List.set_cons_succ])
          (refine wpAnyH_take (i := 7) (v := ?_) rfl (by kernel_rfl) (by kernel_rfl) (by kernel_rfl) (fun _ _ _ h => h) (Or.inl ⟨by rfl, ?_⟩) (by assumption) ?_; rotate_left; (focus (intro w hSw; (try dsimp only at hSw); go_simp; (try with_reducible rfl); done)); simp only [Act.put, List.getElem_toArray, List.getElem_cons_zero, List.getElem_cons_succ, List.setIfInBounds_toArray, List.set_cons_zero, List.set_cons_succ])
          refine wpAnyH_ready (rs := [8]) (by kernel_rfl) (by simp) ?_
          refine AllReadyH.cons rfl (fun K hK => ?_) AllReadyH.nil
          go_simp
          go_wp2_with fail
          refine (iin r.1 r.2 r.2 _).mono ?_
          rintro e w13 ⟨rfl, hb13⟩
          rw [V2.out]
          have BR_13 : Hid (Bx w13 w1.heap.size [.string r.1, .string r.2]) := BR_12.out.below hb13
          have BX_13 : Hid (Bx w13 w3.heap.size [.string x.1, .string x.2]) := BX_12.out.below hb13
          have BE_13 : Hid (Bx w13 w8.heap.size [.string er.1, .string er.2]) := BE_12.out.below hb13
          have RR_13 : Hid (GRow encR w13 ra rs) := RR_12.out.below hb13
          have RW_13 : Hid (GRow encW w13 wa ws) := RW_12.out.below hb13
          have RX_13 : Hid (GRow encW w13 xa xs) := RX_12.out.below hb13
          have RY_13 : Hid (GRow encW w13 ya ys) := RY_12.out.below hb13
          have HB13 : Hid (Below w.heap.size w w13) := HB12.out.trans (hb13.mono HB12.out.size)
          clear BR_12 BX_12 BE_12 RR_12 RW_12 RX_12 RY_12 HB12
          clear hb13
          go_wp2_with fail
          refine hK.out _ _ ⟨BR_13.out.c0, BR_13.out.c1, BX_13.out.c0, BX_13.out.c1, BE_13.out.c0, BE_13.out.c1⟩ (fun hHeld13 => ?_)
          clear hK K
          (refine wpAnyH_take (i := 9) (v := ?_) rfl (by kernel_rfl) (by kernel_rfl) (by kernel_rfl) (fun _ _ _ h => h) (Or.inl ⟨by rfl, ?_⟩) (by assumption) ?_; rotate_left; (focus (intro w hSw; (try dsimp only at hSw); go_simp; (try with_reducible rfl); done)); simp only [Act.put, List.getElem_toArray, List.getElem_cons_zero, List.getElem_cons_succ, List.setIfInBounds_toArray, List.set_cons_zero, List.set_cons_succ])
          (refine wpAnyH_take (i := 10) (v := ?_) rfl (by kernel_rfl) (by kernel_rfl) (by kernel_rfl) (fun _ _ _ h => h) (Or.inl ⟨by rfl, ?_⟩) (by assumption) ?_; rotate_left; (focus (intro w hSw; (try dsimp only at hSw); go_simp; (try with_reducible rfl); done)); simp only [Act.put, List.getElem_toArray, List.getElem_cons_zero, List.getElem_cons_succ, List.setIfInBounds_toArray, List.set_cons_zero, List.set_cons_succ])
          (refine wpAnyH_take (i := 11) (v := ?_) rfl (by kernel_rfl) (by kernel_rfl) (by kernel_rfl) (fun _ _ _ h => h) (Or.inl ⟨by rfl, ?_⟩) (by assumption) ?_; rotate_left; (focus (intro w hSw; (try dsimp only at hSw); go_simp; (try with_reducible rfl); done)); simp only [Act.put, List.getElem_toArray, List.getElem_cons_zero, List.getElem_cons_succ, List.setIfInBounds_toArray, List.set_cons_zero, List.set_cons_succ])
          (refine wpAnyH_take (i := 12) (v := ?_) rfl (by kernel_rfl) (by kernel_rfl) (by kernel_rfl) (fun _ _ _ h => h) (Or.inl ⟨by rfl, ?_⟩) (by assumption) ?_; rotate_left; (focus (intro w hSw; (try dsimp only at hSw); go_simp; (try with_reducible rfl); done)); simp only [Act.put, List.getElem_toArray, List.getElem_cons_zero, List.getElem_cons_succ, List.setIfInBounds_toArray, List.set_cons_zero, List.set_cons_succ])
          (refine wpAnyH_take (i := 14) (v := ?_) rfl (by kernel_rfl) (by kernel_rfl) (by kernel_rfl) (fun _ _ _ h => h) (Or.inl ⟨by rfl, ?_⟩) (by assumption) ?_; rotate_left; (focus (intro w hSw; (try dsimp only at hSw); go_simp; (try with_reducible rfl); done)); simp only [Act.put, List.getElem_toArray, List.getElem_cons_zero, List.getElem_cons_succ, List.setIfInBounds_toArray, List.set_cons_zero, List.set_cons_succ])
          (refine wpAnyH_take (i := 15) (v := ?_) rfl (by kernel_rfl) (by kernel_rfl) (by kernel_rfl) (fun _ _ _ h => h) (Or.inl ⟨by rfl, ?_⟩) (by assumption) ?_; rotate_left; (focus (intro w hSw; (try dsimp only at hSw); go_simp; (try with_reducible rfl); done)); simp only [Act.put, List.getElem_toArray, List.getElem_cons_zero, List.getElem_cons_succ, List.setIfInBounds_toArray, List.set_cons_zero, List.set_cons_succ])
          (refine wpAnyH_take (i := 16) (v := ?_) rfl (by kernel_rfl) (by kernel_rfl) (by kernel_rfl) (fun _ _ _ h => h) (Or.inl ⟨by rfl, ?_⟩) (by assumption) ?_; rotate_left; (focus (intro w hSw; (try dsimp only at hSw); go_simp; (try with_reducible rfl); done)); simp only [Act.put, List.getElem_toArray, List.getElem_cons_zero, List.getElem_cons_succ, List.setIfInBounds_toArray, List.set_cons_zero, List.set_cons_succ])
          (refine wpAnyH_take (i := 17) (v := ?_) rfl (by kernel_rfl) (by kernel_rfl) (by kernel_rfl) (fun _ _ _ h => h) (Or.inl ⟨by rfl, ?_⟩) (by assumption) ?_; rotate_left; (focus (intro w hSw; (try dsimp only at hSw); go_simp; (try with_reducible rfl); done)); simp only [Act.put, List.getElem_toArray, List.getElem_cons_zero, List.getElem_cons_succ, List.setIfInBounds_toArray, List.set_cons_zero, List.set_cons_succ])
          refine wpAnyH_ready (rs := [13]) (by kernel_rfl) (by simp) ?_
          refine AllReadyH.cons rfl (fun K hK => ?_) AllReadyH.nil
          go_simp
          go_wp2_with fail
          refine (iin x.1 x.2 kk _).mono ?_
          rintro e w14 ⟨rfl, hb14⟩
          rw [V5.out]
          have BR_14 : Hid (Bx w14 w1.heap.size [.string r.1, .string r.2]) := BR_13.out.below hb14
          have BX_14 : Hid (Bx w14 w3.heap.size [.string x.1, .string x.2]) := BX_13.out.below hb14
          have BE_14 : Hid (Bx w14 w8.heap.size [.string er.1, .string er.2]) := BE_13.out.below hb14
          have RR_14 : Hid (GRow encR w14 ra rs) := RR_13.out.below hb14
          have RW_14 : Hid (GRow encW w14 wa ws) := RW_13.out.below hb14
          have RX_14 : Hid (GRow encW w14 xa xs) := RX_13.out.below hb14
          have RY_14 : Hid (GRow encW w14 ya ys) := RY_13.out.below hb14
          have HB14 : Hid (Below w.heap.size w w14) := HB13.out.trans (hb14.mono HB13.out.size)
          clear BR_13 BX_13 BE_13 RR_13 RW_13 RX_13 RY_13 HB13
          clear hb14
          go_wp2_with fail
          refine hK.out _ _ ⟨BR_14.out.c0, BR_14.out.c1, BX_14.out.c0, BX_14.out.c1, BE_14.out.c0, BE_14.out.c1⟩ (fun hHeld14 => ?_)
          clear hK K
          (refine wpAnyH_take (i := 18) (v := ?_) rfl (by kernel_rfl) (by kernel_rfl) (by kernel_rfl) (fun _ _ _ h => h) (Or.inl ⟨by rfl, ?_⟩) (by assumption) ?_; rotate_left; (focus (intro w hSw; (try dsimp only at hSw); go_simp; (try with_reducible rfl); done)); simp only [Act.put, List.getElem_toArray, List.getElem_cons_zero, List.getElem_cons_succ, List.setIfInBounds_toArray, List.set_cons_zero, List.set_cons_succ])
          (refine wpAnyH_take (i := 19) (v := ?_) rfl (by kernel_rfl) (by kernel_rfl) (by kernel_rfl) (fun _ _ _ h => h) (Or.inl ⟨by rfl, ?_⟩) (by assumption) ?_; rotate_left; (focus (intro w hSw; (try dsimp only at hSw); go_simp; (try with_reducible rfl); done)); simp only [Act.put, List.getElem_toArray, List.getElem_cons_zero, List.getElem_cons_succ, List.setIfInBounds_toArray, List.set_cons_zero, List.set_cons_succ])
          (refine wpAnyH_take (i := 20) (v := ?_) rfl (by kernel_rfl) (by kernel_rfl) (by kernel_rfl) (fun _ _ _ h => h) (Or.inl ⟨by rfl, ?_⟩) (by assumption) ?_; rotate_left; (focus (intro w hSw; (try dsimp only at hSw); go_simp; (try with_reducible rfl); done)); simp only [Act.put, List.getElem_toArray, List.getElem_cons_zero, List.getElem_cons_succ, List.setIfInBounds_toArray, List.set_cons_zero, List.set_cons_succ])
          (refine wpAnyH_take (i := 21) (v := ?_) rfl (by kernel_rfl) (by kernel_rfl) (by kernel_rfl) (fun _ _ _ h => h) (Or.inl ⟨by rfl, ?_⟩) (by assumption) ?_; rotate_left; (focus (intro w hSw; (try dsimp only at hSw); go_simp; (try with_reducible rfl); done)); simp only [Act.put, List.getElem_toArray, List.getElem_cons_zero, List.getElem_cons_succ, List.setIfInBounds_toArray, List.set_cons_zero, List.set_cons_succ])
          (refine wpAnyH_take (i := 22) (v := ?_) rfl (by kernel_rfl) (by kernel_rfl) (by kernel_rfl) (fun _ _ _ h => h) (Or.inl ⟨by rfl, ?_⟩) (by assumption) ?_; rotate_left; (focus (intro w hSw; (try dsimp only at hSw); go_simp; (try with_reducible rfl); done)); simp only [Act.put, List.getElem_toArray, List.getElem_cons_zero, List.getElem_cons_succ, List.setIfInBounds_toArray, List.set_cons_zero, List.set_cons_succ])
          (refine wpAnyH_take (i := 23) (v := ?_) rfl (by kernel_rfl) (by kernel_rfl) (by kernel_rfl) (fun _ _ _ h => h) (Or.inl ⟨by rfl, ?_⟩) (by assumption) ?_; rotate_left; (focus (intro w hSw; (try dsimp only at hSw); go_simp; (try with_reducible rfl); done)); simp only [Act.put, List.getElem_toArray, List.getElem_cons_zero, List.getElem_cons_succ, List.setIfInBounds_toArray, List.set_cons_zero, List.set_cons_succ])
          (refine wpAnyH_take (i := 24) (v := ?_) rfl (by kernel_rfl) (by kernel_rfl) (by kernel_rfl) (fun _ _ _ h => h) (Or.inl ⟨by rfl, ?_⟩) (by assumption) ?_; rotate_left; (focus (intro w hSw; (try dsimp only at hSw); go_simp; (try with_reducible rfl); done)); simp only [Act.put, List.getElem_toArray, List.getElem_cons_zero, List.getElem_cons_succ, List.setIfInBounds_toArray, List.set_cons_zero, List.set_cons_succ])
          (refine wpAnyH_take (i := 25) (v := ?_) rfl (by kernel_rfl) (by kernel_rfl) (by kernel_rfl) (fun _ _ _ h => h) (Or.inl ⟨by rfl, ?_⟩) (by assumption) ?_; rotate_left; (focus (intro w hSw; (try dsimp only at hSw); go_simp; (try with_reducible rfl); done)); simp only [Act.put, List.getElem_toArray, List.getElem_cons_zero, List.getElem_cons_succ, List.setIfInBounds_toArray, List.set_cons_zero, List.set_cons_succ])
          (refine wpAnyH_take (i := 26) (v := ?_) rfl (by kernel_rfl) (by kernel_rfl) (by kernel_rfl) (fun _ _ _ h => h) (Or.inl ⟨by rfl, ?_⟩) (by assumption) ?_; rotate_left; (focus (intro w hSw; (try dsimp only at hSw); go_simp; (try with_reducible rfl); done)); simp only [Act.put, List.getElem_toArray, List.getElem_cons_zero, List.getElem_cons_succ, List.setIfInBounds_toArray, List.set_cons_zero, List.set_cons_succ])
          (refine wpAnyH_take (i := 27) (v := ?_) rfl (by kernel_rfl) (by kernel_rfl) (by kernel_rfl) (fun _ _ _ h => h) (Or.inl ⟨by rfl, ?_⟩) (by assumption) ?_; rotate_left; (focus (intro w hSw; (try dsimp only at hSw); go_simp; (try with_reducible rfl); done)); simp only [Act.put, List.getElem_toArray, List.getElem_cons_zero, List.getElem_cons_succ, List.setIfInBounds_toArray, List.set_cons_zero, List.set_cons_succ])
          (refine wpAnyH_take (i := 28) (v := ?_) rfl (by kernel_rfl) (by kernel_rfl) (by kernel_rfl) (fun _ _ _ h => h) (Or.inl ⟨by rfl, ?_⟩) (by assumption) ?_; rotate_left; (focus (intro w hSw; (try dsimp only at hSw); go_simp; (try with_reducible rfl); done)); simp only [Act.put, List.getElem_toArray, List.getElem_cons_zero, List.getElem_cons_succ, List.setIfInBounds_toArray, List.set_cons_zero, List.set_cons_succ])
          (refine wpAnyH_take (i := 30) (v := ?_) rfl (by kernel_rfl) (by kernel_rfl) (by kernel_rfl) (fun _ _ _ h => h) (Or.inl ⟨by rfl, ?_⟩) (by assumption) ?_; rotate_left; (focus (intro w hSw; (try dsimp only at hSw); go_simp; (try with_reducible rfl); done)); simp only [Act.put, List.getElem_toArray, List.getElem_cons_zero, List.getElem_cons_succ, List.setIfInBounds_toArray, List.set_cons_zero, List.set_cons_succ])
          refine wpAnyH_ready (rs := [29]) (by kernel_rfl) (by simp) ?_
          refine AllReadyH.cons rfl (fun K hK => ?_) AllReadyH.nil
          go_simp
          go_wp2_with fail
          refine (itouch rs ws ra wa rc wc (by omega) (by omega) _ RR_14.out RW_14.out).mono ?_
          rintro e w15 ⟨rfl, hb15⟩
          have BR_15 : Hid (Bx w15 w1.heap.size [.string r.1, .string r.2]) := BR_14.out.below hb15
          have BX_15 : Hid (Bx w15 w3.heap.size [.string x.1, .string x.2]) := BX_14.out.below hb15
          have BE_15 : Hid (Bx w15 w8.heap.size [.string er.1, .string er.2]) := BE_14.out.below hb15
          have RR_15 : Hid (GRow encR w15 ra rs) := RR_14.out.below hb15
          have RW_15 : Hid (GRow encW w15 wa ws) := RW_14.out.below hb15
          have RX_15 : Hid (GRow encW w15 xa xs) := RX_14.out.below hb15
          have RY_15 : Hid (GRow encW w15 ya ys) := RY_14.out.below hb15
          have HB15 : Hid (Below w.heap.size w w15) := HB14.out.trans (hb15.mono HB14.out.size)
          clear BR_14 BX_14 BE_14 RR_14 RW_14 RX_14 RY_14 HB14
          clear hb15
          go_wp2_with fail
          refine hK.out _ _ ⟨BR_15.out.c0, BR_15.out.c1, BX_15.out.c0, BX_15.out.c1, BE_15.out.c0, BE_15.out.c1⟩ (fun hHeld15 => ?_)
          clear hK K
          (refine wpAnyH_take (i := 31) (v := ?_) rfl (by kernel_rfl) (by kernel_rfl) (by kernel_rfl) (fun _ _ _ h => h) (Or.inl ⟨by rfl, ?_⟩) (by assumption) ?_; rotate_left; (focus (intro w hSw; (try dsimp only at hSw); go_simp; (try with_reducible rfl); done)); simp only [Act.put, List.getElem_toArray, List.getElem_cons_zero, List.getElem_cons_succ, List.setIfInBounds_toArray, List.set_cons_zero, List.set_cons_succ])
          (refine wpAnyH_take (i := 32) (v := ?_) rfl (by kernel_rfl) (by kernel_rfl) (by kernel_rfl) (fun _ _ _ h => h) (Or.inl ⟨by rfl, ?_⟩) (by assumption) ?_; rotate_left; (focus (intro w hSw; (try dsimp only at hSw); go_simp; (try with_reducible rfl); done)); simp only [Act.put, List.getElem_toArray, List.getElem_cons_zero, List.getElem_cons_succ, List.setIfInBounds_toArray, List.set_cons_zero, List.set_cons_succ])
          (refine wpAnyH_take (i := 33) (v := ?_) rfl (by kernel_rfl) (by kernel_rfl) (by kernel_rfl) (fun _ _ _ h => h) (Or.inl ⟨by rfl, ?_⟩) (by assumption) ?_; rotate_left; (focus (intro w hSw; (try dsimp only at hSw); go_simp; (try with_reducible rfl); done)); simp only [Act.put, List.getElem_toArray, List.getElem_cons_zero, List.getElem_cons_succ, List.setIfInBounds_toArray, List.set_cons_zero, List.set_cons_succ])
          (refine wpAnyH_take (i := 34) (v := ?_) rfl (by kernel_rfl) (by kernel_rfl) (by kernel_rfl) (fun _ _ _ h => h) (Or.inl ⟨by rfl, ?_⟩) (by assumption) ?_; rotate_left; (focus (intro w hSw; (try dsimp only at hSw); go_simp; (try with_reducible rfl); done)); simp only [Act.put, List.getElem_toArray, List.getElem_cons_zero, List.getElem_cons_succ, List.setIfInBounds_toArray, List.set_cons_zero, List.set_cons_succ])
          (refine wpAnyH_take (i := 35) (v := ?_) rfl (by kernel_rfl) (by kernel_rfl) (by kernel_rfl) (fun _ _ _ h => h) (Or.inl ⟨by rfl, ?_⟩) (by assumption) ?_; rotate_left; (focus (intro w hSw; (try dsimp only at hSw); go_simp; (try with_reducible rfl); done)); simp only [Act.put, List.getElem_toArray, List.getElem_cons_zero, List.getElem_cons_succ, List.setIfInBounds_toArray, List.set_cons_zero, List.set_cons_succ])
          (refine wpAnyH_take (i := 37) (v := ?_) rfl (by kernel_rfl) (by kernel_rfl) (by kernel_rfl) (fun _ _ _ h => h) (Or.inl ⟨by rfl, ?_⟩) (by assumption) ?_; rotate_left; (focus (intro w hSw; (try dsimp only at hSw); go_simp; (try with_reducible rfl); done)); simp only [Act.put, List.getElem_toArray, List.getElem_cons_zero, List.getElem_cons_succ, List.setIfInBounds_toArray, List.set_cons_zero, List.set_cons_succ])
          (refine wpAnyH_take (i := 38) (v := ?_) rfl (by kernel_rfl) (by kernel_rfl) (by kernel_rfl) (fun _ _ _ h => h) (Or.inl ⟨by rfl, ?_⟩) (by assumption) ?_; rotate_left; (focus (intro w hSw; (try dsimp only at hSw); go_simp; (try with_reducible rfl); done)); simp only [Act.put, List.getElem_toArray, List.getElem_cons_zero, List.getElem_cons_succ, List.setIfInBounds_toArray, List.set_cons_zero, List.set_cons_succ])
          refine wpAnyH_ready (rs := [36]) (by kernel_rfl) (by simp) ?_
          refine AllReadyH.cons rfl (fun K hK => ?_) AllReadyH.nil
          go_simp
          go_wp2_with fail
          refine (imeets xs ys xa ya xc yc (by omega) (by omega) FX.out FY.out _ RX_15.out RY_15.out).mono ?_
          rintro e w16 ⟨rfl, hb16⟩
          have BR_16 : Hid (Bx w16 w1.heap.size [.string r.1, .string r.2]) := BR_15.out.below hb16
          have BX_16 : Hid (Bx w16 w3.heap.size [.string x.1, .string x.2]) := BX_15.out.below hb16
          have BE_16 : Hid (Bx w16 w8.heap.size [.string er.1, .string er.2]) := BE_15.out.below hb16
          have RR_16 : Hid (GRow encR w16 ra rs) := RR_15.out.below hb16
          have RW_16 : Hid (GRow encW w16 wa ws) := RW_15.out.below hb16
          have RX_16 : Hid (GRow encW w16 xa xs) := RX_15.out.below hb16
          have RY_16 : Hid (GRow encW w16 ya ys) := RY_15.out.below hb16
          have HB16 : Hid (Below w.heap.size w w16) := HB15.out.trans (hb16.mono HB15.out.size)
          clear BR_15 BX_15 BE_15 RR_15 RW_15 RX_15 RY_15 HB15
          clear hb16
          go_wp2_with fail
          refine hK.out _ _ ⟨BR_16.out.c0, BR_16.out.c1, BX_16.out.c0, BX_16.out.c1, BE_16.out.c0, BE_16.out.c1⟩ (fun hHeld16 => ?_)
          clear hK K
          refine wpAnyH_ready (rs := [39]) (by kernel_rfl) (by simp) ?_
          refine AllReadyH.cons rfl (fun K hK => ?_) AllReadyH.nil
          go_simp
          go_wp2_with fail
          refine (imeets ys xs ya xa yc xc (by omega) (by omega) FY.out FX.out _ RY_16.out RX_16.out).mono ?_
          rintro e w17 ⟨rfl, hb17⟩
          rw [V4.out]
          have BR_17 : Hid (Bx w17 w1.heap.size [.string r.1, .string r.2]) := BR_16.out.below hb17
          have BX_17 : Hid (Bx w17 w3.heap.size [.string x.1, .string x.2]) := BX_16.out.below hb17
          have BE_17 : Hid (Bx w17 w8.heap.size [.string er.1, .string er.2]) := BE_16.out.below hb17
          have RR_17 : Hid (GRow encR w17 ra rs) := RR_16.out.below hb17
          have RW_17 : Hid (GRow encW w17 wa ws) := RW_16.out.below hb17
          have RX_17 : Hid (GRow encW w17 xa xs) := RX_16.out.below hb17
          have RY_17 : Hid (GRow encW w17 ya ys) := RY_16.out.below hb17
          have HB17 : Hid (Below w.heap.size w w17) := HB16.out.trans (hb17.mono HB16.out.size)
          clear BR_16 BX_16 BE_16 RR_16 RW_16 RX_16 RY_16 HB16
          clear hb17
          go_wp2_with fail
          refine hK.out _ _ ⟨BR_17.out.c0, BR_17.out.c1, BX_17.out.c0, BX_17.out.c1, BE_17.out.c0, BE_17.out.c1⟩ (fun hHeld17 => ?_)
          clear hK K
          (refine wpAnyH_take (i := 40) (v := ?_) rfl (by kernel_rfl) (by kernel_rfl) (by kernel_rfl) (fun _ _ _ h => h) (Or.inl ⟨by rfl, ?_⟩) (by assumption) ?_; rotate_left; (focus (intro w hSw; (try dsimp only at hSw); go_simp; (try with_reducible rfl); done)); simp only [Act.put, List.getElem_toArray, List.getElem_cons_zero, List.getElem_cons_succ, List.setIfInBounds_toArray, List.set_cons_zero, List.set_cons_succ])
          (refine wpAnyH_take (i := 41) (v := ?_) rfl (by kernel_rfl) (by kernel_rfl) (by kernel_rfl) (fun _ _ _ h => h) (Or.inl ⟨by rfl, ?_⟩) (by assumption) ?_; rotate_left; (focus (intro w hSw; (try dsimp only at hSw); go_simp; (try with_reducible rfl); done)); simp only [Act.put, List.getElem_toArray, List.getElem_cons_zero, List.getElem_cons_succ, List.setIfInBounds_toArray, List.set_cons_zero, List.set_cons_succ])
          (refine wpAnyH_take (i := 42) (v := ?_) rfl (by kernel_rfl) (by kernel_rfl) (by kernel_rfl) (fun _ _ _ h => h) (Or.inl ⟨by rfl, ?_⟩) (by assumption) ?_; rotate_left; (focus (intro w hSw; (try dsimp only at hSw); go_simp; (try with_reducible rfl); done)); simp only [Act.put, List.getElem_toArray, List.getElem_cons_zero, List.getElem_cons_succ, List.setIfInBounds_toArray, List.set_cons_zero, List.set_cons_succ])
          (refine wpAnyH_take (i := 43) (v := ?_) rfl (by kernel_rfl) (by kernel_rfl) (by kernel_rfl) (fun _ _ _ h => h) (Or.inl ⟨by rfl, ?_⟩) (by assumption) ?_; rotate_left; (focus (intro w hSw; (try dsimp only at hSw); go_simp; (try with_reducible rfl); done)); simp only [Act.put, List.getElem_toArray, List.getElem_cons_zero, List.getElem_cons_succ, List.setIfInBounds_toArray, List.set_cons_zero, List.set_cons_succ])
          (refine wpAnyH_take (i := 44) (v := ?_) rfl (by kernel_rfl) (by kernel_rfl) (by kernel_rfl) (fun _ _ _ h => h) (Or.inl ⟨by rfl, ?_⟩) (by assumption) ?_; rotate_left; (focus (intro w hSw; (try dsimp only at hSw); go_simp; (try with_reducible rfl); done)); simp only [Act.put, List.getElem_toArray, List.getElem_cons_zero, List.getElem_cons_succ, List.setIfInBounds_toArray, List.set_cons_zero, List.set_cons_succ])
          (refine wpAnyH_take (i := 46) (v := ?_) rfl (by kernel_rfl) (by kernel_rfl) (by kernel_rfl) (fun _ _ _ h => h) (Or.inl ⟨by rfl, ?_⟩) (by assumption) ?_; rotate_left; (focus (intro w hSw; (try dsimp only at hSw); go_simp; (try with_reducible rfl); done)); simp only [Act.put, List.getElem_toArray, List.getElem_cons_zero, List.getElem_cons_succ, List.setIfInBounds_toArray, List.set_cons_zero, List.set_cons_succ])
          (refine wpAnyH_take (i := 47) (v := ?_) rfl (by kernel_rfl) (by kernel_rfl) (by kernel_rfl) (fun _ _ _ h => h) (Or.inl ⟨by rfl, ?_⟩) (by assumption) ?_; rotate_left; (focus (intro w hSw; (try dsimp only at hSw); go_simp; (try with_reducible rfl); done)); simp only [Act.put, List.getElem_toArray, List.getElem_cons_zero, List.getElem_cons_succ, List.setIfInBounds_toArray, List.set_cons_zero, List.set_cons_succ])
          refine wpAnyH_ready (rs := [45]) (by kernel_rfl) (by simp) ?_
          refine AllReadyH.cons rfl (fun K hK => ?_) AllReadyH.nil
          go_simp
          go_wp2_with fail
          refine (imeets xs ys xa ya xc yc (by omega) (by omega) FX.out FY.out _ RX_17.out RY_17.out).mono ?_
          rintro e w18 ⟨rfl, hb18⟩
          have BR_18 : Hid (Bx w18 w1.heap.size [.string r.1, .string r.2]) := BR_17.out.below hb18
          have BX_18 : Hid (Bx w18 w3.heap.size [.string x.1, .string x.2]) := BX_17.out.below hb18
          have BE_18 : Hid (Bx w18 w8.heap.size [.string er.1, .string er.2]) := BE_17.out.below hb18
          have RR_18 : Hid (GRow encR w18 ra rs) := RR_17.out.below hb18
          have RW_18 : Hid (GRow encW w18 wa ws) := RW_17.out.below hb18
          have RX_18 : Hid (GRow encW w18 xa xs) := RX_17.out.below hb18
          have RY_18 : Hid (GRow encW w18 ya ys) := RY_17.out.below hb18
          have HB18 : Hid (Below w.heap.size w w18) := HB17.out.trans (hb18.mono HB17.out.size)
          clear BR_17 BX_17 BE_17 RR_17 RW_17 RX_17 RY_17 HB17
          clear hb18
          go_wp2_with fail
          refine hK.out _ _ ⟨BR_18.out.c0, BR_18.out.c1, BX_18.out.c0, BX_18.out.c1, BE_18.out.c0, BE_18.out.c1⟩ (fun hHeld18 => ?_)
          clear hK K
          refine wpAnyH_ready (rs := [48]) (by kernel_rfl) (by simp) ?_
          refine AllReadyH.cons rfl (fun K hK => ?_) AllReadyH.nil
          go_simp
          go_wp2_with fail
          refine (smeets xs ys xa ya xc yc (by omega) (by omega) _ RX_18.out RY_18.out).mono ?_
          rintro e w19 ⟨rfl, hb19⟩
          have BR_19 : Hid (Bx w19 w1.heap.size [.string r.1, .string r.2]) := BR_18.out.below hb19
          have BX_19 : Hid (Bx w19 w3.heap.size [.string x.1, .string x.2]) := BX_18.out.below hb19
          have BE_19 : Hid (Bx w19 w8.heap.size [.string er.1, .string er.2]) := BE_18.out.below hb19
          have RR_19 : Hid (GRow encR w19 ra rs) := RR_18.out.below hb19
          have RW_19 : Hid (GRow encW w19 wa ws) := RW_18.out.below hb19
          have RX_19 : Hid (GRow encW w19 xa xs) := RX_18.out.below hb19
          have RY_19 : Hid (GRow encW w19 ya ys) := RY_18.out.below hb19
          have HB19 : Hid (Below w.heap.size w w19) := HB18.out.trans (hb19.mono HB18.out.size)
          clear BR_18 BX_18 BE_18 RR_18 RW_18 RX_18 RY_18 HB18
          clear hb19
          go_wp2_with fail
          refine hK.out _ _ ⟨BR_19.out.c0, BR_19.out.c1, BX_19.out.c0, BX_19.out.c1, BE_19.out.c0, BE_19.out.c1⟩ (fun hHeld19 => ?_)
          clear hK K
          (refine wpAnyH_take (i := 49) (v := ?_) rfl (by kernel_rfl) (by kernel_rfl) (by kernel_rfl) (fun _ _ _ h => h) (Or.inl ⟨by rfl, ?_⟩) (by assumption) ?_; rotate_left; (focus (intro w hSw; (try dsimp only at hSw); go_simp; (try with_reducible rfl); done)); simp only [Act.put, List.getElem_toArray, List.getElem_cons_zero, List.getElem_cons_succ, List.setIfInBounds_toArray, List.set_cons_zero, List.set_cons_succ])
          (refine wpAnyH_take (i := 50) (v := ?_) rfl (by kernel_rfl) (by kernel_rfl) (by kernel_rfl) (fun _ _ _ h => h) (Or.inl ⟨by rfl, ?_⟩) (by assumption) ?_; rotate_left; (focus (intro w hSw; (try dsimp only at hSw); go_simp; (try with_reducible rfl); done)); simp only [Act.put, List.getElem_toArray, List.getElem_cons_zero, List.getElem_cons_succ, List.setIfInBounds_toArray, List.set_cons_zero, List.set_cons_succ])
          (refine wpAnyH_take (i := 51) (v := ?_) rfl (by kernel_rfl) (by kernel_rfl) (by kernel_rfl) (fun _ _ _ h => h) (Or.inl ⟨by rfl, ?_⟩) (by assumption) ?_; rotate_left; (focus (intro w hSw; (try dsimp only at hSw); go_simp; (try with_reducible rfl); done)); simp only [Act.put, List.getElem_toArray, List.getElem_cons_zero, List.getElem_cons_succ, List.setIfInBounds_toArray, List.set_cons_zero, List.set_cons_succ])
          (refine wpAnyH_take (i := 52) (v := ?_) rfl (by kernel_rfl) (by kernel_rfl) (by kernel_rfl) (fun _ _ _ h => h) (Or.inl ⟨by rfl, ?_⟩) (by assumption) ?_; rotate_left; (focus (intro w hSw; (try dsimp only at hSw); go_simp; (try with_reducible rfl); done)); simp only [Act.put, List.getElem_toArray, List.getElem_cons_zero, List.getElem_cons_succ, List.setIfInBounds_toArray, List.set_cons_zero, List.set_cons_succ])
          (refine wpAnyH_take (i := 54) (v := ?_) rfl (by kernel_rfl) (by kernel_rfl) (by kernel_rfl) (fun _ _ _ h => h) (Or.inl ⟨by rfl, ?_⟩) (by assumption) ?_; rotate_left; (focus (intro w hSw; (try dsimp only at hSw); go_simp; (try with_reducible rfl); done)); simp only [Act.put, List.getElem_toArray, List.getElem_cons_zero, List.getElem_cons_succ, List.setIfInBounds_toArray, List.set_cons_zero, List.set_cons_succ])
          refine wpAnyH_ready (rs := [53]) (by kernel_rfl) (by simp) ?_
          refine AllReadyH.cons rfl (fun K hK => ?_) AllReadyH.nil
          go_simp
          go_wp2_with fail
          refine (irange er.1 er.2 _).mono ?_
          rintro e w20 ⟨rfl, hb20⟩
          have BR_20 : Hid (Bx w20 w1.heap.size [.string r.1, .string r.2]) := BR_19.out.below hb20
          have BX_20 : Hid (Bx w20 w3.heap.size [.string x.1, .string x.2]) := BX_19.out.below hb20
          have BE_20 : Hid (Bx w20 w8.heap.size [.string er.1, .string er.2]) := BE_19.out.below hb20
          have RR_20 : Hid (GRow encR w20 ra rs) := RR_19.out.below hb20
          have RW_20 : Hid (GRow encW w20 wa ws) := RW_19.out.below hb20
          have RX_20 : Hid (GRow encW w20 xa xs) := RX_19.out.below hb20
          have RY_20 : Hid (GRow encW w20 ya ys) := RY_19.out.below hb20
          have HB20 : Hid (Below w.heap.size w w20) := HB19.out.trans (hb20.mono HB19.out.size)
          clear BR_19 BX_19 BE_19 RR_19 RW_19 RX_19 RY_19 HB19
          clear hb20
          go_wp2_with fail
          refine hK.out _ _ ⟨BR_20.out.c0, BR_20.out.c1, BX_20.out.c0, BX_20.out.c1, BE_20.out.c0, BE_20.out.c1⟩ (fun hHeld20 => ?_)
          clear hK K
          refine wpAnyH_ready (rs := [55]) (by kernel_rfl) (by simp) ?_
          refine AllReadyH.cons rfl (fun K hK => ?_) AllReadyH.nil
          go_simp
          go_wp2_with fail
          refine (srange er.1 er.2 EZ.out.1 EZ.out.2 _).mono ?_
          rintro e w21 ⟨rfl, hb21⟩
          have BR_21 : Hid (Bx w21 w1.heap.size [.string r.1, .string r.2]) := BR_20.out.below hb21
          have BX_21 : Hid (Bx w21 w3.heap.size [.string x.1, .string x.2]) := BX_20.out.below hb21
          have BE_21 : Hid (Bx w21 w8.heap.size [.string er.1, .string er.2]) := BE_20.out.below hb21
          have RR_21 : Hid (GRow encR w21 ra rs) := RR_20.out.below hb21
          have RW_21 : Hid (GRow encW w21 wa ws) := RW_20.out.below hb21
          have RX_21 : Hid (GRow encW w21 xa xs) := RX_20.out.below hb21
          have RY_21 : Hid (GRow encW w21 ya ys) := RY_20.out.below hb21
          have HB21 : Hid (Below w.heap.size w w21) := HB20.out.trans (hb21.mono HB20.out.size)
          clear BR_20 BX_20 BE_20 RR_20 RW_20 RX_20 RY_20 HB20
          clear hb21
          go_wp2_with fail
          refine hK.out _ _ ⟨BR_21.out.c0, BR_21.out.c1, BX_21.out.c0, BX_21.out.c1, BE_21.out.c0, BE_21.out.c1⟩ (fun hHeld21 => ?_)
          clear hK K
          (refine wpAnyH_take (i := 56) (v := ?_) rfl (by kernel_rfl) (by kernel_rfl) (by kernel_rfl) (fun _ _ _ h => h) (Or.inl ⟨by rfl, ?_⟩) (by assumption) ?_; rotate_left; (focus (intro w hSw; (try dsimp only at hSw); go_simp; (try with_reducible rfl); done)); simp only [Act.put, List.getElem_toArray, List.getElem_cons_zero, List.getElem_cons_succ, List.setIfInBounds_toArray, List.set_cons_zero, List.set_cons_succ])
          (refine wpAnyH_take (i := 57) (v := ?_) rfl (by kernel_rfl) (by kernel_rfl) (by kernel_rfl) (fun _ _ _ h => h) (Or.inl ⟨by rfl, ?_⟩) (by assumption) ?_; rotate_left; (focus (intro w hSw; (try dsimp only at hSw); go_simp; (try with_reducible rfl); done)); simp only [Act.put, List.getElem_toArray, List.getElem_cons_zero, List.getElem_cons_succ, List.setIfInBounds_toArray, List.set_cons_zero, List.set_cons_succ])
          (refine wpAnyH_take (i := 58) (v := ?_) rfl (by kernel_rfl) (by kernel_rfl) (by kernel_rfl) (fun _ _ _ h => h) (Or.inl ⟨by rfl, ?_⟩) (by assumption) ?_; rotate_left; (focus (intro w hSw; (try dsimp only at hSw); go_simp; (try with_reducible rfl); done)); simp only [Act.put, List.getElem_toArray, List.getElem_cons_zero, List.getElem_cons_succ, List.setIfInBounds_toArray, List.set_cons_zero, List.set_cons_succ])
          (refine wpAnyH_take (i := 59) (v := ?_) rfl (by kernel_rfl) (by kernel_rfl) (by kernel_rfl) (fun _ _ _ h => h) (Or.inl ⟨by rfl, ?_⟩) (by assumption) ?_; rotate_left; (focus (intro w hSw; (try dsimp only at hSw); go_simp; (try with_reducible rfl); done)); simp only [Act.put, List.getElem_toArray, List.getElem_cons_zero, List.getElem_cons_succ, List.setIfInBounds_toArray, List.set_cons_zero, List.set_cons_succ])
          (refine wpAnyH_take (i := 61) (v := ?_) rfl (by kernel_rfl) (by kernel_rfl) (by kernel_rfl) (fun _ _ _ h => h) (Or.inl ⟨by rfl, ?_⟩) (by assumption) ?_; rotate_left; (focus (intro w hSw; (try dsimp only at hSw); go_simp; (try with_reducible rfl); done)); simp only [Act.put, List.getElem_toArray, List.getElem_cons_zero, List.getElem_cons_succ, List.setIfInBounds_toArray, List.set_cons_zero, List.set_cons_succ])
          refine wpAnyH_ready (rs := [60]) (by kernel_rfl) (by simp) ?_
          refine AllReadyH.cons rfl (fun K hK => ?_) AllReadyH.nil
          go_simp
          go_wp2_with fail
          refine (ikeyB fs _).mono ?_
          rintro e w22 ⟨rfl, hb22⟩
          have BR_22 : Hid (Bx w22 w1.heap.size [.string r.1, .string r.2]) := BR_21.out.below hb22
          have BX_22 : Hid (Bx w22 w3.heap.size [.string x.1, .string x.2]) := BX_21.out.below hb22
          have BE_22 : Hid (Bx w22 w8.heap.size [.string er.1, .string er.2]) := BE_21.out.below hb22
          have RR_22 : Hid (GRow encR w22 ra rs) := RR_21.out.below hb22
          have RW_22 : Hid (GRow encW w22 wa ws) := RW_21.out.below hb22
          have RX_22 : Hid (GRow encW w22 xa xs) := RX_21.out.below hb22
          have RY_22 : Hid (GRow encW w22 ya ys) := RY_21.out.below hb22
          have HB22 : Hid (Below w.heap.size w w22) := HB21.out.trans (hb22.mono HB21.out.size)
          clear BR_21 BX_21 BE_21 RR_21 RW_21 RX_21 RY_21 HB21
          clear hb22
          go_wp2_with fail
          refine hK.out _ _ ⟨BR_22.out.c0, BR_22.out.c1, BX_22.out.c0, BX_22.out.c1, BE_22.out.c0, BE_22.out.c1⟩ (fun hHeld22 => ?_)
          clear hK K
          refine wpAnyH_ready (rs := [62]) (by kernel_rfl) (by simp) ?_
          refine AllReadyH.cons rfl (fun K hK => ?_) AllReadyH.nil
          go_simp
          go_wp2_with fail
          refine (skeyB fs FZ.out _).mono ?_
          rintro e w23 ⟨rfl, hb23⟩
          have BR_23 : Hid (Bx w23 w1.heap.size [.string r.1, .string r.2]) := BR_22.out.below hb23
          have BX_23 : Hid (Bx w23 w3.heap.size [.string x.1, .string x.2]) := BX_22.out.below hb23
          have BE_23 : Hid (Bx w23 w8.heap.size [.string er.1, .string er.2]) := BE_22.out.below hb23
          have RR_23 : Hid (GRow encR w23 ra rs) := RR_22.out.below hb23
          have RW_23 : Hid (GRow encW w23 wa ws) := RW_22.out.below hb23
          have RX_23 : Hid (GRow encW w23 xa xs) := RX_22.out.below hb23
          have RY_23 : Hid (GRow encW w23 ya ys) := RY_22.out.below hb23
          have HB23 : Hid (Below w.heap.size w w23) := HB22.out.trans (hb23.mono HB22.out.size)
          clear BR_22 BX_22 BE_22 RR_22 RW_22 RX_22 RY_22 HB22
          clear hb23
          go_wp2_with fail
          refine hK.out _ _ ⟨BR_23.out.c0, BR_23.out.c1, BX_23.out.c0, BX_23.out.c1, BE_23.out.c0, BE_23.out.c1⟩ (fun hHeld23 => ?_)
          clear hK K
          (refine wpAnyH_take (i := 63) (v := ?_) rfl (by kernel_rfl) (by kernel_rfl) (by kernel_rfl) (fun _ _ _ h => h) (Or.inl ⟨by rfl, ?_⟩) (by assumption) ?_; rotate_left; (focus (intro w hSw; (try dsimp only at hSw); go_simp; (try with_reducible rfl); done)); simp only [Act.put, List.getElem_toArray, List.getElem_cons_zero, List.getElem_cons_succ, List.setIfInBounds_toArray, List.set_cons_zero, List.set_cons_succ])
          (refine wpAnyH_take (i := 64) (v := ?_) rfl (by kernel_rfl) (by kernel_rfl) (by kernel_rfl) (fun _ _ _ h => h) (Or.inl ⟨by rfl, ?_⟩) (by assumption) ?_; rotate_left; (focus (intro w hSw; (try dsimp only at hSw); go_simp; (try with_reducible rfl); done)); simp only [Act.put, List.getElem_toArray, List.getElem_cons_zero, List.getElem_cons_succ, List.setIfInBounds_toArray, List.set_cons_zero, List.set_cons_succ])
          (refine wpAnyH_take (i := 65) (v := ?_) rfl (by kernel_rfl) (by kernel_rfl) (by kernel_rfl) (fun _ _ _ h => h) (Or.inl ⟨by rfl, ?_⟩) (by assumption) ?_; rotate_left; (focus (intro w hSw; (try dsimp only at hSw); go_simp; (try with_reducible rfl); done)); simp only [Act.put, List.getElem_toArray, List.getElem_cons_zero, List.getElem_cons_succ, List.setIfInBounds_toArray, List.set_cons_zero, List.set_cons_succ])
          (refine wpAnyH_take (i := 66) (v := ?_) rfl (by kernel_rfl) (by kernel_rfl) (by kernel_rfl) (fun _ _ _ h => h) (Or.inl ⟨by rfl, ?_⟩) (by assumption) ?_; rotate_left; (focus (intro w hSw; (try dsimp only at hSw); go_simp; (try with_reducible rfl); done)); simp only [Act.put, List.getElem_toArray, List.getElem_cons_zero, List.getElem_cons_succ, List.setIfInBounds_toArray, List.set_cons_zero, List.set_cons_succ])
          refine wpAnyH_ready (rs := [67]) (by kernel_rfl) (by simp) ?_
          refine AllReadyH.cons rfl (fun K hK => ?_) AllReadyH.nil
          go_simp
          go_wp2_with fail
          refine (irange r.1 r.2 _).mono ?_
          rintro e w24 ⟨rfl, hb24⟩
          rw [V3.out]
          have BR_24 : Hid (Bx w24 w1.heap.size [.string r.1, .string r.2]) := BR_23.out.below hb24
          have BX_24 : Hid (Bx w24 w3.heap.size [.string x.1, .string x.2]) := BX_23.out.below hb24
          have BE_24 : Hid (Bx w24 w8.heap.size [.string er.1, .string er.2]) := BE_23.out.below hb24
          have RR_24 : Hid (GRow encR w24 ra rs) := RR_23.out.below hb24
          have RW_24 : Hid (GRow encW w24 wa ws) := RW_23.out.below hb24
          have RX_24 : Hid (GRow encW w24 xa xs) := RX_23.out.below hb24
          have RY_24 : Hid (GRow encW w24 ya ys) := RY_23.out.below hb24
          have HB24 : Hid (Below w.heap.size w w24) := HB23.out.trans (hb24.mono HB23.out.size)
          clear BR_23 BX_23 BE_23 RR_23 RW_23 RX_23 RY_23 HB23
          clear hb24
          go_wp2_with fail
          refine hK.out _ _ ⟨BR_24.out.c0, BR_24.out.c1, BX_24.out.c0, BX_24.out.c1, BE_24.out.c0, BE_24.out.c1⟩ (fun hHeld24 => ?_)
          clear hK K
          (refine wpAnyH_take (i := 68) (v := ?_) rfl (by kernel_rfl) (by kernel_rfl) (by kernel_rfl) (fun _ _ _ h => h) (Or.inl ⟨by rfl, ?_⟩) (by assumption) ?_; rotate_left; (focus (intro w hSw; (try dsimp only at hSw); go_simp; (try with_reducible rfl); done)); simp only [Act.put, List.getElem_toArray, List.getElem_cons_zero, List.getElem_cons_succ, List.setIfInBounds_toArray, List.set_cons_zero, List.set_cons_succ])
          (refine wpAnyH_take (i := 69) (v := ?_) rfl (by kernel_rfl) (by kernel_rfl) (by kernel_rfl) (fun _ _ _ h => h) (Or.inl ⟨by rfl, ?_⟩) (by assumption) ?_; rotate_left; (focus (intro w hSw; (try dsimp only at hSw); go_simp; (try with_reducible rfl); done)); simp only [Act.put, List.getElem_toArray, List.getElem_cons_zero, List.getElem_cons_succ, List.setIfInBounds_toArray, List.set_cons_zero, List.set_cons_succ])
          refine wpAnyH_done (by kernel_rfl) ?_ _
          go_wp2
          go_ret
          exact ⟨rfl, HB24.out⟩
  · rw [decide_eq_true (by omega)] at HBG
    go_enter Try.func3, Try.ntmps3
    go_wp2_with fail
    refine (HBG.out _).mono ?_
    rintro e w ⟨rfl, rfl⟩
    go_wp2
    go_ret
    exact ⟨rfl, belowRefl _⟩
end Go.Proofs.Ythlfddbijlfgeaa

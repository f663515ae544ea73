/- The law FnLogsTold, walked. -/
import Derived.Test.YtnfkecefkkdedaaPt36
import Derived.Laws.StructEq
import Derived.Deep.Cut
import Derived.Deep.CutRange
import Derived.Deep.RegionHeld3
namespace Go.Proofs.Ytnfkecefkkdedaa
open Go.RowKit
open DM
attribute [local go_sem ↓] Go.wp_at_zero Go.wp_at_succ

set_option maxRecDepth 100000 in
set_option maxHeartbeats 2000000 in
theorem same21 (ss : List ByteArray) (ps : List Wr) (a1 a2 b1 b2 : Option Addr) (c1 c2 d1 d2 : Nat) (hn : ss.length ≤ 100000000) (hm : ps.length ≤ 100000000) (w : World) (h1 : SRow w a1 ss) (h2 : PRow w a2 ps) (h3 : SRow w b1 ss) (h4 : PRow w b2 ps) :
    Calls Try.prog 21 #[.agg #[.slice a1 ss.length c1, .slice a2 ps.length c2], .agg #[.slice b1 ss.length d1, .slice b2 ps.length d2]] w fun e w' => e = .returned (.bool true) ∧ Below w.heap.size w w' := by
  have HS : Hid (∀ W : World, Below w.heap.size w W → Calls Try.prog 20 #[.slice a1 ss.length c1, .slice b1 ss.length d1] W fun e w' => e = .returned (.bool true) ∧ Below W.heap.size W w') := fun W h => same20 a1 b1 c1 d1 ss hn W (h1.below h) (h3.below h)
  have H2 : Hid (PRow w a2 ps) := h2
  have H4 : Hid (PRow w b2 ps) := h4
  have X0 : Hid (Bx ((w.alloc (.cells #[.slice a1 ss.length c1, .slice a2 ps.length c2] 27)).alloc (.cells #[.slice b1 ss.length d1, .slice b2 ps.length d2] 27)) w.heap.size (.slice a1 ss.length c1) (.slice a2 ps.length c2)) := (Bx.new w _ _ _).alloc _
  have X1 : Hid (Bx ((w.alloc (.cells #[.slice a1 ss.length c1, .slice a2 ps.length c2] 27)).alloc (.cells #[.slice b1 ss.length d1, .slice b2 ps.length d2] 27)) (w.heap.size + 1) (.slice b1 ss.length d1) (.slice b2 ps.length d2)) := by
    have h := Bx.new (w.alloc (.cells #[.slice a1 ss.length c1, .slice a2 ps.length c2] 27)) (.slice b1 ss.length d1) (.slice b2 ps.length d2) 27
    show Bx _ _ _ _
    simpa using h
  have B0 : Hid (Below w.heap.size w ((w.alloc (.cells #[.slice a1 ss.length c1, .slice a2 ps.length c2] 27)).alloc (.cells #[.slice b1 ss.length d1, .slice b2 ps.length d2] 27))) := ((belowRefl w).alloc (Nat.le_refl _) _).alloc (by simp) _
  clear h1 h2 h3 h4
  go_enter Try.func21, Try.ntmps21
  go_wp2_with fail
  refine (HS.out _ B0.out).mono ?_
  rintro e w1 ⟨rfl, hb1⟩
  have Y0 : Hid (Bx w1 w.heap.size (.slice a1 ss.length c1) (.slice a2 ps.length c2)) := X0.out.keep hb1 X0.out.lt
  have Y1 : Hid (Bx w1 (w.heap.size + 1) (.slice b1 ss.length d1) (.slice b2 ps.length d2)) := X1.out.keep hb1 X1.out.lt
  have B1 : Hid (Below w.heap.size w w1) := B0.out.trans (hb1.mono B0.out.size)
  clear hb1 X0 X1 B0
  have g1 := Y0.out.c1
  have k1 := Y1.out.c1
  go_wp2
  go_loopw [5] (fun t wr => ∃ k : Nat, k ≤ ps.length ∧ t = .int .i64 k ∧ Hid (Below w1.heap.size w1 wr)) (fun t _ => ps.length - (intOf t).toNat)
  case atStart => exact ⟨0, Nat.zero_le _, rfl, Below.refl _ _⟩
  case round =>
    obtain ⟨k, hk, rfl, HB⟩ := hrel
    clear g1 k1
    have HBw : Hid (Below w.heap.size w wr) := B1.out.trans (HB.out.mono B1.out.size)
    have Yr0 : Hid (Bx wr w.heap.size (.slice a1 ss.length c1) (.slice a2 ps.length c2)) := Y0.out.keep HB.out Y0.out.lt
    have Yr1 : Hid (Bx wr (w.heap.size + 1) (.slice b1 ss.length d1) (.slice b2 ps.length d2)) := Y1.out.keep HB.out Y1.out.lt
    have g1 := Yr0.out.c1
    have k1 := Yr1.out.c1
    by_cases hlt : k < ps.length
    · have hlt' : (k : Int) < (ps.length : Int) := by omega
      have h0 : (0 : Int) ≤ (k : Int) := by omega
      obtain ⟨e1, off1, rfl, hl1, q1⟩ := (H2.out.below HBw.out) (by omega)
      obtain ⟨e2, off2, rfl, hl2, q2⟩ := (H4.out.below HBw.out) (by omega)
      have r10 := (q1 k hlt).1
      have r11 := (q1 k hlt).2
      have r20 := (q2 k hlt).1
      have r21 := (q2 k hlt).2
      clear q1 q2
      go_wp2
      go_quiet (fail)
      go_wp2
      go_roundw
      case rel => exact ⟨k + 1, by omega, by go_num, below_drewN HB.out _⟩
      case measure => simp [intOf]; omega
    · have hd : ¬ (k : Int) < (ps.length : Int) := by omega
      go_wp2
      go_ret
      exact ⟨rfl, HBw.out⟩

theorem shape2 {w : World} {base : Nat} {v : Value} {l : List ByteArray} (h : SOwn w base v l) : ∃ va vc, v = .slice va l.length vc := by
  obtain ⟨ao, cap, e, _⟩ := h.row
  exact ⟨ao, cap, e⟩
theorem oL_len (ss : List ByteArray) (ps : List Wr) (a : Int) : (oL (raO ss ps a)).length ≤ 1000 := by
  unfold raO
  split
  · split
    · cases h : recsGo (arT ss ps a) (cnt ss ps a).toNat [] 0 with
      | none => exact Nat.zero_le 1000
      | some q =>
        obtain ⟨l, n⟩ := q
        have h1 := recs_len _ _ _ _ _ h
        have h2 := cnt_le ss ps a
        show l.length ≤ 1000
        simp at h1
        omega
    · exact Nat.zero_le 1000
  · exact Nat.zero_le 1000
theorem pr_len {ss : List ByteArray} {ps : List Wr} (a : Int) (t : ByteArray) (h : LbI ss ps) (ht : t.size ≤ 30000) : (prS ss ps a t).length ≤ 1000 := by
  cases h1 : logB ss ps
  · rw [(prS_no1 h1).2]; have := h.1; omega
  · cases h2 : recB ss ps a t
    · rw [(prS_no2 h2).2]; have := h.1; omega
    · have hp := logB_parts h1
      rw [(prS_yes h1 h2).2]
      have hc := hp.2.2
      subst hc
      have := logB_parts (put_read h1 h2 (by omega)).2.2
      omega

set_option maxRecDepth 100000 in
set_option maxHeartbeats 8000000 in
theorem law9 (len cap : Nat) (a : Option Addr) (w : World) (hl0 : len ≤ 9223372036854775807) (hr : CodeRow w a len) :
    Calls Try.prog 9 #[.slice a len cap] w fun e w' => e = .returned (.bool true) ∧ Below w.heap.size w w' := by
  have HBG : Hid (∀ W : World, Calls Try.prog 10 #[.slice a len cap] W fun e w' => e = .returned (.bool (decide ((1048576 : Int) < (len : Int)))) ∧ w' = W) := fun W => big10 len cap a W
  by_cases hl : len ≤ 1048576
  · rw [decide_eq_false (by omega)] at HBG
    have HD1 : Hid (∀ W : World, Below w.heap.size w W → Calls Try.prog 43 #[.slice a len cap] W fun e w' => Q43 W e w') := fun W h => dlo43 len cap a hl W (hr.below h)
    have HD2 : Hid (∀ W : World, Below w.heap.size w W → Calls Try.prog 44 #[.slice a len cap] W fun e w' => Q86 W e w') := fun W h => dra44 len cap a hl W (hr.below h)
    have HD3 : Hid (∀ W : World, Below w.heap.size w W → Calls Try.prog 45 #[.slice a len cap] W fun e w' => Q45 W e w') := fun W h => dpr45 len cap a hl W (hr.below h)
    clear hr
    go_enter Try.func9, Try.ntmps9
    go_wp2_with fail
    refine (HBG.out _).mono ?_
    rintro e w ⟨rfl, rfl⟩
    go_wp2_with fail
    refine (HD1.out _ (belowRefl _)).mono ?_
    rintro e w1 ⟨s1, p1, x1, x2, x3, x4, rfl, hd, hI, hb⟩
    have HB : Hid (Below w.heap.size w w1) := hb
    have E3 : Hid (DOwn w1 w.heap.size x1 x2 x3 x4 s1 p1) := hd
    obtain ⟨LG, hLG⟩ : ∃ LG, LG = logB s1 p1 := ⟨_, rfl⟩
    obtain ⟨ac, hac⟩ : ∃ ac, ac = act s1 p1 := ⟨_, rfl⟩
    obtain ⟨lt, hlt⟩ : ∃ lt, lt = oL (raO s1 p1 (act s1 p1)) := ⟨_, rfl⟩
    have hltl : lt.length ≤ 1000 := by rw [hlt]; exact oL_len _ _ _
    have HLO : Hid (∀ (W : World) (z1 : Option Addr) (z2 : Nat) (z3 : Option Addr) (z4 : Nat), SRow W z1 s1 → PRow W z3 p1 → Calls Try.prog 38 #[.agg #[.slice z1 s1.length z2, .slice z3 p1.length z4]] W fun e w' => e = .returned (.bool LG) ∧ Below W.heap.size W w') := fun W z1 z2 z3 z4 h1 h2 => by
      rw [hLG]
      exact ilok24 s1 p1 z1 z3 z2 z4 hI.wide.1 hI.wide.2.1 hI.wide.2.2.1 hI.wide.2.2.2 W h1 h2
    have HLS : Hid (∀ (W : World) (z1 : Option Addr) (z2 : Nat) (z3 : Option Addr) (z4 : Nat), SRow W z1 s1 → PRow W z3 p1 → Calls Try.prog 48 #[.agg #[.slice z1 s1.length z2, .slice z3 p1.length z4]] W fun e w' => e = .returned (.bool LG) ∧ Below W.heap.size W w') := fun W z1 z2 z3 z4 h1 h2 => by
      rw [hLG]
      exact slok22 s1 p1 z1 z3 z2 z4 hI.wide.1 hI.wide.2.1 hI.wide.2.2.1 hI.wide.2.2.2 W h1 h2
    have HAI : Hid (∀ (W : World) (z1 : Option Addr) (z2 : Nat) (z3 : Option Addr) (z4 : Nat), SRow W z1 s1 → PRow W z3 p1 → Calls Try.prog 34 #[.agg #[.slice z1 s1.length z2, .slice z3 p1.length z4]] W fun e w' => e = .returned (.int .i64 ac) ∧ Below W.heap.size W w') := fun W z1 z2 z3 z4 h1 h2 => by
      rw [hac]
      exact iac26 s1 p1 z1 z3 z2 z4 (by have := hI.1; omega) (by have := hI.2.1; omega) (fun s h => Nat.le_trans (hI.2.2.1 s h) (by omega)) (fun p h => Nat.le_trans (hI.2.2.2 p h) (by omega)) W h1 h2
    have HAS : Hid (∀ (W : World) (z1 : Option Addr) (z2 : Nat) (z3 : Option Addr) (z4 : Nat), SRow W z1 s1 → PRow W z3 p1 → Calls Try.prog 37 #[.agg #[.slice z1 s1.length z2, .slice z3 p1.length z4]] W fun e w' => e = .returned (.int .i64 ac) ∧ Below W.heap.size W w') := fun W z1 z2 z3 z4 h1 h2 => by
      rw [hac]
      exact sac25 s1 p1 z1 z3 z2 z4 (by have := hI.1; omega) (by have := hI.2.1; omega) W h1 h2
    have HTI : Hid (∀ (W : World) (z1 : Option Addr) (z2 : Nat) (z3 : Option Addr) (z4 : Nat), SRow W z1 s1 → PRow W z3 p1 → Calls Try.prog 32 #[.agg #[.slice z1 s1.length z2, .slice z3 p1.length z4]] W fun e w' => ∃ va vc, e = .returned (.slice va lt.length vc) ∧ SRow w' va lt ∧ Below W.heap.size W w') := fun W z1 z2 z3 z4 h1 h2 => by
      refine (ilt32 s1 p1 z1 z3 z2 z4 hI.wide.1 hI.wide.2.1 hI.wide.2.2.1 hI.wide.2.2.2 (fun b => arT_b hI b) W h1 h2).mono ?_
      rintro e w' ⟨v, rfl, h3, h4⟩
      rw [← hlt] at h3
      obtain ⟨va, vc, rfl⟩ := shape2 h3
      exact ⟨va, vc, rfl, h3.srow, h4⟩
    have HTS : Hid (∀ (W : World) (z1 : Option Addr) (z2 : Nat) (z3 : Option Addr) (z4 : Nat), SRow W z1 s1 → PRow W z3 p1 → Calls Try.prog 52 #[.agg #[.slice z1 s1.length z2, .slice z3 p1.length z4]] W fun e w' => ∃ va vc, e = .returned (.slice va lt.length vc) ∧ SRow w' va lt ∧ Below W.heap.size W w') := fun W z1 z2 z3 z4 h1 h2 => by
      refine (slt52 s1 p1 z1 z3 z2 z4 hI W h1 h2).mono ?_
      rw [← hlt]
      rintro e w' ⟨va, vc, rfl, h3, h4⟩
      exact ⟨va, vc, rfl, h3.srow, h4⟩
    have HST : Hid (∀ (W : World) (v1 : Option Addr) (c1 : Nat) (v2 : Option Addr) (c2 : Nat), SRow W v1 lt → SRow W v2 lt → Calls Try.prog 20 #[.slice v1 lt.length c1, .slice v2 lt.length c2] W fun e w' => e = .returned (.bool true) ∧ Below W.heap.size W w') := fun W v1 c1 v2 c2 h1 h2 => same20 v1 v2 c1 c2 lt (by omega) W h1 h2
    have hLL : (LG == LG) = true := by simp
    have hcc : (ac == ac) = true := by simp
    clear hd hI hb hLG hac hlt HD1 HBG
    have hba : Below w1.heap.size w1 (w1.alloc (.cells #[.slice x1 s1.length x2, .slice x3 p1.length x4] 27)) := (belowRefl w1).alloc (Nat.le_refl _) _
    replace HB : Hid (Below w.heap.size w (w1.alloc (.cells #[.slice x1 s1.length x2, .slice x3 p1.length x4] 27))) := HB.out.trans (hba.mono HB.out.size)
    replace E3 : Hid (DOwn (w1.alloc (.cells #[.slice x1 s1.length x2, .slice x3 p1.length x4] 27)) w.heap.size x1 x2 x3 x4 s1 p1) := E3.out.below hba
    have B3 : Hid (Bx (w1.alloc (.cells #[.slice x1 s1.length x2, .slice x3 p1.length x4] 27)) w1.heap.size (.slice x1 s1.length x2) (.slice x3 p1.length x4)) := Bx.new w1 _ _ 27
    clear hba
    go_upto_region 4 with fail
    generalize (w1.alloc (.cells #[.slice x1 s1.length x2, .slice x3 p1.length x4] 27)) = v1 at *
    generalize w1.heap.size = X3 at *
    go_wp2_with fail
    refine (HD2.out _ HB.out).mono ?_
    rintro e w2 ⟨s2, p2, y1, y2, y3, y4, ar, rfl, hd, hI, hb⟩
    replace HB : Hid (Below w.heap.size w w2) := HB.out.trans (hb.mono HB.out.size)
    replace E3 : Hid (DOwn w2 w.heap.size x1 x2 x3 x4 s1 p1) := E3.out.below hb
    replace B3 : Hid (Bx w2 X3 (.slice x1 s1.length x2) (.slice x3 p1.length x4)) := B3.out.keep hb B3.out.lt
    have E4 : Hid (DOwn w2 v1.heap.size y1 y2 y3 y4 s2 p2) := hd
    obtain ⟨rt, hrt⟩ : ∃ rt, rt = oL (raO s2 p2 ar) := ⟨_, rfl⟩
    obtain ⟨rn, hrn⟩ : ∃ rn, rn = oE (raO s2 p2 ar) := ⟨_, rfl⟩
    obtain ⟨rb, hrb⟩ : ∃ rb, rb = oB (raO s2 p2 ar) := ⟨_, rfl⟩
    obtain ⟨cn, hcn⟩ : ∃ cn, cn = cnt s2 p2 ar := ⟨_, rfl⟩
    obtain ⟨fa, hfa⟩ : ∃ fa, fa = af ar := ⟨_, rfl⟩
    have hrtl : rt.length ≤ 1000 := by rw [hrt]; exact oL_len _ _ _
    have HRI : Hid (∀ (W : World) (z1 : Option Addr) (z2 : Nat) (z3 : Option Addr) (z4 : Nat), SRow W z1 s2 → PRow W z3 p2 → Calls Try.prog 35 #[.agg #[.slice z1 s2.length z2, .slice z3 p2.length z4], .int .i64 ar] W fun e w' => ∃ va vc, e = .returned (.tuple #[.slice va rt.length vc, .int .i64 (rn : Nat), .bool rb]) ∧ SRow w' va rt ∧ Below W.heap.size W w') := fun W z1 z2 z3 z4 h1 h2 => by
      refine (ira30 s2 p2 ar z1 z3 z2 z4 hI.wide.1 hI.wide.2.1 hI.wide.2.2.1 hI.wide.2.2.2 (arT_b hI ar) W h1 h2).mono ?_
      rintro e w' ⟨v, rfl, h3, h4⟩
      rw [← hrt] at h3
      rw [← hrn, ← hrb]
      obtain ⟨va, vc, rfl⟩ := shape2 h3
      exact ⟨va, vc, rfl, h3.srow, h4⟩
    have HRS : Hid (∀ (W : World) (z1 : Option Addr) (z2 : Nat) (z3 : Option Addr) (z4 : Nat), SRow W z1 s2 → PRow W z3 p2 → Calls Try.prog 36 #[.agg #[.slice z1 s2.length z2, .slice z3 p2.length z4], .int .i64 ar] W fun e w' => ∃ va vc, e = .returned (.tuple #[.slice va rt.length vc, .int .i64 (rn : Nat), .bool rb]) ∧ SRow w' va rt ∧ Below W.heap.size W w') := fun W z1 z2 z3 z4 h1 h2 => by
      refine (sra29 s2 p2 ar z1 z3 z2 z4 hI.wide.1 hI.wide.2.1 hI.wide.2.2.1 hI.wide.2.2.2 (arT_b hI ar) W h1 h2).mono ?_
      rintro e w' ⟨v, rfl, h3, h4⟩
      rw [← hrt] at h3
      rw [← hrn, ← hrb]
      obtain ⟨va, vc, rfl⟩ := shape2 h3
      exact ⟨va, vc, rfl, h3.srow, h4⟩
    have HRT : Hid (∀ (W : World) (v1 : Option Addr) (c1 : Nat) (v2 : Option Addr) (c2 : Nat), SRow W v1 rt → SRow W v2 rt → Calls Try.prog 20 #[.slice v1 rt.length c1, .slice v2 rt.length c2] W fun e w' => e = .returned (.bool true) ∧ Below W.heap.size W w') := fun W v1 c1 v2 c2 h1 h2 => same20 v1 v2 c1 c2 rt (by omega) W h1 h2
    have HCI : Hid (∀ (W : World) (z1 : Option Addr) (z2 : Nat) (z3 : Option Addr) (z4 : Nat), SRow W z1 s2 → PRow W z3 p2 → Calls Try.prog 39 #[.agg #[.slice z1 s2.length z2, .slice z3 p2.length z4], .int .i64 ar] W fun e w' => e = .returned (.int .i64 cn) ∧ Below W.heap.size W w') := fun W z1 z2 z3 z4 h1 h2 => by
      rw [hcn]
      exact icn28 s2 p2 ar z1 z3 z2 z4 (by have := hI.1; omega) (by have := hI.2.1; omega) (fun s h => Nat.le_trans (hI.2.2.1 s h) (by omega)) (fun p h => Nat.le_trans (hI.2.2.2 p h) (by omega)) W h1 h2
    have HCS : Hid (∀ (W : World) (z1 : Option Addr) (z2 : Nat) (z3 : Option Addr) (z4 : Nat), SRow W z1 s2 → PRow W z3 p2 → Calls Try.prog 49 #[.agg #[.slice z1 s2.length z2, .slice z3 p2.length z4], .int .i64 ar] W fun e w' => e = .returned (.int .i64 cn) ∧ Below W.heap.size W w') := fun W z1 z2 z3 z4 h1 h2 => by
      rw [hcn]
      exact scn27 s2 p2 ar z1 z3 z2 z4 (by have := hI.1; omega) (by have := hI.2.1; omega) W h1 h2
    have HFI : Hid (∀ W : World, Calls Try.prog 50 #[.int .i64 ar] W fun e w' => e = .returned (.int .i64 fa) ∧ Below W.heap.size W w') := fun W => by
      refine (iaf15 ar W).mono ?_
      rintro e w' ⟨he, rfl⟩
      exact ⟨by rw [he, hfa], belowRefl _⟩
    have HFS : Hid (∀ W : World, Calls Try.prog 51 #[.int .i64 ar] W fun e w' => e = .returned (.int .i64 fa) ∧ Below W.heap.size W w') := fun W => by
      refine (saf14 ar W).mono ?_
      rintro e w' ⟨he, rfl⟩
      exact ⟨by rw [he, hfa], belowRefl _⟩
    have hrr : (rb == rb) = true := by simp
    have hnn : ((rn : Int) == (rn : Int)) = true := by simp
    have hkk : (cn == cn) = true := by simp
    have hff : (fa == fa) = true := by simp
    clear hd hI hb hrt hrn hrb hcn hfa HD2
    have hba : Below w2.heap.size w2 (w2.alloc (.cells #[.slice y1 s2.length y2, .slice y3 p2.length y4] 27)) := (belowRefl w2).alloc (Nat.le_refl _) _
    replace HB : Hid (Below w.heap.size w (w2.alloc (.cells #[.slice y1 s2.length y2, .slice y3 p2.length y4] 27))) := HB.out.trans (hba.mono HB.out.size)
    replace E3 : Hid (DOwn (w2.alloc (.cells #[.slice y1 s2.length y2, .slice y3 p2.length y4] 27)) w.heap.size x1 x2 x3 x4 s1 p1) := E3.out.below hba
    replace B3 : Hid (Bx (w2.alloc (.cells #[.slice y1 s2.length y2, .slice y3 p2.length y4] 27)) X3 (.slice x1 s1.length x2) (.slice x3 p1.length x4)) := B3.out.keep hba B3.out.lt
    replace E4 : Hid (DOwn (w2.alloc (.cells #[.slice y1 s2.length y2, .slice y3 p2.length y4] 27)) v1.heap.size y1 y2 y3 y4 s2 p2) := E4.out.below hba
    have B4 : Hid (Bx (w2.alloc (.cells #[.slice y1 s2.length y2, .slice y3 p2.length y4] 27)) w2.heap.size (.slice y1 s2.length y2) (.slice y3 p2.length y4)) := Bx.new w2 _ _ 27
    clear hba
    go_upto_region 5 with fail
    generalize (w2.alloc (.cells #[.slice y1 s2.length y2, .slice y3 p2.length y4] 27)) = v2 at *
    generalize w2.heap.size = X4 at *
    have g0 := B4.out.c0
    have g1 := B4.out.c1
    go_wp2_with fail
    refine (HRI.out _ _ _ _ _ E4.out.s.srow E4.out.p.prow).mono ?_
    rintro e w3 ⟨va, vc, rfl, hsv, hb⟩
    replace HB : Hid (Below w.heap.size w w3) := HB.out.trans (hb.mono HB.out.size)
    replace E3 : Hid (DOwn w3 w.heap.size x1 x2 x3 x4 s1 p1) := E3.out.below hb
    replace B3 : Hid (Bx w3 X3 (.slice x1 s1.length x2) (.slice x3 p1.length x4)) := B3.out.keep hb B3.out.lt
    replace E4 : Hid (DOwn w3 v1.heap.size y1 y2 y3 y4 s2 p2) := E4.out.below hb
    replace B4 : Hid (Bx w3 X4 (.slice y1 s2.length y2) (.slice y3 p2.length y4)) := B4.out.keep hb B4.out.lt
    clear g0 g1
    have SA : Hid (SRow w3 va rt) := hsv
    clear hsv hb
    have g0 := B4.out.c0
    have g1 := B4.out.c1
    go_wp2_with fail
    refine (HRS.out _ _ _ _ _ E4.out.s.srow E4.out.p.prow).mono ?_
    rintro e w4 ⟨vb, vd, rfl, hsv, hb⟩
    replace HB : Hid (Below w.heap.size w w4) := HB.out.trans (hb.mono HB.out.size)
    replace E3 : Hid (DOwn w4 w.heap.size x1 x2 x3 x4 s1 p1) := E3.out.below hb
    replace B3 : Hid (Bx w4 X3 (.slice x1 s1.length x2) (.slice x3 p1.length x4)) := B3.out.keep hb B3.out.lt
    replace E4 : Hid (DOwn w4 v1.heap.size y1 y2 y3 y4 s2 p2) := E4.out.below hb
    replace B4 : Hid (Bx w4 X4 (.slice y1 s2.length y2) (.slice y3 p2.length y4)) := B4.out.keep hb B4.out.lt
    replace SA : Hid (SRow w4 va rt) := SA.out.below hb
    clear g0 g1
    have SB : Hid (SRow w4 vb rt) := hsv
    clear hsv hb HRI HRS
    go_wp2_with fail
    refine (HD3.out _ HB.out).mono ?_
    rintro e w5 ⟨s3, p3, k1, k2, k3, k4, az, t, rfl, hd, hI, ht, hb⟩
    replace HB : Hid (Below w.heap.size w w5) := HB.out.trans (hb.mono HB.out.size)
    replace E3 : Hid (DOwn w5 w.heap.size x1 x2 x3 x4 s1 p1) := E3.out.below hb
    replace B3 : Hid (Bx w5 X3 (.slice x1 s1.length x2) (.slice x3 p1.length x4)) := B3.out.keep hb B3.out.lt
    replace E4 : Hid (DOwn w5 v1.heap.size y1 y2 y3 y4 s2 p2) := E4.out.below hb
    replace B4 : Hid (Bx w5 X4 (.slice y1 s2.length y2) (.slice y3 p2.length y4)) := B4.out.keep hb B4.out.lt
    replace SA : Hid (SRow w5 va rt) := SA.out.below hb
    replace SB : Hid (SRow w5 vb rt) := SB.out.below hb
    have E12 : Hid (DOwn w5 w4.heap.size k1 k2 k3 k4 s3 p3) := hd
    obtain ⟨NA, hNA⟩ : ∃ NA, NA = prS s3 p3 az t := ⟨_, rfl⟩
    obtain ⟨OB, hOB⟩ : ∃ OB, OB = prB s3 p3 az t := ⟨_, rfl⟩
    have HPI : Hid (∀ (W : World) (z1 : Option Addr) (z2 : Nat) (z3 : Option Addr) (z4 : Nat), SRow W z1 s3 → PRow W z3 p3 → Calls Try.prog 46 #[.agg #[.slice z1 s3.length z2, .slice z3 p3.length z4], .int .i64 az, .string t] W fun e w' => ∃ f1 f2 f3 f4, e = .returned (.tuple #[.agg #[.slice f1 NA.length f2, .slice f3 p3.length f4], .bool OB]) ∧ DOwn w' W.heap.size f1 f2 f3 f4 NA p3 ∧ Below W.heap.size W w') := fun W z1 z2 z3 z4 h1 h2 => by
      rw [hNA, hOB]
      exact ipr37 s3 p3 az t z1 z3 z2 z4 hI.wide.1 hI.wide.2.1 hI.wide.2.2.1 hI.wide.2.2.2 (by omega) W h1 h2
    have HPS : Hid (∀ (B : Nat) (W : World) (z1 : Option Addr) (z2 : Nat) (z3 : Option Addr) (z4 : Nat), DOwn W B z1 z2 z3 z4 s3 p3 → Calls Try.prog 47 #[.agg #[.slice z1 s3.length z2, .slice z3 p3.length z4], .int .i64 az, .string t] W fun e w' => ∃ f1 f2 f3 f4, e = .returned (.tuple #[.agg #[.slice f1 NA.length f2, .slice f3 p3.length f4], .bool OB]) ∧ DOwn w' W.heap.size f1 f2 f3 f4 NA p3 ∧ Below W.heap.size W w') := fun B W z1 z2 z3 z4 h1 => by
      rw [hNA, hOB]
      exact spr36 s3 p3 az t z1 z3 z2 z4 B hI.wide.1 hI.wide.2.1 hI.wide.2.2.1 hI.wide.2.2.2 (by omega) W h1
    have HNL : Hid (NA.length ≤ 1000) := by rw [hNA]; exact pr_len az t hI ht
    have HPL : Hid (p3.length ≤ 100) := hI.2.1
    have HSD : Hid (∀ (W : World) (z1 : Option Addr) (z2 : Nat) (z3 : Option Addr) (z4 : Nat) (q1 : Option Addr) (q2 : Nat) (q3 : Option Addr) (q4 : Nat), SRow W z1 NA → PRow W z3 p3 → SRow W q1 NA → PRow W q3 p3 → Calls Try.prog 21 #[.agg #[.slice z1 NA.length z2, .slice z3 p3.length z4], .agg #[.slice q1 NA.length q2, .slice q3 p3.length q4]] W fun e w' => e = .returned (.bool true) ∧ Below W.heap.size W w') := fun W z1 z2 z3 z4 q1 q2 q3 q4 h1 h2 h3 h4 => same21 NA p3 z1 z3 q1 q3 z2 z4 q2 q4 (Nat.le_trans HNL.out (by omega)) (Nat.le_trans HPL.out (by omega)) W h1 h2 h3 h4
    have hbb : (OB == OB) = true := by simp
    have HLN : Hid (∀ W : World, Calls Try.prog 53 #[] W fun e w' => ∃ b1 d1 b2 d2, e = .returned (.agg #[.slice b1 lgS.length d1, .slice b2 lgP.length d2]) ∧ SRow w' b1 lgS ∧ PRow w' b2 lgP ∧ Below W.heap.size W w') := fun W => by
      refine (ilog17 W).mono ?_
      rintro e w' ⟨b1, d1, b2, d2, he, hd, hb⟩
      exact ⟨b1, d1, b2, d2, he, hd.s.srow, hd.p.prow, hb⟩
    have HLK : Hid (∀ (W : World) (z1 : Option Addr) (z2 : Nat) (z3 : Option Addr) (z4 : Nat), SRow W z1 lgS → PRow W z3 lgP → Calls Try.prog 38 #[.agg #[.slice z1 lgS.length z2, .slice z3 lgP.length z4]] W fun e w' => e = .returned (.bool true) ∧ Below W.heap.size W w') := fun W z1 z2 z3 z4 h1 h2 => by
      have hlog : logB lgS lgP = true := LogI.new.1
      have hL := LbI.ok (logB_parts hlog).1
      have k := ilok24 lgS lgP z1 z3 z2 z4 hL.wide.1 hL.wide.2.1 hL.wide.2.2.1 hL.wide.2.2.2 W h1 h2
      rw [hlog] at k
      exact k
    generalize lgS = LS at *
    generalize lgP = LP at *
    clear hd hI hb ht hNA hOB HD3
    have hba : Below w5.heap.size w5 (w5.alloc (.cells #[.slice k1 s3.length k2, .slice k3 p3.length k4] 27)) := (belowRefl w5).alloc (Nat.le_refl _) _
    replace HB : Hid (Below w.heap.size w (w5.alloc (.cells #[.slice k1 s3.length k2, .slice k3 p3.length k4] 27))) := HB.out.trans (hba.mono HB.out.size)
    replace E3 : Hid (DOwn (w5.alloc (.cells #[.slice k1 s3.length k2, .slice k3 p3.length k4] 27)) w.heap.size x1 x2 x3 x4 s1 p1) := E3.out.below hba
    replace B3 : Hid (Bx (w5.alloc (.cells #[.slice k1 s3.length k2, .slice k3 p3.length k4] 27)) X3 (.slice x1 s1.length x2) (.slice x3 p1.length x4)) := B3.out.keep hba B3.out.lt
    replace E4 : Hid (DOwn (w5.alloc (.cells #[.slice k1 s3.length k2, .slice k3 p3.length k4] 27)) v1.heap.size y1 y2 y3 y4 s2 p2) := E4.out.below hba
    replace B4 : Hid (Bx (w5.alloc (.cells #[.slice k1 s3.length k2, .slice k3 p3.length k4] 27)) X4 (.slice y1 s2.length y2) (.slice y3 p2.length y4)) := B4.out.keep hba B4.out.lt
    replace SA : Hid (SRow (w5.alloc (.cells #[.slice k1 s3.length k2, .slice k3 p3.length k4] 27)) va rt) := SA.out.below hba
    replace SB : Hid (SRow (w5.alloc (.cells #[.slice k1 s3.length k2, .slice k3 p3.length k4] 27)) vb rt) := SB.out.below hba
    replace E12 : Hid (DOwn (w5.alloc (.cells #[.slice k1 s3.length k2, .slice k3 p3.length k4] 27)) w4.heap.size k1 k2 k3 k4 s3 p3) := E12.out.below hba
    have B12 : Hid (Bx (w5.alloc (.cells #[.slice k1 s3.length k2, .slice k3 p3.length k4] 27)) w5.heap.size (.slice k1 s3.length k2) (.slice k3 p3.length k4)) := Bx.new w5 _ _ 27
    clear hba
    go_upto_region 8 with fail
    generalize (w5.alloc (.cells #[.slice k1 s3.length k2, .slice k3 p3.length k4] 27)) = v3 at *
    generalize w5.heap.size = X12 at *
    have g0 := B12.out.c0
    have g1 := B12.out.c1
    go_wp2_with fail
    refine (HPI.out _ _ _ _ _ E12.out.s.srow E12.out.p.prow).mono ?_
    rintro e w6 ⟨m1, m2, m3, m4, rfl, hd, hb⟩
    replace HB : Hid (Below w.heap.size w w6) := HB.out.trans (hb.mono HB.out.size)
    replace E3 : Hid (DOwn w6 w.heap.size x1 x2 x3 x4 s1 p1) := E3.out.below hb
    replace B3 : Hid (Bx w6 X3 (.slice x1 s1.length x2) (.slice x3 p1.length x4)) := B3.out.keep hb B3.out.lt
    replace E4 : Hid (DOwn w6 v1.heap.size y1 y2 y3 y4 s2 p2) := E4.out.below hb
    replace B4 : Hid (Bx w6 X4 (.slice y1 s2.length y2) (.slice y3 p2.length y4)) := B4.out.keep hb B4.out.lt
    replace SA : Hid (SRow w6 va rt) := SA.out.below hb
    replace SB : Hid (SRow w6 vb rt) := SB.out.below hb
    replace E12 : Hid (DOwn w6 w4.heap.size k1 k2 k3 k4 s3 p3) := E12.out.below hb
    replace B12 : Hid (Bx w6 X12 (.slice k1 s3.length k2) (.slice k3 p3.length k4)) := B12.out.keep hb B12.out.lt
    clear g0 g1
    have E15 : Hid (DOwn w6 v3.heap.size m1 m2 m3 m4 NA p3) := hd
    clear hd hb
    have hba : Below w6.heap.size w6 (w6.alloc (.cells #[.slice m1 NA.length m2, .slice m3 p3.length m4] 27)) := (belowRefl w6).alloc (Nat.le_refl _) _
    replace HB : Hid (Below w.heap.size w (w6.alloc (.cells #[.slice m1 NA.length m2, .slice m3 p3.length m4] 27))) := HB.out.trans (hba.mono HB.out.size)
    replace E3 : Hid (DOwn (w6.alloc (.cells #[.slice m1 NA.length m2, .slice m3 p3.length m4] 27)) w.heap.size x1 x2 x3 x4 s1 p1) := E3.out.below hba
    replace B3 : Hid (Bx (w6.alloc (.cells #[.slice m1 NA.length m2, .slice m3 p3.length m4] 27)) X3 (.slice x1 s1.length x2) (.slice x3 p1.length x4)) := B3.out.keep hba B3.out.lt
    replace E4 : Hid (DOwn (w6.alloc (.cells #[.slice m1 NA.length m2, .slice m3 p3.length m4] 27)) v1.heap.size y1 y2 y3 y4 s2 p2) := E4.out.below hba
    replace B4 : Hid (Bx (w6.alloc (.cells #[.slice m1 NA.length m2, .slice m3 p3.length m4] 27)) X4 (.slice y1 s2.length y2) (.slice y3 p2.length y4)) := B4.out.keep hba B4.out.lt
    replace SA : Hid (SRow (w6.alloc (.cells #[.slice m1 NA.length m2, .slice m3 p3.length m4] 27)) va rt) := SA.out.below hba
    replace SB : Hid (SRow (w6.alloc (.cells #[.slice m1 NA.length m2, .slice m3 p3.length m4] 27)) vb rt) := SB.out.below hba
    replace E12 : Hid (DOwn (w6.alloc (.cells #[.slice m1 NA.length m2, .slice m3 p3.length m4] 27)) w4.heap.size k1 k2 k3 k4 s3 p3) := E12.out.below hba
    replace B12 : Hid (Bx (w6.alloc (.cells #[.slice m1 NA.length m2, .slice m3 p3.length m4] 27)) X12 (.slice k1 s3.length k2) (.slice k3 p3.length k4)) := B12.out.keep hba B12.out.lt
    replace E15 : Hid (DOwn (w6.alloc (.cells #[.slice m1 NA.length m2, .slice m3 p3.length m4] 27)) v3.heap.size m1 m2 m3 m4 NA p3) := E15.out.below hba
    have B15 : Hid (Bx (w6.alloc (.cells #[.slice m1 NA.length m2, .slice m3 p3.length m4] 27)) w6.heap.size (.slice m1 NA.length m2) (.slice m3 p3.length m4)) := Bx.new w6 _ _ 27
    clear hba
    go_upto_region 9 with fail
    generalize (w6.alloc (.cells #[.slice m1 NA.length m2, .slice m3 p3.length m4] 27)) = v4 at *
    generalize w6.heap.size = X15 at *
    have g0 := B12.out.c0
    have g1 := B12.out.c1
    go_wp2_with fail
    refine (HPS.out _ _ _ _ _ _ E12.out).mono ?_
    rintro e w7 ⟨n1, n2, n3, n4, rfl, hd, hb⟩
    replace HB : Hid (Below w.heap.size w w7) := HB.out.trans (hb.mono HB.out.size)
    replace E3 : Hid (DOwn w7 w.heap.size x1 x2 x3 x4 s1 p1) := E3.out.below hb
    replace B3 : Hid (Bx w7 X3 (.slice x1 s1.length x2) (.slice x3 p1.length x4)) := B3.out.keep hb B3.out.lt
    replace E4 : Hid (DOwn w7 v1.heap.size y1 y2 y3 y4 s2 p2) := E4.out.below hb
    replace B4 : Hid (Bx w7 X4 (.slice y1 s2.length y2) (.slice y3 p2.length y4)) := B4.out.keep hb B4.out.lt
    replace SA : Hid (SRow w7 va rt) := SA.out.below hb
    replace SB : Hid (SRow w7 vb rt) := SB.out.below hb
    replace E12 : Hid (DOwn w7 w4.heap.size k1 k2 k3 k4 s3 p3) := E12.out.below hb
    replace B12 : Hid (Bx w7 X12 (.slice k1 s3.length k2) (.slice k3 p3.length k4)) := B12.out.keep hb B12.out.lt
    replace E15 : Hid (DOwn w7 v3.heap.size m1 m2 m3 m4 NA p3) := E15.out.below hb
    replace B15 : Hid (Bx w7 X15 (.slice m1 NA.length m2) (.slice m3 p3.length m4)) := B15.out.keep hb B15.out.lt
    clear g0 g1
    have E17 : Hid (DOwn w7 v4.heap.size n1 n2 n3 n4 NA p3) := hd
    clear hd hb
    have hba : Below w7.heap.size w7 (w7.alloc (.cells #[.slice n1 NA.length n2, .slice n3 p3.length n4] 27)) := (belowRefl w7).alloc (Nat.le_refl _) _
    replace HB : Hid (Below w.heap.size w (w7.alloc (.cells #[.slice n1 NA.length n2, .slice n3 p3.length n4] 27))) := HB.out.trans (hba.mono HB.out.size)
    replace E3 : Hid (DOwn (w7.alloc (.cells #[.slice n1 NA.length n2, .slice n3 p3.length n4] 27)) w.heap.size x1 x2 x3 x4 s1 p1) := E3.out.below hba
    replace B3 : Hid (Bx (w7.alloc (.cells #[.slice n1 NA.length n2, .slice n3 p3.length n4] 27)) X3 (.slice x1 s1.length x2) (.slice x3 p1.length x4)) := B3.out.keep hba B3.out.lt
    replace E4 : Hid (DOwn (w7.alloc (.cells #[.slice n1 NA.length n2, .slice n3 p3.length n4] 27)) v1.heap.size y1 y2 y3 y4 s2 p2) := E4.out.below hba
    replace B4 : Hid (Bx (w7.alloc (.cells #[.slice n1 NA.length n2, .slice n3 p3.length n4] 27)) X4 (.slice y1 s2.length y2) (.slice y3 p2.length y4)) := B4.out.keep hba B4.out.lt
    replace SA : Hid (SRow (w7.alloc (.cells #[.slice n1 NA.length n2, .slice n3 p3.length n4] 27)) va rt) := SA.out.below hba
    replace SB : Hid (SRow (w7.alloc (.cells #[.slice n1 NA.length n2, .slice n3 p3.length n4] 27)) vb rt) := SB.out.below hba
    replace E12 : Hid (DOwn (w7.alloc (.cells #[.slice n1 NA.length n2, .slice n3 p3.length n4] 27)) w4.heap.size k1 k2 k3 k4 s3 p3) := E12.out.below hba
    replace B12 : Hid (Bx (w7.alloc (.cells #[.slice n1 NA.length n2, .slice n3 p3.length n4] 27)) X12 (.slice k1 s3.length k2) (.slice k3 p3.length k4)) := B12.out.keep hba B12.out.lt
    replace E15 : Hid (DOwn (w7.alloc (.cells #[.slice n1 NA.length n2, .slice n3 p3.length n4] 27)) v3.heap.size m1 m2 m3 m4 NA p3) := E15.out.below hba
    replace B15 : Hid (Bx (w7.alloc (.cells #[.slice n1 NA.length n2, .slice n3 p3.length n4] 27)) X15 (.slice m1 NA.length m2) (.slice m3 p3.length m4)) := B15.out.keep hba B15.out.lt
    replace E17 : Hid (DOwn (w7.alloc (.cells #[.slice n1 NA.length n2, .slice n3 p3.length n4] 27)) v4.heap.size n1 n2 n3 n4 NA p3) := E17.out.below hba
    have B17 : Hid (Bx (w7.alloc (.cells #[.slice n1 NA.length n2, .slice n3 p3.length n4] 27)) w7.heap.size (.slice n1 NA.length n2) (.slice n3 p3.length n4)) := Bx.new w7 _ _ 27
    clear hba
    go_upto_region 10 with fail
    generalize (w7.alloc (.cells #[.slice n1 NA.length n2, .slice n3 p3.length n4] 27)) = v5 at *
    generalize w7.heap.size = X17 at *
    try simp only [List.append_eq, List.cons_append, List.nil_append]
    refine wp_region_held_drew (S := fun w' => w'.cell? ⟨X3, 0, none⟩ = some (.slice x1 s1.length x2) ∧ w'.cell? ⟨X3, 1, none⟩ = some (.slice x3 p1.length x4) ∧ w'.cell? ⟨X4, 0, none⟩ = some (.slice y1 s2.length y2) ∧ w'.cell? ⟨X4, 1, none⟩ = some (.slice y3 p2.length y4) ∧ w'.cell? ⟨X15, 0, none⟩ = some (.slice m1 NA.length m2) ∧ w'.cell? ⟨X15, 1, none⟩ = some (.slice m3 p3.length m4) ∧ w'.cell? ⟨X17, 0, none⟩ = some (.slice n1 NA.length n2) ∧ w'.cell? ⟨X17, 1, none⟩ = some (.slice n3 p3.length n4)) (by kernel_rfl) ⟨B3.out.c0, B3.out.c1, B4.out.c0, B4.out.c1, B15.out.c0, B15.out.c1, B17.out.c0, B17.out.c1⟩ (fun hHeld => ?_)
    (refine wpAnyH_take (i := 0) (v := ?_) rfl (by kernel_rfl) (by kernel_rfl) (by kernel_rfl) (fun _ _ _ h => h) (Or.inl ⟨by rfl, ?_⟩) (by assumption) ?_; rotate_left; (focus (intro w hSw; (try dsimp only at hSw); go_simp; (try with_reducible rfl); done)); simp only [Act.put, List.getElem_toArray, List.getElem_cons_zero, List.setIfInBounds_toArray, List.set_cons_zero, List.set_cons_succ])
    (refine wpAnyH_take (i := 2) (v := ?_) rfl (by kernel_rfl) (by kernel_rfl) (by kernel_rfl) (fun _ _ _ h => h) (Or.inl ⟨by rfl, ?_⟩) (by assumption) ?_; rotate_left; (focus (intro w hSw; (try dsimp only at hSw); go_simp; (try with_reducible rfl); done)); simp only [Act.put, List.getElem_toArray, List.getElem_cons_zero, List.getElem_cons_succ, List.setIfInBounds_toArray, List.set_cons_zero, List.set_cons_succ])
    refine wpAnyH_ready (rs := [1]) (by kernel_rfl) (by simp) ?_
    refine AllReadyH.cons rfl (fun K hK => ?_) AllReadyH.nil
    go_simp
    go_wp2_with fail
    refine (HLO.out _ _ _ _ _ (E3.out.s.srow.below (belowRefl _).drew) (E3.out.p.prow.below (belowRefl _).drew)).mono ?_
    rintro e r1 ⟨rfl, hb⟩
    replace hb := undrew hb
    replace HB : Hid (Below w.heap.size w r1) := HB.out.trans (hb.mono HB.out.size)
    replace E3 : Hid (DOwn r1 w.heap.size x1 x2 x3 x4 s1 p1) := E3.out.below hb
    replace B3 : Hid (Bx r1 X3 (.slice x1 s1.length x2) (.slice x3 p1.length x4)) := B3.out.keep hb B3.out.lt
    replace E4 : Hid (DOwn r1 v1.heap.size y1 y2 y3 y4 s2 p2) := E4.out.below hb
    replace B4 : Hid (Bx r1 X4 (.slice y1 s2.length y2) (.slice y3 p2.length y4)) := B4.out.keep hb B4.out.lt
    replace SA : Hid (SRow r1 va rt) := SA.out.below hb
    replace SB : Hid (SRow r1 vb rt) := SB.out.below hb
    replace E12 : Hid (DOwn r1 w4.heap.size k1 k2 k3 k4 s3 p3) := E12.out.below hb
    replace B12 : Hid (Bx r1 X12 (.slice k1 s3.length k2) (.slice k3 p3.length k4)) := B12.out.keep hb B12.out.lt
    replace E15 : Hid (DOwn r1 v3.heap.size m1 m2 m3 m4 NA p3) := E15.out.below hb
    replace B15 : Hid (Bx r1 X15 (.slice m1 NA.length m2) (.slice m3 p3.length m4)) := B15.out.keep hb B15.out.lt
    replace E17 : Hid (DOwn r1 v4.heap.size n1 n2 n3 n4 NA p3) := E17.out.below hb
    replace B17 : Hid (Bx r1 X17 (.slice n1 NA.length n2) (.slice n3 p3.length n4)) := B17.out.keep hb B17.out.lt
    go_wp2_with fail
    refine hK.out _ _ ⟨B3.out.c0, B3.out.c1, B4.out.c0, B4.out.c1, B15.out.c0, B15.out.c1, B17.out.c0, B17.out.c1⟩ (fun hHeld1 => ?_)
    clear hK K hb
    refine wpAnyH_ready (rs := [3]) (by kernel_rfl) (by simp) ?_
    refine AllReadyH.cons rfl (fun K hK => ?_) AllReadyH.nil
    go_simp
    go_wp2_with fail
    refine (HLS.out _ _ _ _ _ E3.out.s.srow E3.out.p.prow).mono ?_
    rintro e r2 ⟨rfl, hb⟩
    replace HB : Hid (Below w.heap.size w r2) := HB.out.trans (hb.mono HB.out.size)
    replace E3 : Hid (DOwn r2 w.heap.size x1 x2 x3 x4 s1 p1) := E3.out.below hb
    replace B3 : Hid (Bx r2 X3 (.slice x1 s1.length x2) (.slice x3 p1.length x4)) := B3.out.keep hb B3.out.lt
    replace E4 : Hid (DOwn r2 v1.heap.size y1 y2 y3 y4 s2 p2) := E4.out.below hb
    replace B4 : Hid (Bx r2 X4 (.slice y1 s2.length y2) (.slice y3 p2.length y4)) := B4.out.keep hb B4.out.lt
    replace SA : Hid (SRow r2 va rt) := SA.out.below hb
    replace SB : Hid (SRow r2 vb rt) := SB.out.below hb
    replace E12 : Hid (DOwn r2 w4.heap.size k1 k2 k3 k4 s3 p3) := E12.out.below hb
    replace B12 : Hid (Bx r2 X12 (.slice k1 s3.length k2) (.slice k3 p3.length k4)) := B12.out.keep hb B12.out.lt
    replace E15 : Hid (DOwn r2 v3.heap.size m1 m2 m3 m4 NA p3) := E15.out.below hb
    replace B15 : Hid (Bx r2 X15 (.slice m1 NA.length m2) (.slice m3 p3.length m4)) := B15.out.keep hb B15.out.lt
    replace E17 : Hid (DOwn r2 v4.heap.size n1 n2 n3 n4 NA p3) := E17.out.below hb
    replace B17 : Hid (Bx r2 X17 (.slice n1 NA.length n2) (.slice n3 p3.length n4)) := B17.out.keep hb B17.out.lt
    go_wp2_with fail
    refine hK.out _ _ ⟨B3.out.c0, B3.out.c1, B4.out.c0, B4.out.c1, B15.out.c0, B15.out.c1, B17.out.c0, B17.out.c1⟩ (fun hHeld2 => ?_)
    clear hK K hb
    (refine wpAnyH_take (i := 4) (v := ?_) rfl (by kernel_rfl) (by kernel_rfl) (by kernel_rfl) (fun _ _ _ h => h) (Or.inl ⟨by rfl, ?_⟩) (by assumption) ?_; rotate_left; (focus (intro w hSw; (try dsimp only at hSw); go_simp; (try with_reducible rfl); done)); simp only [Act.put, List.getElem_toArray, List.getElem_cons_zero, List.getElem_cons_succ, List.setIfInBounds_toArray, List.set_cons_zero, List.set_cons_succ])
    (refine wpAnyH_take (i := 5) (v := ?_) rfl (by kernel_rfl) (by kernel_rfl) (by kernel_rfl) (fun _ _ _ h => h) (Or.inl ⟨by rfl, ?_⟩) (by assumption) ?_; rotate_left; (focus (intro w hSw; (try dsimp only at hSw); go_simp; (try with_reducible rfl); done)); simp only [Act.put, List.getElem_toArray, List.getElem_cons_zero, List.getElem_cons_succ, List.setIfInBounds_toArray, List.set_cons_zero, List.set_cons_succ])
    (refine wpAnyH_take (i := 6) (v := ?_) rfl (by kernel_rfl) (by kernel_rfl) (by kernel_rfl) (fun _ _ _ h => h) (Or.inl ⟨by rfl, ?_⟩) (by assumption) ?_; rotate_left; (focus (intro w hSw; (try dsimp only at hSw); go_simp; (try with_reducible rfl); done)); simp only [Act.put, List.getElem_toArray, List.getElem_cons_zero, List.getElem_cons_succ, List.setIfInBounds_toArray, List.set_cons_zero, List.set_cons_succ])
    (refine wpAnyH_take (i := 7) (v := ?_) rfl (by kernel_rfl) (by kernel_rfl) (by kernel_rfl) (fun _ _ _ h => h) (Or.inl ⟨by rfl, ?_⟩) (by assumption) ?_; rotate_left; (focus (intro w hSw; (try dsimp only at hSw); go_simp; (try with_reducible rfl); done)); simp only [Act.put, List.getElem_toArray, List.getElem_cons_zero, List.getElem_cons_succ, List.setIfInBounds_toArray, List.set_cons_zero, List.set_cons_succ])
    (refine wpAnyH_take (i := 8) (v := ?_) rfl (by kernel_rfl) (by kernel_rfl) (by kernel_rfl) (fun _ _ _ h => h) (Or.inl ⟨by rfl, ?_⟩) (by assumption) ?_; rotate_left; (focus (intro w hSw; (try dsimp only at hSw); go_simp; (try with_reducible rfl); done)); simp only [Act.put, List.getElem_toArray, List.getElem_cons_zero, List.getElem_cons_succ, List.setIfInBounds_toArray, List.set_cons_zero, List.set_cons_succ])
    (refine wpAnyH_take (i := 9) (v := ?_) rfl (by kernel_rfl) (by kernel_rfl) (by kernel_rfl) (fun _ _ _ h => h) (Or.inl ⟨by rfl, ?_⟩) (by assumption) ?_; rotate_left; (focus (intro w hSw; (try dsimp only at hSw); go_simp; (try with_reducible rfl); done)); simp only [Act.put, List.getElem_toArray, List.getElem_cons_zero, List.getElem_cons_succ, List.setIfInBounds_toArray, List.set_cons_zero, List.set_cons_succ])
    (refine wpAnyH_take (i := 10) (v := ?_) rfl (by kernel_rfl) (by kernel_rfl) (by kernel_rfl) (fun _ _ _ h => h) (Or.inl ⟨by rfl, ?_⟩) (by assumption) ?_; rotate_left; (focus (intro w hSw; (try dsimp only at hSw); go_simp; (try with_reducible rfl); done)); simp only [Act.put, List.getElem_toArray, List.getElem_cons_zero, List.getElem_cons_succ, List.setIfInBounds_toArray, List.set_cons_zero, List.set_cons_succ])
    (refine wpAnyH_take (i := 11) (v := ?_) rfl (by kernel_rfl) (by kernel_rfl) (by kernel_rfl) (fun _ _ _ h => h) (Or.inl ⟨by rfl, ?_⟩) (by assumption) ?_; rotate_left; (focus (intro w hSw; (try dsimp only at hSw); go_simp; (try with_reducible rfl); done)); simp only [Act.put, List.getElem_toArray, List.getElem_cons_zero, List.getElem_cons_succ, List.setIfInBounds_toArray, List.set_cons_zero, List.set_cons_succ])
    (refine wpAnyH_take (i := 12) (v := ?_) rfl (by kernel_rfl) (by kernel_rfl) (by kernel_rfl) (fun _ _ _ h => h) (Or.inl ⟨by rfl, ?_⟩) (by assumption) ?_; rotate_left; (focus (intro w hSw; (try dsimp only at hSw); go_simp; (try with_reducible rfl); done)); simp only [Act.put, List.getElem_toArray, List.getElem_cons_zero, List.getElem_cons_succ, List.setIfInBounds_toArray, List.set_cons_zero, List.set_cons_succ])
    (refine wpAnyH_take (i := 13) (v := ?_) rfl (by kernel_rfl) (by kernel_rfl) (by kernel_rfl) (fun _ _ _ h => h) (Or.inl ⟨by rfl, ?_⟩) (by assumption) ?_; rotate_left; (focus (intro w hSw; (try dsimp only at hSw); go_simp; (try with_reducible rfl); done)); simp only [Act.put, List.getElem_toArray, List.getElem_cons_zero, List.getElem_cons_succ, List.setIfInBounds_toArray, List.set_cons_zero, List.set_cons_succ])
    (refine wpAnyH_take (i := 14) (v := ?_) rfl (by kernel_rfl) (by kernel_rfl) (by kernel_rfl) (fun _ _ _ h => h) (Or.inl ⟨by rfl, ?_⟩) (by assumption) ?_; rotate_left; (focus (intro w hSw; (try dsimp only at hSw); go_simp; (try with_reducible rfl); done)); simp only [Act.put, List.getElem_toArray, List.getElem_cons_zero, List.getElem_cons_succ, List.setIfInBounds_toArray, List.set_cons_zero, List.set_cons_succ])
    (refine wpAnyH_take (i := 15) (v := ?_) rfl (by kernel_rfl) (by kernel_rfl) (by kernel_rfl) (fun _ _ _ h => h) (Or.inl ⟨by rfl, ?_⟩) (by assumption) ?_; rotate_left; (focus (intro w hSw; (try dsimp only at hSw); go_simp; (try with_reducible rfl); done)); simp only [Act.put, List.getElem_toArray, List.getElem_cons_zero, List.getElem_cons_succ, List.setIfInBounds_toArray, List.set_cons_zero, List.set_cons_succ])
    (refine wpAnyH_take (i := 16) (v := ?_) rfl (by kernel_rfl) (by kernel_rfl) (by kernel_rfl) (fun _ _ _ h => h) (Or.inl ⟨by rfl, ?_⟩) (by assumption) ?_; rotate_left; (focus (intro w hSw; (try dsimp only at hSw); go_simp; (try with_reducible rfl); done)); simp only [Act.put, List.getElem_toArray, List.getElem_cons_zero, List.getElem_cons_succ, List.setIfInBounds_toArray, List.set_cons_zero, List.set_cons_succ])
    (refine wpAnyH_take (i := 17) (v := ?_) rfl (by kernel_rfl) (by kernel_rfl) (by kernel_rfl) (fun _ _ _ h => h) (Or.inl ⟨by rfl, ?_⟩) (by assumption) ?_; rotate_left; (focus (intro w hSw; (try dsimp only at hSw); go_simp; (try with_reducible rfl); done)); simp only [Act.put, List.getElem_toArray, List.getElem_cons_zero, List.getElem_cons_succ, List.setIfInBounds_toArray, List.set_cons_zero, List.set_cons_succ])
    refine wpAnyH_ready (rs := [18]) (by kernel_rfl) (by simp) ?_
    refine AllReadyH.cons rfl (fun K hK => ?_) AllReadyH.nil
    go_simp
    go_wp2_with fail
    refine (HRT.out _ _ _ _ _ SA.out SB.out).mono ?_
    rintro e r3 ⟨rfl, hb⟩
    replace HB : Hid (Below w.heap.size w r3) := HB.out.trans (hb.mono HB.out.size)
    replace E3 : Hid (DOwn r3 w.heap.size x1 x2 x3 x4 s1 p1) := E3.out.below hb
    replace B3 : Hid (Bx r3 X3 (.slice x1 s1.length x2) (.slice x3 p1.length x4)) := B3.out.keep hb B3.out.lt
    replace E4 : Hid (DOwn r3 v1.heap.size y1 y2 y3 y4 s2 p2) := E4.out.below hb
    replace B4 : Hid (Bx r3 X4 (.slice y1 s2.length y2) (.slice y3 p2.length y4)) := B4.out.keep hb B4.out.lt
    replace SA : Hid (SRow r3 va rt) := SA.out.below hb
    replace SB : Hid (SRow r3 vb rt) := SB.out.below hb
    replace E12 : Hid (DOwn r3 w4.heap.size k1 k2 k3 k4 s3 p3) := E12.out.below hb
    replace B12 : Hid (Bx r3 X12 (.slice k1 s3.length k2) (.slice k3 p3.length k4)) := B12.out.keep hb B12.out.lt
    replace E15 : Hid (DOwn r3 v3.heap.size m1 m2 m3 m4 NA p3) := E15.out.below hb
    replace B15 : Hid (Bx r3 X15 (.slice m1 NA.length m2) (.slice m3 p3.length m4)) := B15.out.keep hb B15.out.lt
    replace E17 : Hid (DOwn r3 v4.heap.size n1 n2 n3 n4 NA p3) := E17.out.below hb
    replace B17 : Hid (Bx r3 X17 (.slice n1 NA.length n2) (.slice n3 p3.length n4)) := B17.out.keep hb B17.out.lt
    go_wp2_with fail
    refine hK.out _ _ ⟨B3.out.c0, B3.out.c1, B4.out.c0, B4.out.c1, B15.out.c0, B15.out.c1, B17.out.c0, B17.out.c1⟩ (fun hHeld3 => ?_)
    clear hK K hb
    (refine wpAnyH_take (i := 19) (v := ?_) rfl (by kernel_rfl) (by kernel_rfl) (by kernel_rfl) (fun _ _ _ h => h) (Or.inl ⟨by rfl, ?_⟩) (by assumption) ?_; rotate_left; (focus (intro w hSw; (try dsimp only at hSw); go_simp; (try with_reducible rfl); done)); simp only [Act.put, List.getElem_toArray, List.getElem_cons_zero, List.getElem_cons_succ, List.setIfInBounds_toArray, List.set_cons_zero, List.set_cons_succ])
    (refine wpAnyH_take (i := 20) (v := ?_) rfl (by kernel_rfl) (by kernel_rfl) (by kernel_rfl) (fun _ _ _ h => h) (Or.inl ⟨by rfl, ?_⟩) (by assumption) ?_; rotate_left; (focus (intro w hSw; (try dsimp only at hSw); go_simp; (try with_reducible rfl); done)); simp only [Act.put, List.getElem_toArray, List.getElem_cons_zero, List.getElem_cons_succ, List.setIfInBounds_toArray, List.set_cons_zero, List.set_cons_succ])
    (refine wpAnyH_take (i := 21) (v := ?_) rfl (by kernel_rfl) (by kernel_rfl) (by kernel_rfl) (fun _ _ _ h => h) (Or.inl ⟨by rfl, ?_⟩) (by assumption) ?_; rotate_left; (focus (intro w hSw; (try dsimp only at hSw); go_simp; (try with_reducible rfl); done)); simp only [Act.put, List.getElem_toArray, List.getElem_cons_zero, List.getElem_cons_succ, List.setIfInBounds_toArray, List.set_cons_zero, List.set_cons_succ])
    (refine wpAnyH_take (i := 22) (v := ?_) rfl (by kernel_rfl) (by kernel_rfl) (by kernel_rfl) (fun _ _ _ h => h) (Or.inl ⟨by rfl, ?_⟩) (by assumption) ?_; rotate_left; (focus (intro w hSw; (try dsimp only at hSw); go_simp; (try with_reducible rfl); done)); simp only [Act.put, List.getElem_toArray, List.getElem_cons_zero, List.getElem_cons_succ, List.setIfInBounds_toArray, List.set_cons_zero, List.set_cons_succ])
    (refine wpAnyH_take (i := 23) (v := ?_) rfl (by kernel_rfl) (by kernel_rfl) (by kernel_rfl) (fun _ _ _ h => h) (Or.inl ⟨by rfl, ?_⟩) (by assumption) ?_; rotate_left; (focus (intro w hSw; (try dsimp only at hSw); go_simp; (try with_reducible rfl); done)); simp only [Act.put, List.getElem_toArray, List.getElem_cons_zero, List.getElem_cons_succ, List.setIfInBounds_toArray, List.set_cons_zero, List.set_cons_succ])
    (refine wpAnyH_take (i := 24) (v := ?_) rfl (by kernel_rfl) (by kernel_rfl) (by kernel_rfl) (fun _ _ _ h => h) (Or.inl ⟨by rfl, ?_⟩) (by assumption) ?_; rotate_left; (focus (intro w hSw; (try dsimp only at hSw); go_simp; (try with_reducible rfl); done)); simp only [Act.put, List.getElem_toArray, List.getElem_cons_zero, List.getElem_cons_succ, List.setIfInBounds_toArray, List.set_cons_zero, List.set_cons_succ])
    (refine wpAnyH_take (i := 25) (v := ?_) rfl (by kernel_rfl) (by kernel_rfl) (by kernel_rfl) (fun _ _ _ h => h) (Or.inl ⟨by rfl, ?_⟩) (by assumption) ?_; rotate_left; (focus (intro w hSw; (try dsimp only at hSw); go_simp; (try with_reducible rfl); done)); simp only [Act.put, List.getElem_toArray, List.getElem_cons_zero, List.getElem_cons_succ, List.setIfInBounds_toArray, List.set_cons_zero, List.set_cons_succ])
    (refine wpAnyH_take (i := 26) (v := ?_) rfl (by kernel_rfl) (by kernel_rfl) (by kernel_rfl) (fun _ _ _ h => h) (Or.inl ⟨by rfl, ?_⟩) (by assumption) ?_; rotate_left; (focus (intro w hSw; (try dsimp only at hSw); go_simp; (try with_reducible rfl); done)); simp only [Act.put, List.getElem_toArray, List.getElem_cons_zero, List.getElem_cons_succ, List.setIfInBounds_toArray, List.set_cons_zero, List.set_cons_succ])
    (refine wpAnyH_take (i := 27) (v := ?_) rfl (by kernel_rfl) (by kernel_rfl) (by kernel_rfl) (fun _ _ _ h => h) (Or.inl ⟨by rfl, ?_⟩) (by assumption) ?_; rotate_left; (focus (intro w hSw; (try dsimp only at hSw); go_simp; (try with_reducible rfl); done)); simp only [Act.put, List.getElem_toArray, List.getElem_cons_zero, List.getElem_cons_succ, List.setIfInBounds_toArray, List.set_cons_zero, List.set_cons_succ])
    refine wpAnyH_ready (rs := [28]) (by kernel_rfl) (by simp) ?_
    refine AllReadyH.cons rfl (fun K hK => ?_) AllReadyH.nil
    go_simp
    go_wp2_with fail
    refine (HSD.out _ _ _ _ _ _ _ _ _ E15.out.s.srow E15.out.p.prow E17.out.s.srow E17.out.p.prow).mono ?_
    rintro e r4 ⟨rfl, hb⟩
    replace HB : Hid (Below w.heap.size w r4) := HB.out.trans (hb.mono HB.out.size)
    replace E3 : Hid (DOwn r4 w.heap.size x1 x2 x3 x4 s1 p1) := E3.out.below hb
    replace B3 : Hid (Bx r4 X3 (.slice x1 s1.length x2) (.slice x3 p1.length x4)) := B3.out.keep hb B3.out.lt
    replace E4 : Hid (DOwn r4 v1.heap.size y1 y2 y3 y4 s2 p2) := E4.out.below hb
    replace B4 : Hid (Bx r4 X4 (.slice y1 s2.length y2) (.slice y3 p2.length y4)) := B4.out.keep hb B4.out.lt
    replace SA : Hid (SRow r4 va rt) := SA.out.below hb
    replace SB : Hid (SRow r4 vb rt) := SB.out.below hb
    replace E12 : Hid (DOwn r4 w4.heap.size k1 k2 k3 k4 s3 p3) := E12.out.below hb
    replace B12 : Hid (Bx r4 X12 (.slice k1 s3.length k2) (.slice k3 p3.length k4)) := B12.out.keep hb B12.out.lt
    replace E15 : Hid (DOwn r4 v3.heap.size m1 m2 m3 m4 NA p3) := E15.out.below hb
    replace B15 : Hid (Bx r4 X15 (.slice m1 NA.length m2) (.slice m3 p3.length m4)) := B15.out.keep hb B15.out.lt
    replace E17 : Hid (DOwn r4 v4.heap.size n1 n2 n3 n4 NA p3) := E17.out.below hb
    replace B17 : Hid (Bx r4 X17 (.slice n1 NA.length n2) (.slice n3 p3.length n4)) := B17.out.keep hb B17.out.lt
    go_wp2_with fail
    refine hK.out _ _ ⟨B3.out.c0, B3.out.c1, B4.out.c0, B4.out.c1, B15.out.c0, B15.out.c1, B17.out.c0, B17.out.c1⟩ (fun hHeld4 => ?_)
    clear hK K hb
    (refine wpAnyH_take (i := 29) (v := ?_) rfl (by kernel_rfl) (by kernel_rfl) (by kernel_rfl) (fun _ _ _ h => h) (Or.inl ⟨by rfl, ?_⟩) (by assumption) ?_; rotate_left; (focus (intro w hSw; (try dsimp only at hSw); go_simp; (try with_reducible rfl); done)); simp only [Act.put, List.getElem_toArray, List.getElem_cons_zero, List.getElem_cons_succ, List.setIfInBounds_toArray, List.set_cons_zero, List.set_cons_succ])
    (refine wpAnyH_take (i := 30) (v := ?_) rfl (by kernel_rfl) (by kernel_rfl) (by kernel_rfl) (fun _ _ _ h => h) (Or.inl ⟨by rfl, ?_⟩) (by assumption) ?_; rotate_left; (focus (intro w hSw; (try dsimp only at hSw); go_simp; (try with_reducible rfl); done)); simp only [Act.put, List.getElem_toArray, List.getElem_cons_zero, List.getElem_cons_succ, List.setIfInBounds_toArray, List.set_cons_zero, List.set_cons_succ])
    (refine wpAnyH_take (i := 31) (v := ?_) rfl (by kernel_rfl) (by kernel_rfl) (by kernel_rfl) (fun _ _ _ h => h) (Or.inl ⟨by rfl, ?_⟩) (by assumption) ?_; rotate_left; (focus (intro w hSw; (try dsimp only at hSw); go_simp; (try with_reducible rfl); done)); simp only [Act.put, List.getElem_toArray, List.getElem_cons_zero, List.getElem_cons_succ, List.setIfInBounds_toArray, List.set_cons_zero, List.set_cons_succ])
    (refine wpAnyH_take (i := 32) (v := ?_) rfl (by kernel_rfl) (by kernel_rfl) (by kernel_rfl) (fun _ _ _ h => h) (Or.inl ⟨by rfl, ?_⟩) (by assumption) ?_; rotate_left; (focus (intro w hSw; (try dsimp only at hSw); go_simp; (try with_reducible rfl); done)); simp only [Act.put, List.getElem_toArray, List.getElem_cons_zero, List.getElem_cons_succ, List.setIfInBounds_toArray, List.set_cons_zero, List.set_cons_succ])
    (refine wpAnyH_take (i := 34) (v := ?_) rfl (by kernel_rfl) (by kernel_rfl) (by kernel_rfl) (fun _ _ _ h => h) (Or.inl ⟨by rfl, ?_⟩) (by assumption) ?_; rotate_left; (focus (intro w hSw; (try dsimp only at hSw); go_simp; (try with_reducible rfl); done)); simp only [Act.put, List.getElem_toArray, List.getElem_cons_zero, List.getElem_cons_succ, List.setIfInBounds_toArray, List.set_cons_zero, List.set_cons_succ])
    (refine wpAnyH_take (i := 35) (v := ?_) rfl (by kernel_rfl) (by kernel_rfl) (by kernel_rfl) (fun _ _ _ h => h) (Or.inl ⟨by rfl, ?_⟩) (by assumption) ?_; rotate_left; (focus (intro w hSw; (try dsimp only at hSw); go_simp; (try with_reducible rfl); done)); simp only [Act.put, List.getElem_toArray, List.getElem_cons_zero, List.getElem_cons_succ, List.setIfInBounds_toArray, List.set_cons_zero, List.set_cons_succ])
    refine wpAnyH_ready (rs := [33]) (by kernel_rfl) (by simp) ?_
    refine AllReadyH.cons rfl (fun K hK => ?_) AllReadyH.nil
    go_simp
    go_wp2_with fail
    refine (HCI.out _ _ _ _ _ E4.out.s.srow E4.out.p.prow).mono ?_
    rintro e r5 ⟨rfl, hb⟩
    replace HB : Hid (Below w.heap.size w r5) := HB.out.trans (hb.mono HB.out.size)
    replace E3 : Hid (DOwn r5 w.heap.size x1 x2 x3 x4 s1 p1) := E3.out.below hb
    replace B3 : Hid (Bx r5 X3 (.slice x1 s1.length x2) (.slice x3 p1.length x4)) := B3.out.keep hb B3.out.lt
    replace E4 : Hid (DOwn r5 v1.heap.size y1 y2 y3 y4 s2 p2) := E4.out.below hb
    replace B4 : Hid (Bx r5 X4 (.slice y1 s2.length y2) (.slice y3 p2.length y4)) := B4.out.keep hb B4.out.lt
    replace SA : Hid (SRow r5 va rt) := SA.out.below hb
    replace SB : Hid (SRow r5 vb rt) := SB.out.below hb
    replace E12 : Hid (DOwn r5 w4.heap.size k1 k2 k3 k4 s3 p3) := E12.out.below hb
    replace B12 : Hid (Bx r5 X12 (.slice k1 s3.length k2) (.slice k3 p3.length k4)) := B12.out.keep hb B12.out.lt
    replace E15 : Hid (DOwn r5 v3.heap.size m1 m2 m3 m4 NA p3) := E15.out.below hb
    replace B15 : Hid (Bx r5 X15 (.slice m1 NA.length m2) (.slice m3 p3.length m4)) := B15.out.keep hb B15.out.lt
    replace E17 : Hid (DOwn r5 v4.heap.size n1 n2 n3 n4 NA p3) := E17.out.below hb
    replace B17 : Hid (Bx r5 X17 (.slice n1 NA.length n2) (.slice n3 p3.length n4)) := B17.out.keep hb B17.out.lt
    go_wp2_with fail
    refine hK.out _ _ ⟨B3.out.c0, B3.out.c1, B4.out.c0, B4.out.c1, B15.out.c0, B15.out.c1, B17.out.c0, B17.out.c1⟩ (fun hHeld5 => ?_)
    clear hK K hb
    as_aux_lemma =>
    refine wpAnyH_ready (rs := [36]) (by kernel_rfl) (by simp) ?_
    refine AllReadyH.cons rfl (fun K hK => ?_) AllReadyH.nil
    go_simp
    go_wp2_with fail
    refine (HCS.out _ _ _ _ _ E4.out.s.srow E4.out.p.prow).mono ?_
    rintro e r6 ⟨rfl, hb⟩
    replace HB : Hid (Below w.heap.size w r6) := HB.out.trans (hb.mono HB.out.size)
    replace E3 : Hid (DOwn r6 w.heap.size x1 x2 x3 x4 s1 p1) := E3.out.below hb
    replace B3 : Hid (Bx r6 X3 (.slice x1 s1.length x2) (.slice x3 p1.length x4)) := B3.out.keep hb B3.out.lt
    replace E4 : Hid (DOwn r6 v1.heap.size y1 y2 y3 y4 s2 p2) := E4.out.below hb
    replace B4 : Hid (Bx r6 X4 (.slice y1 s2.length y2) (.slice y3 p2.length y4)) := B4.out.keep hb B4.out.lt
    replace SA : Hid (SRow r6 va rt) := SA.out.below hb
    replace SB : Hid (SRow r6 vb rt) := SB.out.below hb
    replace E12 : Hid (DOwn r6 w4.heap.size k1 k2 k3 k4 s3 p3) := E12.out.below hb
    replace B12 : Hid (Bx r6 X12 (.slice k1 s3.length k2) (.slice k3 p3.length k4)) := B12.out.keep hb B12.out.lt
    replace E15 : Hid (DOwn r6 v3.heap.size m1 m2 m3 m4 NA p3) := E15.out.below hb
    replace B15 : Hid (Bx r6 X15 (.slice m1 NA.length m2) (.slice m3 p3.length m4)) := B15.out.keep hb B15.out.lt
    replace E17 : Hid (DOwn r6 v4.heap.size n1 n2 n3 n4 NA p3) := E17.out.below hb
    replace B17 : Hid (Bx r6 X17 (.slice n1 NA.length n2) (.slice n3 p3.length n4)) := B17.out.keep hb B17.out.lt
    go_wp2_with fail
    refine hK.out _ _ ⟨B3.out.c0, B3.out.c1, B4.out.c0, B4.out.c1, B15.out.c0, B15.out.c1, B17.out.c0, B17.out.c1⟩ (fun hHeld6 => ?_)
    clear hK K hb
    (refine wpAnyH_take (i := 37) (v := ?_) rfl (by kernel_rfl) (by kernel_rfl) (by kernel_rfl) (fun _ _ _ h => h) (Or.inl ⟨by rfl, ?_⟩) (by assumption) ?_; rotate_left; (focus (intro w hSw; (try dsimp only at hSw); go_simp; (try with_reducible rfl); done)); simp only [Act.put, List.getElem_toArray, List.getElem_cons_zero, List.getElem_cons_succ, List.setIfInBounds_toArray, List.set_cons_zero, List.set_cons_succ])
    (refine wpAnyH_take (i := 38) (v := ?_) rfl (by kernel_rfl) (by kernel_rfl) (by kernel_rfl) (fun _ _ _ h => h) (Or.inl ⟨by rfl, ?_⟩) (by assumption) ?_; rotate_left; (focus (intro w hSw; (try dsimp only at hSw); go_simp; (try with_reducible rfl); done)); simp only [Act.put, List.getElem_toArray, List.getElem_cons_zero, List.getElem_cons_succ, List.setIfInBounds_toArray, List.set_cons_zero, List.set_cons_succ])
    (refine wpAnyH_take (i := 39) (v := ?_) rfl (by kernel_rfl) (by kernel_rfl) (by kernel_rfl) (fun _ _ _ h => h) (Or.inl ⟨by rfl, ?_⟩) (by assumption) ?_; rotate_left; (focus (intro w hSw; (try dsimp only at hSw); go_simp; (try with_reducible rfl); done)); simp only [Act.put, List.getElem_toArray, List.getElem_cons_zero, List.getElem_cons_succ, List.setIfInBounds_toArray, List.set_cons_zero, List.set_cons_succ])
    (refine wpAnyH_take (i := 40) (v := ?_) rfl (by kernel_rfl) (by kernel_rfl) (by kernel_rfl) (fun _ _ _ h => h) (Or.inl ⟨by rfl, ?_⟩) (by assumption) ?_; rotate_left; (focus (intro w hSw; (try dsimp only at hSw); go_simp; (try with_reducible rfl); done)); simp only [Act.put, List.getElem_toArray, List.getElem_cons_zero, List.getElem_cons_succ, List.setIfInBounds_toArray, List.set_cons_zero, List.set_cons_succ])
    (refine wpAnyH_take (i := 42) (v := ?_) rfl (by kernel_rfl) (by kernel_rfl) (by kernel_rfl) (fun _ _ _ h => h) (Or.inl ⟨by rfl, ?_⟩) (by assumption) ?_; rotate_left; (focus (intro w hSw; (try dsimp only at hSw); go_simp; (try with_reducible rfl); done)); simp only [Act.put, List.getElem_toArray, List.getElem_cons_zero, List.getElem_cons_succ, List.setIfInBounds_toArray, List.set_cons_zero, List.set_cons_succ])
    refine wpAnyH_ready (rs := [41]) (by kernel_rfl) (by simp) ?_
    refine AllReadyH.cons rfl (fun K hK => ?_) AllReadyH.nil
    go_simp
    go_wp2_with fail
    refine (HFI.out _).mono ?_
    rintro e r7 ⟨rfl, hb⟩
    replace HB : Hid (Below w.heap.size w r7) := HB.out.trans (hb.mono HB.out.size)
    replace E3 : Hid (DOwn r7 w.heap.size x1 x2 x3 x4 s1 p1) := E3.out.below hb
    replace B3 : Hid (Bx r7 X3 (.slice x1 s1.length x2) (.slice x3 p1.length x4)) := B3.out.keep hb B3.out.lt
    replace E4 : Hid (DOwn r7 v1.heap.size y1 y2 y3 y4 s2 p2) := E4.out.below hb
    replace B4 : Hid (Bx r7 X4 (.slice y1 s2.length y2) (.slice y3 p2.length y4)) := B4.out.keep hb B4.out.lt
    replace SA : Hid (SRow r7 va rt) := SA.out.below hb
    replace SB : Hid (SRow r7 vb rt) := SB.out.below hb
    replace E12 : Hid (DOwn r7 w4.heap.size k1 k2 k3 k4 s3 p3) := E12.out.below hb
    replace B12 : Hid (Bx r7 X12 (.slice k1 s3.length k2) (.slice k3 p3.length k4)) := B12.out.keep hb B12.out.lt
    replace E15 : Hid (DOwn r7 v3.heap.size m1 m2 m3 m4 NA p3) := E15.out.below hb
    replace B15 : Hid (Bx r7 X15 (.slice m1 NA.length m2) (.slice m3 p3.length m4)) := B15.out.keep hb B15.out.lt
    replace E17 : Hid (DOwn r7 v4.heap.size n1 n2 n3 n4 NA p3) := E17.out.below hb
    replace B17 : Hid (Bx r7 X17 (.slice n1 NA.length n2) (.slice n3 p3.length n4)) := B17.out.keep hb B17.out.lt
    go_wp2_with fail
    refine hK.out _ _ ⟨B3.out.c0, B3.out.c1, B4.out.c0, B4.out.c1, B15.out.c0, B15.out.c1, B17.out.c0, B17.out.c1⟩ (fun hHeld7 => ?_)
    clear hK K hb
    refine wpAnyH_ready (rs := [43]) (by kernel_rfl) (by simp) ?_
    refine AllReadyH.cons rfl (fun K hK => ?_) AllReadyH.nil
    go_simp
    go_wp2_with fail
    refine (HFS.out _).mono ?_
    rintro e r8 ⟨rfl, hb⟩
    replace HB : Hid (Below w.heap.size w r8) := HB.out.trans (hb.mono HB.out.size)
    replace E3 : Hid (DOwn r8 w.heap.size x1 x2 x3 x4 s1 p1) := E3.out.below hb
    replace B3 : Hid (Bx r8 X3 (.slice x1 s1.length x2) (.slice x3 p1.length x4)) := B3.out.keep hb B3.out.lt
    replace E4 : Hid (DOwn r8 v1.heap.size y1 y2 y3 y4 s2 p2) := E4.out.below hb
    replace B4 : Hid (Bx r8 X4 (.slice y1 s2.length y2) (.slice y3 p2.length y4)) := B4.out.keep hb B4.out.lt
    replace SA : Hid (SRow r8 va rt) := SA.out.below hb
    replace SB : Hid (SRow r8 vb rt) := SB.out.below hb
    replace E12 : Hid (DOwn r8 w4.heap.size k1 k2 k3 k4 s3 p3) := E12.out.below hb
    replace B12 : Hid (Bx r8 X12 (.slice k1 s3.length k2) (.slice k3 p3.length k4)) := B12.out.keep hb B12.out.lt
    replace E15 : Hid (DOwn r8 v3.heap.size m1 m2 m3 m4 NA p3) := E15.out.below hb
    replace B15 : Hid (Bx r8 X15 (.slice m1 NA.length m2) (.slice m3 p3.length m4)) := B15.out.keep hb B15.out.lt
    replace E17 : Hid (DOwn r8 v4.heap.size n1 n2 n3 n4 NA p3) := E17.out.below hb
    replace B17 : Hid (Bx r8 X17 (.slice n1 NA.length n2) (.slice n3 p3.length n4)) := B17.out.keep hb B17.out.lt
    go_wp2_with fail
    refine hK.out _ _ ⟨B3.out.c0, B3.out.c1, B4.out.c0, B4.out.c1, B15.out.c0, B15.out.c1, B17.out.c0, B17.out.c1⟩ (fun hHeld8 => ?_)
    clear hK K hb
    (refine wpAnyH_take (i := 44) (v := ?_) rfl (by kernel_rfl) (by kernel_rfl) (by kernel_rfl) (fun _ _ _ h => h) (Or.inl ⟨by rfl, ?_⟩) (by assumption) ?_; rotate_left; (focus (intro w hSw; (try dsimp only at hSw); go_simp; (try with_reducible rfl); done)); simp only [Act.put, List.getElem_toArray, List.getElem_cons_zero, List.getElem_cons_succ, List.setIfInBounds_toArray, List.set_cons_zero, List.set_cons_succ])
    (refine wpAnyH_take (i := 45) (v := ?_) rfl (by kernel_rfl) (by kernel_rfl) (by kernel_rfl) (fun _ _ _ h => h) (Or.inl ⟨by rfl, ?_⟩) (by assumption) ?_; rotate_left; (focus (intro w hSw; (try dsimp only at hSw); go_simp; (try with_reducible rfl); done)); simp only [Act.put, List.getElem_toArray, List.getElem_cons_zero, List.getElem_cons_succ, List.setIfInBounds_toArray, List.set_cons_zero, List.set_cons_succ])
    (refine wpAnyH_take (i := 46) (v := ?_) rfl (by kernel_rfl) (by kernel_rfl) (by kernel_rfl) (fun _ _ _ h => h) (Or.inl ⟨by rfl, ?_⟩) (by assumption) ?_; rotate_left; (focus (intro w hSw; (try dsimp only at hSw); go_simp; (try with_reducible rfl); done)); simp only [Act.put, List.getElem_toArray, List.getElem_cons_zero, List.getElem_cons_succ, List.setIfInBounds_toArray, List.set_cons_zero, List.set_cons_succ])
    (refine wpAnyH_take (i := 47) (v := ?_) rfl (by kernel_rfl) (by kernel_rfl) (by kernel_rfl) (fun _ _ _ h => h) (Or.inl ⟨by rfl, ?_⟩) (by assumption) ?_; rotate_left; (focus (intro w hSw; (try dsimp only at hSw); go_simp; (try with_reducible rfl); done)); simp only [Act.put, List.getElem_toArray, List.getElem_cons_zero, List.getElem_cons_succ, List.setIfInBounds_toArray, List.set_cons_zero, List.set_cons_succ])
    (refine wpAnyH_take (i := 49) (v := ?_) rfl (by kernel_rfl) (by kernel_rfl) (by kernel_rfl) (fun _ _ _ h => h) (Or.inl ⟨by rfl, ?_⟩) (by assumption) ?_; rotate_left; (focus (intro w hSw; (try dsimp only at hSw); go_simp; (try with_reducible rfl); done)); simp only [Act.put, List.getElem_toArray, List.getElem_cons_zero, List.getElem_cons_succ, List.setIfInBounds_toArray, List.set_cons_zero, List.set_cons_succ])
    refine wpAnyH_ready (rs := [48]) (by kernel_rfl) (by simp) ?_
    refine AllReadyH.cons rfl (fun K hK => ?_) AllReadyH.nil
    go_simp
    go_wp2_with fail
    refine (HAI.out _ _ _ _ _ E3.out.s.srow E3.out.p.prow).mono ?_
    rintro e r9 ⟨rfl, hb⟩
    replace HB : Hid (Below w.heap.size w r9) := HB.out.trans (hb.mono HB.out.size)
    replace E3 : Hid (DOwn r9 w.heap.size x1 x2 x3 x4 s1 p1) := E3.out.below hb
    replace B3 : Hid (Bx r9 X3 (.slice x1 s1.length x2) (.slice x3 p1.length x4)) := B3.out.keep hb B3.out.lt
    replace E4 : Hid (DOwn r9 v1.heap.size y1 y2 y3 y4 s2 p2) := E4.out.below hb
    replace B4 : Hid (Bx r9 X4 (.slice y1 s2.length y2) (.slice y3 p2.length y4)) := B4.out.keep hb B4.out.lt
    replace SA : Hid (SRow r9 va rt) := SA.out.below hb
    replace SB : Hid (SRow r9 vb rt) := SB.out.below hb
    replace E12 : Hid (DOwn r9 w4.heap.size k1 k2 k3 k4 s3 p3) := E12.out.below hb
    replace B12 : Hid (Bx r9 X12 (.slice k1 s3.length k2) (.slice k3 p3.length k4)) := B12.out.keep hb B12.out.lt
    replace E15 : Hid (DOwn r9 v3.heap.size m1 m2 m3 m4 NA p3) := E15.out.below hb
    replace B15 : Hid (Bx r9 X15 (.slice m1 NA.length m2) (.slice m3 p3.length m4)) := B15.out.keep hb B15.out.lt
    replace E17 : Hid (DOwn r9 v4.heap.size n1 n2 n3 n4 NA p3) := E17.out.below hb
    replace B17 : Hid (Bx r9 X17 (.slice n1 NA.length n2) (.slice n3 p3.length n4)) := B17.out.keep hb B17.out.lt
    go_wp2_with fail
    refine hK.out _ _ ⟨B3.out.c0, B3.out.c1, B4.out.c0, B4.out.c1, B15.out.c0, B15.out.c1, B17.out.c0, B17.out.c1⟩ (fun hHeld9 => ?_)
    clear hK K hb
    refine wpAnyH_ready (rs := [50]) (by kernel_rfl) (by simp) ?_
    refine AllReadyH.cons rfl (fun K hK => ?_) AllReadyH.nil
    go_simp
    go_wp2_with fail
    refine (HAS.out _ _ _ _ _ E3.out.s.srow E3.out.p.prow).mono ?_
    rintro e r10 ⟨rfl, hb⟩
    replace HB : Hid (Below w.heap.size w r10) := HB.out.trans (hb.mono HB.out.size)
    replace E3 : Hid (DOwn r10 w.heap.size x1 x2 x3 x4 s1 p1) := E3.out.below hb
    replace B3 : Hid (Bx r10 X3 (.slice x1 s1.length x2) (.slice x3 p1.length x4)) := B3.out.keep hb B3.out.lt
    replace E4 : Hid (DOwn r10 v1.heap.size y1 y2 y3 y4 s2 p2) := E4.out.below hb
    replace B4 : Hid (Bx r10 X4 (.slice y1 s2.length y2) (.slice y3 p2.length y4)) := B4.out.keep hb B4.out.lt
    replace SA : Hid (SRow r10 va rt) := SA.out.below hb
    replace SB : Hid (SRow r10 vb rt) := SB.out.below hb
    replace E12 : Hid (DOwn r10 w4.heap.size k1 k2 k3 k4 s3 p3) := E12.out.below hb
    replace B12 : Hid (Bx r10 X12 (.slice k1 s3.length k2) (.slice k3 p3.length k4)) := B12.out.keep hb B12.out.lt
    replace E15 : Hid (DOwn r10 v3.heap.size m1 m2 m3 m4 NA p3) := E15.out.below hb
    replace B15 : Hid (Bx r10 X15 (.slice m1 NA.length m2) (.slice m3 p3.length m4)) := B15.out.keep hb B15.out.lt
    replace E17 : Hid (DOwn r10 v4.heap.size n1 n2 n3 n4 NA p3) := E17.out.below hb
    replace B17 : Hid (Bx r10 X17 (.slice n1 NA.length n2) (.slice n3 p3.length n4)) := B17.out.keep hb B17.out.lt
    go_wp2_with fail
    refine hK.out _ _ ⟨B3.out.c0, B3.out.c1, B4.out.c0, B4.out.c1, B15.out.c0, B15.out.c1, B17.out.c0, B17.out.c1⟩ (fun hHeld10 => ?_)
    clear hK K hb
    as_aux_lemma =>
    (refine wpAnyH_take (i := 51) (v := ?_) rfl (by kernel_rfl) (by kernel_rfl) (by kernel_rfl) (fun _ _ _ h => h) (Or.inl ⟨by rfl, ?_⟩) (by assumption) ?_; rotate_left; (focus (intro w hSw; (try dsimp only at hSw); go_simp; (try with_reducible rfl); done)); simp only [Act.put, List.getElem_toArray, List.getElem_cons_zero, List.getElem_cons_succ, List.setIfInBounds_toArray, List.set_cons_zero, List.set_cons_succ])
    (refine wpAnyH_take (i := 52) (v := ?_) rfl (by kernel_rfl) (by kernel_rfl) (by kernel_rfl) (fun _ _ _ h => h) (Or.inl ⟨by rfl, ?_⟩) (by assumption) ?_; rotate_left; (focus (intro w hSw; (try dsimp only at hSw); go_simp; (try with_reducible rfl); done)); simp only [Act.put, List.getElem_toArray, List.getElem_cons_zero, List.getElem_cons_succ, List.setIfInBounds_toArray, List.set_cons_zero, List.set_cons_succ])
    (refine wpAnyH_take (i := 53) (v := ?_) rfl (by kernel_rfl) (by kernel_rfl) (by kernel_rfl) (fun _ _ _ h => h) (Or.inl ⟨by rfl, ?_⟩) (by assumption) ?_; rotate_left; (focus (intro w hSw; (try dsimp only at hSw); go_simp; (try with_reducible rfl); done)); simp only [Act.put, List.getElem_toArray, List.getElem_cons_zero, List.getElem_cons_succ, List.setIfInBounds_toArray, List.set_cons_zero, List.set_cons_succ])
    (refine wpAnyH_take (i := 54) (v := ?_) rfl (by kernel_rfl) (by kernel_rfl) (by kernel_rfl) (fun _ _ _ h => h) (Or.inl ⟨by rfl, ?_⟩) (by assumption) ?_; rotate_left; (focus (intro w hSw; (try dsimp only at hSw); go_simp; (try with_reducible rfl); done)); simp only [Act.put, List.getElem_toArray, List.getElem_cons_zero, List.getElem_cons_succ, List.setIfInBounds_toArray, List.set_cons_zero, List.set_cons_succ])
    (refine wpAnyH_take (i := 56) (v := ?_) rfl (by kernel_rfl) (by kernel_rfl) (by kernel_rfl) (fun _ _ _ h => h) (Or.inl ⟨by rfl, ?_⟩) (by assumption) ?_; rotate_left; (focus (intro w hSw; (try dsimp only at hSw); go_simp; (try with_reducible rfl); done)); simp only [Act.put, List.getElem_toArray, List.getElem_cons_zero, List.getElem_cons_succ, List.setIfInBounds_toArray, List.set_cons_zero, List.set_cons_succ])
    refine wpAnyH_ready (rs := [55]) (by kernel_rfl) (by simp) ?_
    refine AllReadyH.cons rfl (fun K hK => ?_) AllReadyH.nil
    go_simp
    go_wp2_with fail
    refine (HTI.out _ _ _ _ _ E3.out.s.srow E3.out.p.prow).mono ?_
    rintro e r11 ⟨ta, tc, rfl, hsv, hb⟩
    replace HB : Hid (Below w.heap.size w r11) := HB.out.trans (hb.mono HB.out.size)
    replace E3 : Hid (DOwn r11 w.heap.size x1 x2 x3 x4 s1 p1) := E3.out.below hb
    replace B3 : Hid (Bx r11 X3 (.slice x1 s1.length x2) (.slice x3 p1.length x4)) := B3.out.keep hb B3.out.lt
    replace E4 : Hid (DOwn r11 v1.heap.size y1 y2 y3 y4 s2 p2) := E4.out.below hb
    replace B4 : Hid (Bx r11 X4 (.slice y1 s2.length y2) (.slice y3 p2.length y4)) := B4.out.keep hb B4.out.lt
    replace SA : Hid (SRow r11 va rt) := SA.out.below hb
    replace SB : Hid (SRow r11 vb rt) := SB.out.below hb
    replace E12 : Hid (DOwn r11 w4.heap.size k1 k2 k3 k4 s3 p3) := E12.out.below hb
    replace B12 : Hid (Bx r11 X12 (.slice k1 s3.length k2) (.slice k3 p3.length k4)) := B12.out.keep hb B12.out.lt
    replace E15 : Hid (DOwn r11 v3.heap.size m1 m2 m3 m4 NA p3) := E15.out.below hb
    replace B15 : Hid (Bx r11 X15 (.slice m1 NA.length m2) (.slice m3 p3.length m4)) := B15.out.keep hb B15.out.lt
    replace E17 : Hid (DOwn r11 v4.heap.size n1 n2 n3 n4 NA p3) := E17.out.below hb
    replace B17 : Hid (Bx r11 X17 (.slice n1 NA.length n2) (.slice n3 p3.length n4)) := B17.out.keep hb B17.out.lt
    have SC : Hid (SRow r11 ta lt) := hsv
    clear hsv
    go_wp2_with fail
    refine hK.out _ _ ⟨B3.out.c0, B3.out.c1, B4.out.c0, B4.out.c1, B15.out.c0, B15.out.c1, B17.out.c0, B17.out.c1⟩ (fun hHeld11 => ?_)
    clear hK K hb
    refine wpAnyH_ready (rs := [57]) (by kernel_rfl) (by simp) ?_
    refine AllReadyH.cons rfl (fun K hK => ?_) AllReadyH.nil
    go_simp
    go_wp2_with fail
    refine (HTS.out _ _ _ _ _ E3.out.s.srow E3.out.p.prow).mono ?_
    rintro e r12 ⟨tb, td, rfl, hsv, hb⟩
    replace HB : Hid (Below w.heap.size w r12) := HB.out.trans (hb.mono HB.out.size)
    replace E3 : Hid (DOwn r12 w.heap.size x1 x2 x3 x4 s1 p1) := E3.out.below hb
    replace B3 : Hid (Bx r12 X3 (.slice x1 s1.length x2) (.slice x3 p1.length x4)) := B3.out.keep hb B3.out.lt
    replace E4 : Hid (DOwn r12 v1.heap.size y1 y2 y3 y4 s2 p2) := E4.out.below hb
    replace B4 : Hid (Bx r12 X4 (.slice y1 s2.length y2) (.slice y3 p2.length y4)) := B4.out.keep hb B4.out.lt
    replace SA : Hid (SRow r12 va rt) := SA.out.below hb
    replace SB : Hid (SRow r12 vb rt) := SB.out.below hb
    replace E12 : Hid (DOwn r12 w4.heap.size k1 k2 k3 k4 s3 p3) := E12.out.below hb
    replace B12 : Hid (Bx r12 X12 (.slice k1 s3.length k2) (.slice k3 p3.length k4)) := B12.out.keep hb B12.out.lt
    replace E15 : Hid (DOwn r12 v3.heap.size m1 m2 m3 m4 NA p3) := E15.out.below hb
    replace B15 : Hid (Bx r12 X15 (.slice m1 NA.length m2) (.slice m3 p3.length m4)) := B15.out.keep hb B15.out.lt
    replace E17 : Hid (DOwn r12 v4.heap.size n1 n2 n3 n4 NA p3) := E17.out.below hb
    replace B17 : Hid (Bx r12 X17 (.slice n1 NA.length n2) (.slice n3 p3.length n4)) := B17.out.keep hb B17.out.lt
    replace SC : Hid (SRow r12 ta lt) := SC.out.below hb
    have SD : Hid (SRow r12 tb lt) := hsv
    clear hsv
    go_wp2_with fail
    refine hK.out _ _ ⟨B3.out.c0, B3.out.c1, B4.out.c0, B4.out.c1, B15.out.c0, B15.out.c1, B17.out.c0, B17.out.c1⟩ (fun hHeld12 => ?_)
    clear hK K hb
    refine wpAnyH_ready (rs := [58]) (by kernel_rfl) (by simp) ?_
    refine AllReadyH.cons rfl (fun K hK => ?_) AllReadyH.nil
    go_simp
    go_wp2_with fail
    refine (HST.out _ _ _ _ _ SC.out SD.out).mono ?_
    rintro e r13 ⟨rfl, hb⟩
    replace HB : Hid (Below w.heap.size w r13) := HB.out.trans (hb.mono HB.out.size)
    replace E3 : Hid (DOwn r13 w.heap.size x1 x2 x3 x4 s1 p1) := E3.out.below hb
    replace B3 : Hid (Bx r13 X3 (.slice x1 s1.length x2) (.slice x3 p1.length x4)) := B3.out.keep hb B3.out.lt
    replace E4 : Hid (DOwn r13 v1.heap.size y1 y2 y3 y4 s2 p2) := E4.out.below hb
    replace B4 : Hid (Bx r13 X4 (.slice y1 s2.length y2) (.slice y3 p2.length y4)) := B4.out.keep hb B4.out.lt
    replace SA : Hid (SRow r13 va rt) := SA.out.below hb
    replace SB : Hid (SRow r13 vb rt) := SB.out.below hb
    replace E12 : Hid (DOwn r13 w4.heap.size k1 k2 k3 k4 s3 p3) := E12.out.below hb
    replace B12 : Hid (Bx r13 X12 (.slice k1 s3.length k2) (.slice k3 p3.length k4)) := B12.out.keep hb B12.out.lt
    replace E15 : Hid (DOwn r13 v3.heap.size m1 m2 m3 m4 NA p3) := E15.out.below hb
    replace B15 : Hid (Bx r13 X15 (.slice m1 NA.length m2) (.slice m3 p3.length m4)) := B15.out.keep hb B15.out.lt
    replace E17 : Hid (DOwn r13 v4.heap.size n1 n2 n3 n4 NA p3) := E17.out.below hb
    replace B17 : Hid (Bx r13 X17 (.slice n1 NA.length n2) (.slice n3 p3.length n4)) := B17.out.keep hb B17.out.lt
    replace SC : Hid (SRow r13 ta lt) := SC.out.below hb
    replace SD : Hid (SRow r13 tb lt) := SD.out.below hb
    go_wp2_with fail
    refine hK.out _ _ ⟨B3.out.c0, B3.out.c1, B4.out.c0, B4.out.c1, B15.out.c0, B15.out.c1, B17.out.c0, B17.out.c1⟩ (fun hHeld13 => ?_)
    clear hK K hb
    (refine wpAnyH_take (i := 59) (v := ?_) rfl (by kernel_rfl) (by kernel_rfl) (by kernel_rfl) (fun _ _ _ h => h) (Or.inl ⟨by rfl, ?_⟩) (by assumption) ?_; rotate_left; (focus (intro w hSw; (try dsimp only at hSw); go_simp; (try with_reducible rfl); done)); simp only [Act.put, List.getElem_toArray, List.getElem_cons_zero, List.getElem_cons_succ, List.setIfInBounds_toArray, List.set_cons_zero, List.set_cons_succ])
    (refine wpAnyH_take (i := 60) (v := ?_) rfl (by kernel_rfl) (by kernel_rfl) (by kernel_rfl) (fun _ _ _ h => h) (Or.inl ⟨by rfl, ?_⟩) (by assumption) ?_; rotate_left; (focus (intro w hSw; (try dsimp only at hSw); go_simp; (try with_reducible rfl); done)); simp only [Act.put, List.getElem_toArray, List.getElem_cons_zero, List.getElem_cons_succ, List.setIfInBounds_toArray, List.set_cons_zero, List.set_cons_succ])
    refine wpAnyH_ready (rs := [61]) (by kernel_rfl) (by simp) ?_
    refine AllReadyH.cons rfl (fun K hK => ?_) AllReadyH.nil
    go_simp
    go_wp2_with fail
    refine (HLN.out _).mono ?_
    rintro e r14 ⟨l1, l2, l3, l4, rfl, hsv, hpv, hb⟩
    replace HB : Hid (Below w.heap.size w r14) := HB.out.trans (hb.mono HB.out.size)
    replace E3 : Hid (DOwn r14 w.heap.size x1 x2 x3 x4 s1 p1) := E3.out.below hb
    replace B3 : Hid (Bx r14 X3 (.slice x1 s1.length x2) (.slice x3 p1.length x4)) := B3.out.keep hb B3.out.lt
    replace E4 : Hid (DOwn r14 v1.heap.size y1 y2 y3 y4 s2 p2) := E4.out.below hb
    replace B4 : Hid (Bx r14 X4 (.slice y1 s2.length y2) (.slice y3 p2.length y4)) := B4.out.keep hb B4.out.lt
    replace SA : Hid (SRow r14 va rt) := SA.out.below hb
    replace SB : Hid (SRow r14 vb rt) := SB.out.below hb
    replace E12 : Hid (DOwn r14 w4.heap.size k1 k2 k3 k4 s3 p3) := E12.out.below hb
    replace B12 : Hid (Bx r14 X12 (.slice k1 s3.length k2) (.slice k3 p3.length k4)) := B12.out.keep hb B12.out.lt
    replace E15 : Hid (DOwn r14 v3.heap.size m1 m2 m3 m4 NA p3) := E15.out.below hb
    replace B15 : Hid (Bx r14 X15 (.slice m1 NA.length m2) (.slice m3 p3.length m4)) := B15.out.keep hb B15.out.lt
    replace E17 : Hid (DOwn r14 v4.heap.size n1 n2 n3 n4 NA p3) := E17.out.below hb
    replace B17 : Hid (Bx r14 X17 (.slice n1 NA.length n2) (.slice n3 p3.length n4)) := B17.out.keep hb B17.out.lt
    replace SC : Hid (SRow r14 ta lt) := SC.out.below hb
    replace SD : Hid (SRow r14 tb lt) := SD.out.below hb
    have SE : Hid (SRow r14 l1 LS) := hsv
    have SF : Hid (PRow r14 l3 LP) := hpv
    clear hsv hpv
    go_wp2_with fail
    refine hK.out _ _ ⟨B3.out.c0, B3.out.c1, B4.out.c0, B4.out.c1, B15.out.c0, B15.out.c1, B17.out.c0, B17.out.c1⟩ (fun hHeld14 => ?_)
    clear hK K hb
    refine wpAnyH_ready (rs := [62]) (by kernel_rfl) (by simp) ?_
    refine AllReadyH.cons rfl (fun K hK => ?_) AllReadyH.nil
    go_simp
    go_wp2_with fail
    refine (HLK.out _ _ _ _ _ SE.out SF.out).mono ?_
    rintro e r15 ⟨rfl, hb⟩
    replace HB : Hid (Below w.heap.size w r15) := HB.out.trans (hb.mono HB.out.size)
    replace E3 : Hid (DOwn r15 w.heap.size x1 x2 x3 x4 s1 p1) := E3.out.below hb
    replace B3 : Hid (Bx r15 X3 (.slice x1 s1.length x2) (.slice x3 p1.length x4)) := B3.out.keep hb B3.out.lt
    replace E4 : Hid (DOwn r15 v1.heap.size y1 y2 y3 y4 s2 p2) := E4.out.below hb
    replace B4 : Hid (Bx r15 X4 (.slice y1 s2.length y2) (.slice y3 p2.length y4)) := B4.out.keep hb B4.out.lt
    replace SA : Hid (SRow r15 va rt) := SA.out.below hb
    replace SB : Hid (SRow r15 vb rt) := SB.out.below hb
    replace E12 : Hid (DOwn r15 w4.heap.size k1 k2 k3 k4 s3 p3) := E12.out.below hb
    replace B12 : Hid (Bx r15 X12 (.slice k1 s3.length k2) (.slice k3 p3.length k4)) := B12.out.keep hb B12.out.lt
    replace E15 : Hid (DOwn r15 v3.heap.size m1 m2 m3 m4 NA p3) := E15.out.below hb
    replace B15 : Hid (Bx r15 X15 (.slice m1 NA.length m2) (.slice m3 p3.length m4)) := B15.out.keep hb B15.out.lt
    replace E17 : Hid (DOwn r15 v4.heap.size n1 n2 n3 n4 NA p3) := E17.out.below hb
    replace B17 : Hid (Bx r15 X17 (.slice n1 NA.length n2) (.slice n3 p3.length n4)) := B17.out.keep hb B17.out.lt
    replace SC : Hid (SRow r15 ta lt) := SC.out.below hb
    replace SD : Hid (SRow r15 tb lt) := SD.out.below hb
    replace SE : Hid (SRow r15 l1 LS) := SE.out.below hb
    replace SF : Hid (PRow r15 l3 LP) := SF.out.below hb
    go_wp2_with fail
    refine hK.out _ _ ⟨B3.out.c0, B3.out.c1, B4.out.c0, B4.out.c1, B15.out.c0, B15.out.c1, B17.out.c0, B17.out.c1⟩ (fun hHeld15 => ?_)
    clear hK K hb
    (refine wpAnyH_take (i := 63) (v := ?_) rfl (by kernel_rfl) (by kernel_rfl) (by kernel_rfl) (fun _ _ _ h => h) (Or.inl ⟨by rfl, ?_⟩) (by assumption) ?_; rotate_left; (focus (intro w hSw; (try dsimp only at hSw); go_simp; (try with_reducible rfl); done)); simp only [Act.put, List.getElem_toArray, List.getElem_cons_zero, List.getElem_cons_succ, List.setIfInBounds_toArray, List.set_cons_zero, List.set_cons_succ])
    (refine wpAnyH_take (i := 64) (v := ?_) rfl (by kernel_rfl) (by kernel_rfl) (by kernel_rfl) (fun _ _ _ h => h) (Or.inl ⟨by rfl, ?_⟩) (by assumption) ?_; rotate_left; (focus (intro w hSw; (try dsimp only at hSw); go_simp; (try with_reducible rfl); done)); simp only [Act.put, List.getElem_toArray, List.getElem_cons_zero, List.getElem_cons_succ, List.setIfInBounds_toArray, List.set_cons_zero, List.set_cons_succ])
    refine wpAnyH_done (by kernel_rfl) ?_ _
    go_wp2
    go_ret
    exact ⟨rfl, HB.out⟩
  · rw [decide_eq_true (by omega)] at HBG
    go_enter Try.func9, Try.ntmps9
    go_wp2_with fail
    refine (HBG.out _).mono ?_
    rintro e w ⟨rfl, rfl⟩
    go_wp2
    go_ret
    exact ⟨rfl, belowRefl w⟩
end Go.Proofs.Ytnfkecefkkdedaa

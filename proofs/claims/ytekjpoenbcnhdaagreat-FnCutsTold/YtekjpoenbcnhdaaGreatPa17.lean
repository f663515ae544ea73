/- What impl.PutRecord returns. -/
import Derived.Test.YtekjpoenbcnhdaaGreatPa13
import Derived.Test.YtekjpoenbcnhdaaGreatPa16
namespace Go.Proofs.YtekjpoenbcnhdaaGreat
open Go.RowKit
open DM
attribute [local go_sem ↓] Go.wp_at_zero Go.wp_at_succ

set_option maxRecDepth 100000 in
set_option maxHeartbeats 8000000 in
theorem ipr37 (ss : List ByteArray) (ps : List Wr) (a : Int) (t : ByteArray) (a1 a2 : Option Addr) (c1 c2 : Nat) (hn : ss.length ≤ 1048576) (hm : ps.length ≤ 1048576) (hs : ∀ s ∈ ss, s.size ≤ 1048576) (hp : ∀ p ∈ ps, p.2.size ≤ 1048576) (htz : t.size ≤ 1048576) (w : World) (hsr : SRow w a1 ss) (hpr : PRow w a2 ps) :
  Calls Tryz.prog 65 #[.agg #[.slice a1 ss.length c1, .slice a2 ps.length c2], .int .i64 a, .string t] w fun e w' => ∃ b1 d1 b2 d2, e = .returned (.tuple #[.agg #[.slice b1 (prS ss ps a t).length d1, .slice b2 ps.length d2], .bool (prB ss ps a t)]) ∧ DOwn w' w.heap.size b1 d1 b2 d2 (prS ss ps a t) ps ∧ Below w.heap.size w w' := by
 have HLO : Hid (∀ W : World, Below w.heap.size w W → Calls Tryz.prog 52 #[.agg #[.slice a1 ss.length c1, .slice a2 ps.length c2]] W fun e w' => e = .returned (.bool (logB ss ps)) ∧ Below W.heap.size W w') := fun W h => ilok24 ss ps a1 a2 c1 c2 hn hm hs hp W (hsr.below h) (hpr.below h)
 have HCP : Hid (∀ W : World, Below w.heap.size w W → Calls Tryz.prog 73 #[.agg #[.slice a1 ss.length c1, .slice a2 ps.length c2]] W fun e w' => ∃ f1 f2 f3 f4, e = .returned (.agg #[.slice f1 ss.length f2, .slice f3 ps.length f4]) ∧ DOwn w' W.heap.size f1 f2 f3 f4 ss ps ∧ Below W.heap.size W w') := fun W h => copy53 ss ps a1 a2 c1 c2 (by omega) (by omega) (fun s h => Nat.le_trans (hs s h) (by omega)) (fun p h => Nat.le_trans (hp p h) (by omega)) W (hsr.below h) (hpr.below h)
 have b0 : Hid (Below w.heap.size w ((w.alloc (.cells #[.slice a1 ss.length c1, .slice a2 ps.length c2] 27)).alloc (.cells #[.slice none 0 0, .slice none 0 0] 27))) := ((belowRefl w).alloc (Nat.le_refl _) _).alloc (by simp) _
 have X0 : Hid (Bx ((w.alloc (.cells #[.slice a1 ss.length c1, .slice a2 ps.length c2] 27)).alloc (.cells #[.slice none 0 0, .slice none 0 0] 27)) w.heap.size (.slice a1 ss.length c1) (.slice a2 ps.length c2)) := (Bx.new w _ _ _).alloc _
 have X1 : Hid (Bx ((w.alloc (.cells #[.slice a1 ss.length c1, .slice a2 ps.length c2] 27)).alloc (.cells #[.slice none 0 0, .slice none 0 0] 27)) (w.heap.size + 1) (.slice none 0 0) (.slice none 0 0)) := by
  have h := Bx.new (w.alloc (.cells #[.slice a1 ss.length c1, .slice a2 ps.length c2] 27)) (.slice none 0 0) (.slice none 0 0) 27
  rw [World.size_alloc] at h
  exact h
 cases hl : logB ss ps with
 | false =>
  have HN : Hid (prB ss ps a t = false ∧ prS ss ps a t = ss) := prS_no1 hl
  rw [HN.out.1, HN.out.2]
  rw [hl] at HLO
  clear hl hs hp hsr hpr
  go_enter Tryz.func65, Tryz.ntmps65
  go_wp2_with fail
  refine (HLO.out _ b0.out).mono ?_
  rintro e w1 ⟨rfl, hb1⟩
  have Y01 : Hid (Bx w1 w.heap.size (.slice a1 ss.length c1) (.slice a2 ps.length c2)) := X0.out.keep hb1 X0.out.lt
  have Y11 : Hid (Bx w1 (w.heap.size + 1) (.slice none 0 0) (.slice none 0 0)) := X1.out.keep hb1 X1.out.lt
  have HB1 : Hid (Below w.heap.size w w1) := b0.out.trans (hb1.mono b0.out.size)
  have g01 := Y01.out.c0
  have g11 := Y01.out.c1
  go_wp2_with fail
  refine (HCP.out _ HB1.out).mono ?_
  rintro e w9 ⟨y1, y2, y3, y4, rfl, hd9, hb9⟩
  have Y09 : Hid (Bx w9 w.heap.size (.slice a1 ss.length c1) (.slice a2 ps.length c2)) := Y01.out.keep hb9 Y01.out.lt
  have Y19 : Hid (Bx w9 (w.heap.size + 1) (.slice none 0 0) (.slice none 0 0)) := Y11.out.keep hb9 Y11.out.lt
  have HB9 : Hid (Below w.heap.size w w9) := HB1.out.trans (hb9.mono HB1.out.size)
  have g09 := Y09.out.c0
  have g19 := Y09.out.c1
  have HD9 : Hid (DOwn w9 (w.heap.size + 1 + 1) y1 y2 y3 y4 ss ps) := hd9.mono Y11.out.lt
  clear hd9 hb9
  have r0 := Y19.out.c0
  have r1 := Y19.out.c1
  have rf := Y19.out.fz
  have V9 : Hid (Bx ((w9.setCell ⟨w.heap.size + 1, 0, none⟩ (.slice y1 ss.length y2)).setCell ⟨w.heap.size + 1, 1, none⟩ (.slice y3 ps.length y4)) (w.heap.size + 1) (.slice y1 ss.length y2) (.slice y3 ps.length y4)) := (Y19.out.set0 _).set1 _
  have q0 := V9.out.c0
  have q1 := V9.out.c1
  go_wp2
  refine bodyPost_ret (v := .tuple #[.agg #[.slice y1 ss.length y2, .slice y3 ps.length y4], .bool false]) (by simp [results, Tryz.results65, go_sem, q0, q1]) rfl ⟨y1, y2, y3, y4, rfl, ⟨?_, ?_⟩, ?_⟩
  ·exact ((HD9.out.s.set (by show w.heap.size + 1 < _; omega) _).set (by show w.heap.size + 1 < _; omega) _).mono (by omega)
  ·exact ((HD9.out.p.set (by show w.heap.size + 1 < _; omega) _).set (by show w.heap.size + 1 < _; omega) _).mono (by omega)
  ·exact (HB9.out.setCell (by show _ ≤ w.heap.size + 1; omega) _).setCell (by show _ ≤ w.heap.size + 1; omega) _
 | true =>
  have hpq := prS_lp (a := a) (t := t) hl
  have hlp := logB_parts hl
  rw [hpq.1, hpq.2]
  rw [hl] at HLO
  cases hB : recB ss ps a t with
  | false =>
   rw [lpS_no hB]
   have HRW : Hid (∀ W : World, Below w.heap.size w W → Calls Tryz.prog 31 #[.agg #[.slice a1 ss.length c1, .slice a2 ps.length c2], .int .i64 a, .string t] W fun e w' => e = .returned (.tuple #[.agg #[.slice none 0 0, .slice none 0 0], .bool false]) ∧ Below W.heap.size W w') := fun W h => by
    refine (irw71 ss ps a t a1 a2 c1 c2 hlp.1 hlp.2.2 hlp.2.1 htz W (hsr.below h) (hpr.below h)).mono ?_
    rintro e w' (⟨h1, _⟩ | ⟨_, h2, h3⟩)
    ·rw [hB] at h1; cases h1
    ·exact ⟨h2, h3⟩
   clear hl hs hp hsr hpr hpq hlp hB
   go_enter Tryz.func65, Tryz.ntmps65
   go_wp2_with fail
   refine (HLO.out _ b0.out).mono ?_
   rintro e w1 ⟨rfl, hb1⟩
   have Y01 : Hid (Bx w1 w.heap.size (.slice a1 ss.length c1) (.slice a2 ps.length c2)) := X0.out.keep hb1 X0.out.lt
   have Y11 : Hid (Bx w1 (w.heap.size + 1) (.slice none 0 0) (.slice none 0 0)) := X1.out.keep hb1 X1.out.lt
   have HB1 : Hid (Below w.heap.size w w1) := b0.out.trans (hb1.mono b0.out.size)
   have g01 := Y01.out.c0
   have g11 := Y01.out.c1
   go_wp2_with fail
   refine (HRW.out _ HB1.out).mono ?_
   rintro e w3 ⟨rfl, hb3⟩
   have Y03 : Hid (Bx w3 w.heap.size (.slice a1 ss.length c1) (.slice a2 ps.length c2)) := Y01.out.keep hb3 Y01.out.lt
   have Y13 : Hid (Bx w3 (w.heap.size + 1) (.slice none 0 0) (.slice none 0 0)) := Y11.out.keep hb3 Y11.out.lt
   have HB3 : Hid (Below w.heap.size w w3) := HB1.out.trans (hb3.mono HB1.out.size)
   have g03 := Y03.out.c0
   have g13 := Y03.out.c1
   have Y04 : Hid (Bx (w3.alloc (.cells #[.slice none 0 0, .slice none 0 0] 27)) w.heap.size (.slice a1 ss.length c1) (.slice a2 ps.length c2)) := Y03.out.alloc _
   have Y14 : Hid (Bx (w3.alloc (.cells #[.slice none 0 0, .slice none 0 0] 27)) (w.heap.size + 1) (.slice none 0 0) (.slice none 0 0)) := Y13.out.alloc _
   have HB4 : Hid (Below w.heap.size w (w3.alloc (.cells #[.slice none 0 0, .slice none 0 0] 27))) := HB3.out.alloc HB3.out.size _
   have g04 := Y04.out.c0
   have g14 := Y04.out.c1
   clear hb3 hb1
   go_wp2_with fail
   refine (HCP.out _ HB4.out).mono ?_
   rintro e w9 ⟨y1, y2, y3, y4, rfl, hd9, hb9⟩
   have Y09 : Hid (Bx w9 w.heap.size (.slice a1 ss.length c1) (.slice a2 ps.length c2)) := Y04.out.keep hb9 Y04.out.lt
   have Y19 : Hid (Bx w9 (w.heap.size + 1) (.slice none 0 0) (.slice none 0 0)) := Y14.out.keep hb9 Y14.out.lt
   have HB9 : Hid (Below w.heap.size w w9) := HB4.out.trans (hb9.mono HB4.out.size)
   have g09 := Y09.out.c0
   have g19 := Y09.out.c1
   have HD9 : Hid (DOwn w9 (w.heap.size + 1 + 1) y1 y2 y3 y4 ss ps) := hd9.mono Y14.out.lt
   clear hd9 hb9
   have r0 := Y19.out.c0
   have r1 := Y19.out.c1
   have rf := Y19.out.fz
   have V9 : Hid (Bx ((w9.setCell ⟨w.heap.size + 1, 0, none⟩ (.slice y1 ss.length y2)).setCell ⟨w.heap.size + 1, 1, none⟩ (.slice y3 ps.length y4)) (w.heap.size + 1) (.slice y1 ss.length y2) (.slice y3 ps.length y4)) := (Y19.out.set0 _).set1 _
   have q0 := V9.out.c0
   have q1 := V9.out.c1
   go_wp2
   refine bodyPost_ret (v := .tuple #[.agg #[.slice y1 ss.length y2, .slice y3 ps.length y4], .bool false]) (by simp [results, Tryz.results65, go_sem, q0, q1]) rfl ⟨y1, y2, y3, y4, rfl, ⟨?_, ?_⟩, ?_⟩
   ·exact ((HD9.out.s.set (by show w.heap.size + 1 < _; omega) _).set (by show w.heap.size + 1 < _; omega) _).mono (by omega)
   ·exact ((HD9.out.p.set (by show w.heap.size + 1 < _; omega) _).set (by show w.heap.size + 1 < _; omega) _).mono (by omega)
   ·exact (HB9.out.setCell (by show _ ≤ w.heap.size + 1; omega) _).setCell (by show _ ≤ w.heap.size + 1; omega) _
  | true =>
   have hpt := recB_parts hB
   have hcb := cnt_le ss ps a
   obtain ⟨cn, hcn⟩ := Int.eq_ofNat_of_zero_le hcb.1
   have hcn255 : cn < 255 := by have := hpt.2.2.1; omega
   obtain ⟨S1, hS1⟩ : ∃ S1, S1 = flS ss (recW ss ps a t) := ⟨_, rfl⟩
   obtain ⟨WB, hWB⟩ : ∃ WB, WB = wb S1 (af a).toNat 0 [UInt8.ofNat (cn + 1)] := ⟨_, rfl⟩
   have HPS : Hid (lpS ss ps a t = flS S1 WB) := by
    show _ = _
    rw [lpS_yes hB, hWB, hS1]
    unfold putS
    rw [hcn]
    rfl
   have HO : Hid (OkD ss ps) := okB_iff.1 hlp.1
   have hs100 : ss.length ≤ 100 := HO.out.2.1
   have hpl : ps.length ≤ 60 := HO.out.2.2.1
   have HRWK : Hid (okB ss (recW ss ps a t) = true → okB S1 ps = true ∧ S1.length = 97 ∧ flP ss (recW ss ps a t) = ps ∧ cnt S1 ps a = (cn : Int)) := fun h => by
    have h2 := okB_flush h
    rw [← hS1, flP_yes h] at h2
    rw [← hlp.2.2] at h2
    refine ⟨h2, by rw [hS1, flS_length h, hlp.2.1], by rw [flP_yes h, hlp.2.2], ?_⟩
    have e : recW ss ps a t = wb ss (af a + 1).toNat (oE (raO ss ps a)) (recL t) := if_pos hB
    have hk := cnt_keep (q := oE (raO ss ps a)) (l := recL t) hpt.2.2.2.2 hlp.2.1 (by rw [← e]; exact h)
    rw [← e, ← hS1, ← hlp.2.2] at hk
    rw [hk, hcn]
   have HRW : Hid (∀ W : World, Below w.heap.size w W → Calls Tryz.prog 31 #[.agg #[.slice a1 ss.length c1, .slice a2 ps.length c2], .int .i64 a, .string t] W fun e w' => ∃ b1 d1 b2 d2, e = .returned (.tuple #[.agg #[.slice b1 ss.length d1, .slice b2 (recW ss ps a t).length d2], .bool true]) ∧ DOwn w' W.heap.size b1 d1 b2 d2 ss (recW ss ps a t) ∧ okB ss (recW ss ps a t) = true ∧ Below W.heap.size W w') := fun W h => by
    refine (irw71 ss ps a t a1 a2 c1 c2 hlp.1 hlp.2.2 hlp.2.1 htz W (hsr.below h) (hpr.below h)).mono ?_
    rintro e w' (⟨_, h1⟩ | ⟨h2, _⟩)
    ·exact h1
    ·rw [hB] at h2; cases h2
   have HFL : Hid (okB ss (recW ss ps a t) = true → ∀ (W : World) (x1 : Option Addr) (x2 : Nat) (x3 : Option Addr) (x4 : Nat), SRow W x1 ss → PRow W x3 (recW ss ps a t) → Calls Tryz.prog 33 #[.agg #[.slice x1 ss.length x2, .slice x3 (recW ss ps a t).length x4]] W fun e w' => ∃ f1 f2 f3 f4, e = .returned (.agg #[.slice f1 S1.length f2, .slice f3 ps.length f4]) ∧ DOwn w' W.heap.size f1 f2 f3 f4 S1 ps ∧ Below W.heap.size W w') := fun hk W x1 x2 x3 x4 h1 h2 => by
    have e := HRWK.out hk
    have ho := okB_iff.1 hk
    have h2 := iflush19 ss (recW ss ps a t) x1 x3 x2 x4 (by omega) (by have := ho.2.2.1; omega) (fun s h => by have := ho.2.2.2.1 s h; omega) (fun p h => by have := (ho.2.2.2.2 p h).2.2; omega) W h1 h2
    rw [← hS1, e.2.2.1] at h2
    exact h2
   have HCN : Hid (okB ss (recW ss ps a t) = true → ∀ (W : World) (x1 : Option Addr) (x2 : Nat) (x3 : Option Addr) (x4 : Nat), SRow W x1 S1 → PRow W x3 ps → Calls Tryz.prog 34 #[.agg #[.slice x1 S1.length x2, .slice x3 ps.length x4], .int .i64 a] W fun e w'' => e = .returned (.int .i64 (cn : Int)) ∧ Below W.heap.size W w'') := fun hk W x1 x2 x3 x4 h1 h2 => by
    have e := HRWK.out hk
    have ho := okB_iff.1 e.1
    have h2 := icn28 S1 ps a x1 x3 x2 x4 (by omega) (by omega) (fun s h => by have := ho.2.2.2.1 s h; omega) (fun p h => by have := (ho.2.2.2.2 p h).2.2; omega) W h1 h2
    rw [e.2.2.2] at h2
    exact h2
   have HCO : Hid (okB ss (recW ss ps a t) = true → ∀ (W : World) (x1 : Option Addr) (x2 : Nat) (x3 : Option Addr) (x4 : Nat), SRow W x1 S1 → PRow W x3 ps → Calls Tryz.prog 32 #[.agg #[.slice x1 S1.length x2, .slice x3 ps.length x4], .int .i64 a, .int .i64 ((cn : Int) + 1)] W fun e w' => ∃ f1 f2 f3 f4, e = .returned (.agg #[.slice f1 S1.length f2, .slice f3 WB.length f4]) ∧ DOwn w' W.heap.size f1 f2 f3 f4 S1 WB ∧ okB S1 WB = true ∧ Below W.heap.size W w') := fun hk W x1 x2 x3 x4 h1 h2 => by
    have e := HRWK.out hk
    have h2 := icw73 S1 ps a (cn + 1) x1 x3 x2 x4 hpt.2.2.2.2 e.1 hlp.2.2 e.2.1 (by omega) W h1 h2
    rw [← hWB, show ((cn + 1 : Nat) : Int) = (cn : Int) + 1 by omega] at h2
    exact h2
   have HFL2 : Hid (S1.length = 97 → okB S1 WB = true → ∀ (W : World) (x1 : Option Addr) (x2 : Nat) (x3 : Option Addr) (x4 : Nat), SRow W x1 S1 → PRow W x3 WB → Calls Tryz.prog 33 #[.agg #[.slice x1 S1.length x2, .slice x3 WB.length x4]] W fun e w' => ∃ f1 f2 f3 f4, e = .returned (.agg #[.slice f1 (lpS ss ps a t).length f2, .slice f3 ps.length f4]) ∧ DOwn w' W.heap.size f1 f2 f3 f4 (lpS ss ps a t) ps ∧ Below W.heap.size W w') := fun h9 hk W x1 x2 x3 x4 h1 h2 => by
    have ho := okB_iff.1 hk
    have h2 := iflush19 S1 WB x1 x3 x2 x4 (by omega) (by have := ho.2.2.1; omega) (fun s h => by have := ho.2.2.2.1 s h; omega) (fun p h => by have := (ho.2.2.2.2 p h).2.2; omega) W h1 h2
    rw [← HPS.out, flP_yes hk, ← hlp.2.2] at h2
    exact h2
   clear hl hs hp hsr hpr hpq hlp hB HPS hS1 hWB hcn HO hpt hcb
   generalize lpS ss ps a t = LP at *
   generalize recW ss ps a t = RW at *
   go_enter Tryz.func65, Tryz.ntmps65
   go_wp2_with fail
   refine (HLO.out _ b0.out).mono ?_
   rintro e w1 ⟨rfl, hb1⟩
   have Y01 : Hid (Bx w1 w.heap.size (.slice a1 ss.length c1) (.slice a2 ps.length c2)) := X0.out.keep hb1 X0.out.lt
   have Y11 : Hid (Bx w1 (w.heap.size + 1) (.slice none 0 0) (.slice none 0 0)) := X1.out.keep hb1 X1.out.lt
   have HB1 : Hid (Below w.heap.size w w1) := b0.out.trans (hb1.mono b0.out.size)
   have g01 := Y01.out.c0
   have g11 := Y01.out.c1
   go_wp2_with fail
   refine (HRW.out _ HB1.out).mono ?_
   rintro e w3 ⟨y1, y2, y3, y4, rfl, hd3, hk3, hb3⟩
   have Y03 : Hid (Bx w3 w.heap.size (.slice a1 ss.length c1) (.slice a2 ps.length c2)) := Y01.out.keep hb3 Y01.out.lt
   have Y13 : Hid (Bx w3 (w.heap.size + 1) (.slice none 0 0) (.slice none 0 0)) := Y11.out.keep hb3 Y11.out.lt
   have HB3 : Hid (Below w.heap.size w w3) := HB1.out.trans (hb3.mono HB1.out.size)
   have g03 := Y03.out.c0
   have g13 := Y03.out.c1
   have Y14 : Hid (Bx (w3.alloc (.cells #[.slice y1 ss.length y2, .slice y3 RW.length y4] 27)) (w.heap.size + 1) (.slice none 0 0) (.slice none 0 0)) := Y13.out.alloc _
   have Y24 : Hid (Bx (w3.alloc (.cells #[.slice y1 ss.length y2, .slice y3 RW.length y4] 27)) w3.heap.size (.slice y1 ss.length y2) (.slice y3 RW.length y4)) := Bx.new w3 _ _ _
   have HB4 : Hid (Below w.heap.size w (w3.alloc (.cells #[.slice y1 ss.length y2, .slice y3 RW.length y4] 27))) := HB3.out.alloc HB3.out.size _
   have HY4 : Hid (DOwn (w3.alloc (.cells #[.slice y1 ss.length y2, .slice y3 RW.length y4] 27)) (w.heap.size + 1 + 1) y1 y2 y3 y4 ss RW) := (hd3.mono Y11.out.lt).below ((belowRefl w3).alloc (Nat.le_refl _) _)
   have g24 := Y24.out.c0
   have g34 := Y24.out.c1
   have hz3 : w.heap.size + 1 + 1 ≤ w3.heap.size := Y13.out.lt
   clear hd3 hb3 hb1
   go_wp2_with fail
   refine (HFL.out hk3 _ _ _ _ _ HY4.out.s.srow HY4.out.p.prow).mono ?_
   rintro e w5 ⟨z1, z2, z3, z4, rfl, hd5, hb5⟩
   have Y15 : Hid (Bx w5 (w.heap.size + 1) (.slice none 0 0) (.slice none 0 0)) := Y14.out.keep hb5 Y14.out.lt
   have Y25 : Hid (Bx w5 w3.heap.size (.slice y1 ss.length y2) (.slice y3 RW.length y4)) := Y24.out.keep hb5 Y24.out.lt
   have HB5 : Hid (Below w.heap.size w w5) := HB4.out.trans (hb5.mono HB4.out.size)
   have hd5' : DOwn w5 (w3.heap.size + 1) z1 z2 z3 z4 S1 ps := hd5.mono (by simp)
   have k0 := Y25.out.c0
   have k1 := Y25.out.c1
   have kf := Y25.out.fz
   have Y16 : Hid (Bx ((w5.setCell ⟨w3.heap.size, 0, none⟩ (.slice z1 S1.length z2)).setCell ⟨w3.heap.size, 1, none⟩ (.slice z3 ps.length z4)) (w.heap.size + 1) (.slice none 0 0) (.slice none 0 0)) := (Y15.out.setO (by show w3.heap.size ≠ _; omega) _).setO (by show w3.heap.size ≠ _; omega) _
   have Y26 : Hid (Bx ((w5.setCell ⟨w3.heap.size, 0, none⟩ (.slice z1 S1.length z2)).setCell ⟨w3.heap.size, 1, none⟩ (.slice z3 ps.length z4)) w3.heap.size (.slice z1 S1.length z2) (.slice z3 ps.length z4)) := (Y25.out.set0 _).set1 _
   have HB6 : Hid (Below w.heap.size w ((w5.setCell ⟨w3.heap.size, 0, none⟩ (.slice z1 S1.length z2)).setCell ⟨w3.heap.size, 1, none⟩ (.slice z3 ps.length z4))) := (HB5.out.setCell (by show _ ≤ w3.heap.size; omega) _).setCell (by show _ ≤ w3.heap.size; omega) _
   have HZ6 : Hid (DOwn ((w5.setCell ⟨w3.heap.size, 0, none⟩ (.slice z1 S1.length z2)).setCell ⟨w3.heap.size, 1, none⟩ (.slice z3 ps.length z4)) (w3.heap.size + 1) z1 z2 z3 z4 S1 ps) := ⟨(hd5'.s.set (by show w3.heap.size < _; omega) _).set (by show w3.heap.size < _; omega) _, (hd5'.p.set (by show w3.heap.size < _; omega) _).set (by show w3.heap.size < _; omega) _⟩
   have HCN' : Hid (∀ (W : World) (x1 : Option Addr) (x2 : Nat) (x3 : Option Addr) (x4 : Nat), SRow W x1 S1 → PRow W x3 ps → Calls Tryz.prog 34 #[.agg #[.slice x1 S1.length x2, .slice x3 ps.length x4], .int .i64 a] W fun e w'' => e = .returned (.int .i64 (cn : Int)) ∧ Below W.heap.size W w'') := HCN.out hk3
   have HCO' : Hid (∀ (W : World) (x1 : Option Addr) (x2 : Nat) (x3 : Option Addr) (x4 : Nat), SRow W x1 S1 → PRow W x3 ps → Calls Tryz.prog 32 #[.agg #[.slice x1 S1.length x2, .slice x3 ps.length x4], .int .i64 a, .int .i64 ((cn : Int) + 1)] W fun e w' => ∃ f1 f2 f3 f4, e = .returned (.agg #[.slice f1 S1.length f2, .slice f3 WB.length f4]) ∧ DOwn w' W.heap.size f1 f2 f3 f4 S1 WB ∧ okB S1 WB = true ∧ Below W.heap.size W w') := HCO.out hk3
   have HFL2' : Hid (okB S1 WB = true → ∀ (W : World) (x1 : Option Addr) (x2 : Nat) (x3 : Option Addr) (x4 : Nat), SRow W x1 S1 → PRow W x3 WB → Calls Tryz.prog 33 #[.agg #[.slice x1 S1.length x2, .slice x3 WB.length x4]] W fun e w' => ∃ f1 f2 f3 f4, e = .returned (.agg #[.slice f1 LP.length f2, .slice f3 ps.length f4]) ∧ DOwn w' W.heap.size f1 f2 f3 f4 LP ps ∧ Below W.heap.size W w') := HFL2.out (HRWK.out hk3).2.1
   have hcw : IntKind.i64.wrap ((cn : Int) + 1) = (cn : Int) + 1 := by rw [IntKind.wrap_i64]; omega
   clear hd5 hb5 hd5' HFL HCN HCO HFL2 HRWK hk3 HRW HLO HCP HY4
   go_wp2
   clear k0 k1 kf
   generalize ((w5.setCell ⟨w3.heap.size, 0, none⟩ (.slice z1 S1.length z2)).setCell ⟨w3.heap.size, 1, none⟩ (.slice z3 ps.length z4)) = W6 at *
   have k0 := Y26.out.c0
   have k1 := Y26.out.c1
   have hne : w.heap.size + 1 ≠ w3.heap.size := by omega
   have l6 : w3.heap.size < W6.heap.size := Y26.out.lt
   go_region_held3 (fun w' => w'.cell? ⟨w3.heap.size, 0, none⟩ = some (.slice z1 S1.length z2) ∧ w'.cell? ⟨w3.heap.size, 1, none⟩ = some (.slice z3 ps.length z4))
    (first | exact ⟨k0, k1⟩ | exact t7.out | exact t8.out | exact t9.out | exact ⟨((Y29.out.setO hne _).setO hne _).c0, ((Y29.out.setO hne _).setO hne _).c1⟩)
    ((first
     | (go_at_call 34
        refine (HCN'.out _ _ _ _ _ HZ6.out.drew.s.srow HZ6.out.drew.p.prow).mono ?_
        rintro e w7 ⟨rfl, hb7⟩
        have Y27 : Hid (Bx w7 w3.heap.size (.slice z1 S1.length z2) (.slice z3 ps.length z4)) := Y26.out.keep (undrew hb7) Y26.out.lt
        have t7 : Hid (w7.cell? ⟨w3.heap.size, 0, none⟩ = some (.slice z1 S1.length z2) ∧ w7.cell? ⟨w3.heap.size, 1, none⟩ = some (.slice z3 ps.length z4)) := ⟨Y27.out.c0, Y27.out.c1⟩)
     | (go_at_call 32
        refine (HCO'.out _ _ _ _ _ (HZ6.out.below (undrew hb7)).s.srow (HZ6.out.below (undrew hb7)).p.prow).mono ?_
        rintro e w8 ⟨u1, u2, u3, u4, rfl, hd8, hk8, hb8⟩
        have Y28 : Hid (Bx w8 w3.heap.size (.slice z1 S1.length z2) (.slice z3 ps.length z4)) := Y27.out.keep hb8 Y27.out.lt
        have t8 : Hid (w8.cell? ⟨w3.heap.size, 0, none⟩ = some (.slice z1 S1.length z2) ∧ w8.cell? ⟨w3.heap.size, 1, none⟩ = some (.slice z3 ps.length z4)) := ⟨Y28.out.c0, Y28.out.c1⟩)
     | (go_at_call 33
        refine (HFL2'.out hk8 _ _ _ _ _ hd8.s.srow hd8.p.prow).mono ?_
        rintro e w9 ⟨v1, v2, v3, v4, rfl, hd9, hb9⟩
        have Y29 : Hid (Bx w9 w3.heap.size (.slice z1 S1.length z2) (.slice z3 ps.length z4)) := Y28.out.keep hb9 Y28.out.lt
        have t9 : Hid (w9.cell? ⟨w3.heap.size, 0, none⟩ = some (.slice z1 S1.length z2) ∧ w9.cell? ⟨w3.heap.size, 1, none⟩ = some (.slice z3 ps.length z4)) := ⟨Y29.out.c0, Y29.out.c1⟩
        have B69 : Hid (Below W6.heap.size W6 w9) := (undrew hb7).trans ((hb8.trans (hb9.mono hb8.size)).mono (undrew hb7).size)
        have Y19 : Hid (Bx w9 (w.heap.size + 1) (.slice none 0 0) (.slice none 0 0)) := Y16.out.keep B69.out Y16.out.lt
        have r0 := Y19.out.c0
        have r1 := Y19.out.c1
        have rf := Y19.out.fz)))
   all_goals
    have V9 : Hid (Bx ((w9.setCell ⟨w.heap.size + 1, 0, none⟩ (.slice v1 LP.length v2)).setCell ⟨w.heap.size + 1, 1, none⟩ (.slice v3 ps.length v4)) (w.heap.size + 1) (.slice v1 LP.length v2) (.slice v3 ps.length v4)) := (Y19.out.set0 _).set1 _
    have q0 := V9.out.c0
    have q1 := V9.out.c1
    have HB9 : Hid (Below w.heap.size w w9) := HB6.out.trans (B69.out.mono HB6.out.size)
    have h78 := hb7.size
    have h89 := hb8.size
    have h6d : W6.heap.size ≤ w7.heap.size := (undrew hb7).size
    have HD9 : Hid (DOwn w9 (w.heap.size + 1 + 1) v1 v2 v3 v4 LP ps) := hd9.mono (by omega)
    clear hd9 hb9 hd8 hb8 hb7
    go_wp2
    refine bodyPost_ret (v := .tuple #[.agg #[.slice v1 LP.length v2, .slice v3 ps.length v4], .bool true]) (by simp [results, Tryz.results65, go_sem, q0, q1]) rfl ⟨v1, v2, v3, v4, rfl, ⟨?_, ?_⟩, ?_⟩
    ·exact ((HD9.out.s.set (by show w.heap.size + 1 < _; omega) _).set (by show w.heap.size + 1 < _; omega) _).mono (by omega)
    ·exact ((HD9.out.p.set (by show w.heap.size + 1 < _; omega) _).set (by show w.heap.size + 1 < _; omega) _).mono (by omega)
    ·exact (HB9.out.setCell (by show _ ≤ w.heap.size + 1; omega) _).setCell (by show _ ≤ w.heap.size + 1; omega) _
end Go.Proofs.YtekjpoenbcnhdaaGreat

namespace Go.Proofs.YtekjpoenbcnhdaaGreat
open Go.RowKit
open DM
attribute [local go_sem ↓] Go.wp_at_zero Go.wp_at_succ

set_option maxRecDepth 100000 in
set_option maxHeartbeats 2000000 in
theorem ioth102 (ss : List ByteArray) (ps : List Wr) (a1 a2 : Option Addr) (c1 c2 : Nat) (hn : ss.length ≤ 1048576) (hm : ps.length ≤ 1048576) (hs : ∀ s ∈ ss, s.size ≤ 1048576) (hp : ∀ p ∈ ps, p.2.size ≤ 1048576) (w : World) (hsr : SRow w a1 ss) (hpr : PRow w a2 ps) :
  Calls Tryz.prog 45 #[.agg #[.slice a1 ss.length c1, .slice a2 ps.length c2]] w fun e w' => e = .returned (.int .i64 (1 - act ss ps)) ∧ Below w.heap.size w w' := by
 have hac := isA_iff.1 (act_01 ss ps)
 have HB0 : Hid (Below w.heap.size w (w.alloc (.cells #[.slice a1 ss.length c1, .slice a2 ps.length c2] 27))) := (belowRefl w).alloc (Nat.le_refl _) _
 have HAC : Hid (∀ W : World, Below w.heap.size w W → Calls Tryz.prog 30 #[.agg #[.slice a1 ss.length c1, .slice a2 ps.length c2]] W fun e w' => e = .returned (.int .i64 (act ss ps)) ∧ Below W.heap.size W w') := fun W h => iac26 ss ps a1 a2 c1 c2 (by omega) (by omega) (fun s h => Nat.le_trans (hs s h) (by omega)) (fun p h => Nat.le_trans (hp p h) (by omega)) W (hsr.below h) (hpr.below h)
 clear hs hp hsr hpr
 generalize act ss ps = ac at *
 have hw1 : IntKind.i64.wrap (1 - ac) = 1 - ac := by rw [IntKind.wrap_i64]; omega
 clear hac
 go_enter Tryz.func45, Tryz.ntmps45
 go_wp2_with fail
 refine (HAC.out _ HB0.out).mono ?_
 rintro e w1 ⟨rfl, hb1⟩
 go_wp2
 go_ret
 exact ⟨rfl, HB0.out.trans (hb1.mono HB0.out.size)⟩

set_option maxRecDepth 100000 in
set_option maxHeartbeats 8000000 in
theorem ifill77 (ss : List ByteArray) (ps : List Wr) (ts : List ByteArray) (a1 a2 al : Option Addr) (c1 c2 cl : Nat) (hlog : logB ss ps = true) (htn : ts.length ≤ 1048576) (hts : ∀ t ∈ ts, t.size ≤ 1048576) (w : World) (hsr : SRow w a1 ss) (hpr : PRow w a2 ps) (hl : SRow w al ts) :
  Calls Tryz.prog 43 #[.agg #[.slice a1 ss.length c1, .slice a2 ps.length c2], .slice al ts.length cl] w fun e w' => ((fillO (1 - act ss ps) (zrS ss (1 - act ss ps)) ts).2 = true ∧ ∃ b1 d1 b2 d2, e = .returned (.tuple #[.agg #[.slice b1 (fillO (1 - act ss ps) (zrS ss (1 - act ss ps)) ts).1.length d1, .slice b2 ps.length d2], .bool true]) ∧ DOwn w' w.heap.size b1 d1 b2 d2 (fillO (1 - act ss ps) (zrS ss (1 - act ss ps)) ts).1 ps ∧ Below w.heap.size w w') ∨ ((fillO (1 - act ss ps) (zrS ss (1 - act ss ps)) ts).2 = false ∧ e = .returned (.tuple #[.agg #[.slice none 0 0, .slice none 0 0], .bool false]) ∧ Below w.heap.size w w') := by
 have hlp := logB_parts hlog
 have HO : Hid (OkD ss ps) := okB_iff.1 hlp.1
 have hs100 : ss.length ≤ 100 := HO.out.2.1
 have hpl : ps.length ≤ 60 := HO.out.2.2.1
 have hs0 : ∀ s ∈ ss, s.size ≤ 1048576 := fun s h => by have := HO.out.2.2.2.1 s h; omega
 have hp0 : ∀ p ∈ ps, p.2.size ≤ 1048576 := fun p h => by have := (HO.out.2.2.2.2 p h).2.2; omega
 have hA : isA (1 - act ss ps) = true := oth_A ss ps
 have hac := act_01 ss ps
 obtain ⟨ac, hacE⟩ : ∃ ac, ac = act ss ps := ⟨_, rfl⟩
 rw [← hacE] at hA hac ⊢
 obtain ⟨FF, hFF⟩ : ∃ FF, fillO (1 - ac) (zrS ss (1 - ac)) ts = FF := ⟨_, rfl⟩
 obtain ⟨FS, FB⟩ := FF
 rw [hFF]
 show Calls Tryz.prog 43 #[.agg #[.slice a1 ss.length c1, .slice a2 ps.length c2], .slice al ts.length cl] w fun e w' => (FB = true ∧ ∃ b1 d1 b2 d2, e = .returned (.tuple #[.agg #[.slice b1 FS.length d1, .slice b2 ps.length d2], .bool true]) ∧ DOwn w' w.heap.size b1 d1 b2 d2 FS ps ∧ Below w.heap.size w w') ∨ (FB = false ∧ e = .returned (.tuple #[.agg #[.slice none 0 0, .slice none 0 0], .bool false]) ∧ Below w.heap.size w w')
 obtain ⟨WZ, hWZ⟩ : ∃ WZ, WZ = wb ss (af (1 - ac)).toNat 0 [UInt8.ofNat 0] := ⟨_, rfl⟩
 have hWZk : okB ss WZ = true := by
  have hin := af_in hA
  rw [hWZ]
  exact wb_ok (by rw [← hlp.2.2]; exact hlp.1) _ _ _ (by simp) (by have := hlp.2.1; simp; omega)
 obtain ⟨ZS, hZS⟩ : ∃ ZS, ZS = zrS ss (1 - ac) := ⟨_, rfl⟩
 have HH0 : Hid (Half (1 - ac) ps ts FS FB ZS true 0) := by
  have hz := zr_read (a := 1 - ac) (by rw [← hlp.2.2]; exact hlog) hA
  refine ⟨by rw [hlp.2.2, hZS]; exact hz.2.2, Or.inl ⟨rfl, by rw [hZS, List.drop_zero]; exact hFF⟩⟩
 have HHS : Hid (∀ cur k (hk : k < ts.length), Half (1 - ac) ps ts FS FB cur true k → Half (1 - ac) ps ts FS FB (lpS cur ps (1 - ac) ts[k]) (recB cur ps (1 - ac) ts[k]) (k + 1)) := fun cur k hk h => h.step hlp.2.2 hts hk
 have HAC : Hid (∀ W : World, Below w.heap.size w W → Calls Tryz.prog 45 #[.agg #[.slice a1 ss.length c1, .slice a2 ps.length c2]] W fun e w' => e = .returned (.int .i64 (1 - ac)) ∧ Below W.heap.size W w') := fun W h => by
  rw [hacE]
  exact ioth102 ss ps a1 a2 c1 c2 (by omega) (by omega) hs0 hp0 W (hsr.below h) (hpr.below h)
 have HCZ : Hid (∀ W : World, Below w.heap.size w W → Calls Tryz.prog 32 #[.agg #[.slice a1 ss.length c1, .slice a2 ps.length c2], .int .i64 (1 - ac), .int .i64 0] W fun e w' => ∃ f1 f2 f3 f4, e = .returned (.agg #[.slice f1 ss.length f2, .slice f3 WZ.length f4]) ∧ DOwn w' W.heap.size f1 f2 f3 f4 ss WZ ∧ Below W.heap.size W w') := fun W h => by
  refine (icw73 ss ps (1 - ac) 0 a1 a2 c1 c2 hA hlp.1 hlp.2.2 hlp.2.1 (by omega) W (hsr.below h) (hpr.below h)).mono ?_
  rw [← hWZ]
  rintro e w' ⟨f1, f2, f3, f4, h1, h2, _, h3⟩
  exact ⟨f1, f2, f3, f4, h1, h2, h3⟩
 have HFZ : Hid (∀ (W : World) (x1 : Option Addr) (x2 : Nat) (x3 : Option Addr) (x4 : Nat), SRow W x1 ss → PRow W x3 WZ → Calls Tryz.prog 33 #[.agg #[.slice x1 ss.length x2, .slice x3 WZ.length x4]] W fun e w' => ∃ f1 f2 f3 f4, e = .returned (.agg #[.slice f1 ZS.length f2, .slice f3 ps.length f4]) ∧ DOwn w' W.heap.size f1 f2 f3 f4 ZS ps ∧ Below W.heap.size W w') := fun W x1 x2 x3 x4 h1 h2 => by
  have ho := okB_iff.1 hWZk
  have h3 := iflush19 ss WZ x1 x3 x2 x4 (by omega) (by have := ho.2.2.1; omega) (fun s h => by have := ho.2.2.2.1 s h; omega) (fun p h => by have := (ho.2.2.2.2 p h).2.2; omega) W h1 h2
  rw [flP_yes hWZk, ← hlp.2.2] at h3
  rw [hZS, zrS, ← hWZ]
  exact h3
 have HPU : Hid (∀ (cur : List ByteArray) (t : ByteArray), logB cur ps = true → t.size ≤ 1048576 → ∀ (W : World) (x1 : Option Addr) (x2 : Nat) (x3 : Option Addr) (x4 : Nat), SRow W x1 cur → PRow W x3 ps → Calls Tryz.prog 65 #[.agg #[.slice x1 cur.length x2, .slice x3 ps.length x4], .int .i64 (1 - ac), .string t] W fun e w' => ∃ f1 f2 f3 f4, e = .returned (.tuple #[.agg #[.slice f1 (lpS cur ps (1 - ac) t).length f2, .slice f3 ps.length f4], .bool (recB cur ps (1 - ac) t)]) ∧ DOwn w' W.heap.size f1 f2 f3 f4 (lpS cur ps (1 - ac) t) ps ∧ Below W.heap.size W w') := fun cur t hc ht W x1 x2 x3 x4 h1 h2 => by
  have hlc := logB_parts hc
  have hoc := okB_iff.1 hlc.1
  have h3 := ipr37 cur ps (1 - ac) t x1 x3 x2 x4 (by omega) (by omega) (fun s h => by have := hoc.2.2.2.1 s h; omega) hp0 ht W h1 h2
  have e := prS_lp (a := 1 - ac) (t := t) hc
  rw [e.1, e.2] at h3
  exact h3
 have HL : Hid (SRow w al ts) := hl
 have HTS : Hid (∀ t ∈ ts, t.size ≤ 1048576) := hts
 have b0 : Hid (Below w.heap.size w ((w.alloc (.cells #[.slice a1 ss.length c1, .slice a2 ps.length c2] 27)).alloc (.cells #[.slice none 0 0, .slice none 0 0] 27))) := ((belowRefl w).alloc (Nat.le_refl _) _).alloc (by simp) _
 have X0 : Hid (Bx ((w.alloc (.cells #[.slice a1 ss.length c1, .slice a2 ps.length c2] 27)).alloc (.cells #[.slice none 0 0, .slice none 0 0] 27)) w.heap.size (.slice a1 ss.length c1) (.slice a2 ps.length c2)) := (Bx.new w _ _ _).alloc _
 have X1 : Hid (Bx ((w.alloc (.cells #[.slice a1 ss.length c1, .slice a2 ps.length c2] 27)).alloc (.cells #[.slice none 0 0, .slice none 0 0] 27)) (w.heap.size + 1) (.slice none 0 0) (.slice none 0 0)) := by
  have h := Bx.new (w.alloc (.cells #[.slice a1 ss.length c1, .slice a2 ps.length c2] 27)) (.slice none 0 0) (.slice none 0 0) 27
  rw [World.size_alloc] at h
  exact h
 clear hsr hpr hl hts hlog hlp HO hA hac hFF hWZ hWZk hZS hacE hs0 hp0
 go_enter Tryz.func43, Tryz.ntmps43
 go_wp2_with fail
 refine (HAC.out _ b0.out).mono ?_
 rintro e w1 ⟨rfl, hb1⟩
 have Y01 : Hid (Bx w1 w.heap.size (.slice a1 ss.length c1) (.slice a2 ps.length c2)) := X0.out.keep hb1 X0.out.lt
 have Y11 : Hid (Bx w1 (w.heap.size + 1) (.slice none 0 0) (.slice none 0 0)) := X1.out.keep hb1 X1.out.lt
 have HB1 : Hid (Below w.heap.size w w1) := b0.out.trans (hb1.mono b0.out.size)
 have g01 := Y01.out.c0
 have g11 := Y01.out.c1
 go_wp2_with fail
 refine (HCZ.out _ HB1.out).mono ?_
 rintro e w2 ⟨y1, y2, y3, y4, rfl, hd2, hb2⟩
 have Y02 : Hid (Bx w2 w.heap.size (.slice a1 ss.length c1) (.slice a2 ps.length c2)) := Y01.out.keep hb2 Y01.out.lt
 have Y12 : Hid (Bx w2 (w.heap.size + 1) (.slice none 0 0) (.slice none 0 0)) := Y11.out.keep hb2 Y11.out.lt
 have HB2 : Hid (Below w.heap.size w w2) := HB1.out.trans (hb2.mono HB1.out.size)
 have g02 := Y02.out.c0
 have g12 := Y02.out.c1
 go_wp2_with fail
 refine (HFZ.out _ _ _ _ _ hd2.s.srow hd2.p.prow).mono ?_
 rintro e w3 ⟨z1, z2, z3, z4, rfl, hd3, hb3⟩
 have Y03 : Hid (Bx w3 w.heap.size (.slice a1 ss.length c1) (.slice a2 ps.length c2)) := Y02.out.keep hb3 Y02.out.lt
 have Y13 : Hid (Bx w3 (w.heap.size + 1) (.slice none 0 0) (.slice none 0 0)) := Y12.out.keep hb3 Y12.out.lt
 have HB3 : Hid (Below w.heap.size w w3) := HB2.out.trans (hb3.mono HB2.out.size)
 have g03 := Y03.out.c0
 have g13 := Y03.out.c1
 have V1 : Hid (Bx (w3.alloc (.cells #[.slice z1 ZS.length z2, .slice z3 ps.length z4] 27)) (w.heap.size + 1) (.slice none 0 0) (.slice none 0 0)) := Y13.out.alloc _
 have V2 : Hid (Bx (w3.alloc (.cells #[.slice z1 ZS.length z2, .slice z3 ps.length z4] 27)) w3.heap.size (.slice z1 ZS.length z2) (.slice z3 ps.length z4)) := Bx.new w3 _ _ _
 have VB : Hid (Below w.heap.size w (w3.alloc (.cells #[.slice z1 ZS.length z2, .slice z3 ps.length z4] 27))) := HB3.out.alloc HB3.out.size _
 have VD : Hid (DOwn (w3.alloc (.cells #[.slice z1 ZS.length z2, .slice z3 ps.length z4] 27)) (w.heap.size + 1 + 1) z1 z2 z3 z4 ZS ps) := (hd3.mono Y12.out.lt).below ((belowRefl w3).alloc (Nat.le_refl _) _)
 have VT : Hid (∀ k, (Value.slice z1 ZS.length z2).ownBlock = some k → k ≠ w3.heap.size) := fun k hk => by have := (World.ownsRow.lt hd3.s k hk).2; omega
 have VT2 : Hid (∀ k, (Value.slice z3 ps.length z4).ownBlock = some k → k ≠ w3.heap.size) := fun k hk => by have := (World.ownsRow.lt hd3.p k hk).2; omega
 have hX : w.heap.size + 1 + 1 ≤ w3.heap.size := Y13.out.lt
 clear hd3 hb3 hd2 hb2 hb1 Y01 Y11 HB1 g01 g11 Y02 Y12 HB2 g02 g12 Y03 Y13 HB3 g03 g13
 go_wp2
 generalize w3.heap.size = X at *
 go_loopw [8, 19] (fun tok ti wr => ∃ (k : Nat) (cur : List ByteArray) (x1 : Option Addr) (x2 : Nat) (x3 : Option Addr) (x4 : Nat), k ≤ ts.length ∧ ti = .int .i64 k ∧ tok = .bool true ∧ Hid (Half (1 - ac) ps ts FS FB cur true k) ∧ Hid (Bx wr (w.heap.size + 1) (.slice none 0 0) (.slice none 0 0)) ∧ Hid (Bx wr X (.slice x1 cur.length x2) (.slice x3 ps.length x4)) ∧ Hid (DOwn wr (w.heap.size + 1 + 1) x1 x2 x3 x4 cur ps) ∧ Hid (Below w.heap.size w wr)) (fun _ ti _ => ts.length - (intOf ti).toNat)
 case atStart => exact ⟨0, ZS, z1, z2, z3, z4, Nat.zero_le _, rfl, rfl, HH0, V1, V2, VD, VB⟩
 case round =>
  clear HH0 V1 V2 VD VB VT VT2
  obtain ⟨k, cur, x1, x2, x3, x4, hk, rfl, rfl, HH, Y1, Y2, HX, HB⟩ := hrel
  have k0 := Y2.out.c0
  have k1 := Y2.out.c1
  by_cases hlt : k < ts.length
  ·have hlt' : (k : Int) < (ts.length : Int) := by omega
   have h0 : (0 : Int) ≤ (k : Int) := by omega
   have HN : Hid (Half (1 - ac) ps ts FS FB (lpS cur ps (1 - ac) ts[k]) (recB cur ps (1 - ac) ts[k]) (k + 1)) := HHS.out cur k hlt HH.out
   have HPK : Hid (∀ (W : World) (x1 : Option Addr) (x2 : Nat) (x3 : Option Addr) (x4 : Nat), SRow W x1 cur → PRow W x3 ps → Calls Tryz.prog 65 #[.agg #[.slice x1 cur.length x2, .slice x3 ps.length x4], .int .i64 (1 - ac), .string ts[k]] W fun e w' => ∃ f1 f2 f3 f4, e = .returned (.tuple #[.agg #[.slice f1 (lpS cur ps (1 - ac) ts[k]).length f2, .slice f3 ps.length f4], .bool (recB cur ps (1 - ac) ts[k])]) ∧ DOwn w' W.heap.size f1 f2 f3 f4 (lpS cur ps (1 - ac) ts[k]) ps ∧ Below W.heap.size W w') := HPU.out cur ts[k] HH.out.1 (HTS.out _ (List.getElem_mem hlt))
   obtain ⟨b, off, rfl, hbl, hc⟩ := (HL.out.below HB.out) (by omega)
   have hck := hc k hlt
   clear hc
   generalize lpS cur ps (1 - ac) ts[k] = NS at *
   generalize recB cur ps (1 - ac) ts[k] = NB at *
   go_wp2_with fail
   refine (HPK.out _ _ _ _ _ HX.out.s.srow HX.out.p.prow).mono ?_
   rintro e w5 ⟨u1, u2, u3, u4, rfl, hd5, hb5⟩
   have Y15 : Hid (Bx w5 (w.heap.size + 1) (.slice none 0 0) (.slice none 0 0)) := Y1.out.keep hb5 Y1.out.lt
   have Y25 : Hid (Bx w5 X (.slice x1 cur.length x2) (.slice x3 ps.length x4)) := Y2.out.keep hb5 Y2.out.lt
   have HB5 : Hid (Below w.heap.size w w5) := HB.out.trans (hb5.mono HB.out.size)
   have HD5 : Hid (DOwn w5 (X + 1) u1 u2 u3 u4 NS ps) := hd5.mono Y2.out.lt
   have q0 := Y25.out.c0
   have q1 := Y25.out.c1
   have qf := Y25.out.fz
   have V1 : Hid (Bx ((w5.setCell ⟨X, 0, none⟩ (.slice u1 NS.length u2)).setCell ⟨X, 1, none⟩ (.slice u3 ps.length u4)) (w.heap.size + 1) (.slice none 0 0) (.slice none 0 0)) := (Y15.out.setO (by show X ≠ _; omega) _).setO (by show X ≠ _; omega) _
   have V2 : Hid (Bx ((w5.setCell ⟨X, 0, none⟩ (.slice u1 NS.length u2)).setCell ⟨X, 1, none⟩ (.slice u3 ps.length u4)) X (.slice u1 NS.length u2) (.slice u3 ps.length u4)) := (Y25.out.set0 _).set1 _
   have VB : Hid (Below w.heap.size w ((w5.setCell ⟨X, 0, none⟩ (.slice u1 NS.length u2)).setCell ⟨X, 1, none⟩ (.slice u3 ps.length u4))) := (HB5.out.setCell (by show _ ≤ X; omega) _).setCell (by show _ ≤ X; omega) _
   have VD : Hid (DOwn ((w5.setCell ⟨X, 0, none⟩ (.slice u1 NS.length u2)).setCell ⟨X, 1, none⟩ (.slice u3 ps.length u4)) (w.heap.size + 1 + 1) u1 u2 u3 u4 NS ps) := ⟨((HD5.out.s.set (by show X < _; omega) _).set (by show X < _; omega) _).mono (by omega), ((HD5.out.p.set (by show X < _; omega) _).set (by show X < _; omega) _).mono (by omega)⟩
   clear hck k0 k1 hd5 hb5
   cases NB with
   | true =>
    go_wp2
    go_roundw
    case rel => exact ⟨k + 1, NS, u1, u2, u3, u4, by omega, by go_num, rfl, HN, V1, V2, VD, VB⟩
    case measure => simp [intOf]; omega
   | false =>
    have HE := Half.out HN.out (fun h => by cases h)
    clear VD V2
    have r0 := V1.out.c0
    have r1 := V1.out.c1
    have rf := V1.out.fz
    have V9 : Hid (Bx ((((w5.setCell ⟨X, 0, none⟩ (.slice u1 NS.length u2)).setCell ⟨X, 1, none⟩ (.slice u3 ps.length u4)).setCell ⟨w.heap.size + 1, 0, none⟩ (.slice none 0 0)).setCell ⟨w.heap.size + 1, 1, none⟩ (.slice none 0 0)) (w.heap.size + 1) (.slice none 0 0) (.slice none 0 0)) := (V1.out.set0 _).set1 _
    have q0' := V9.out.c0
    have q1' := V9.out.c1
    go_wp2
    refine bodyPost_ret (v := .tuple #[.agg #[.slice none 0 0, .slice none 0 0], .bool false]) (by simp [results, Tryz.results43, go_sem, q0', q1']) rfl (Or.inr ⟨HE.2, rfl, ?_⟩)
    exact (VB.out.setCell (by show _ ≤ w.heap.size + 1; omega) _).setCell (by show _ ≤ w.heap.size + 1; omega) _
  ·have hlt' : ¬ (k : Int) < (ts.length : Int) := by omega
   have HE := Half.out HH.out (fun h => by omega)
   have HE2 : Hid (FB = true) := HE.2
   obtain rfl := HE.1
   clear HE
   have r0 := Y1.out.c0
   have r1 := Y1.out.c1
   have rf := Y1.out.fz
   have V9 : Hid (Bx ((wr.setCell ⟨w.heap.size + 1, 0, none⟩ (.slice x1 FS.length x2)).setCell ⟨w.heap.size + 1, 1, none⟩ (.slice x3 ps.length x4)) (w.heap.size + 1) (.slice x1 FS.length x2) (.slice x3 ps.length x4)) := (Y1.out.set0 _).set1 _
   have q0 := V9.out.c0
   have q1 := V9.out.c1
   go_wp2
   refine bodyPost_ret (v := .tuple #[.agg #[.slice x1 FS.length x2, .slice x3 ps.length x4], .bool true]) (by simp [results, Tryz.results43, go_sem, q0, q1]) rfl (Or.inl ⟨HE2.out, x1, x2, x3, x4, rfl, ⟨?_, ?_⟩, ?_⟩)
   ·exact ((HX.out.s.set (by show w.heap.size + 1 < _; omega) _).set (by show w.heap.size + 1 < _; omega) _).mono (by omega)
   ·exact ((HX.out.p.set (by show w.heap.size + 1 < _; omega) _).set (by show w.heap.size + 1 < _; omega) _).mono (by omega)
   ·exact (HB.out.setCell (by show _ ≤ w.heap.size + 1; omega) _).setCell (by show _ ≤ w.heap.size + 1; omega) _

end Go.Proofs.YtekjpoenbcnhdaaGreat

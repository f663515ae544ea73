/- What impl.otherFilled returns, of a right log. -/
import Derived.Test.YtekjpoenbcnhdaaPb22
import Derived.Test.YtekjpoenbcnhdaaPb27
namespace Go.Proofs.Ytekjpoenbcnhdaa
open Go.RowKit
open DM
attribute [local go_sem ↓] Go.wp_at_zero Go.wp_at_succ

set_option maxRecDepth 100000 in
set_option maxHeartbeats 2000000 in
theorem ioth102 (ss : List ByteArray) (ps : List Wr) (a1 a2 : Option Addr) (c1 c2 : Nat) (hn : ss.length ≤ 1048576) (hm : ps.length ≤ 1048576) (hs : ∀ s ∈ ss, s.size ≤ 1048576) (hp : ∀ p ∈ ps, p.2.size ≤ 1048576) (w : World) (hsr : SRow w a1 ss) (hpr : PRow w a2 ps) :
    Calls Try.prog 38 #[.agg #[.slice a1 ss.length c1, .slice a2 ps.length c2]] w fun e w' => e = .returned (.int .i64 (1 - act ss ps)) ∧ Below w.heap.size w w' := by
  have hac := isA_iff.1 (act_01 ss ps)
  have HB0 : Hid (Below w.heap.size w (w.alloc (.cells #[.slice a1 ss.length c1, .slice a2 ps.length c2] 27))) := (belowRefl w).alloc (Nat.le_refl _) _
  have HAC : Hid (∀ W : World, Below w.heap.size w W → Calls Try.prog 29 #[.agg #[.slice a1 ss.length c1, .slice a2 ps.length c2]] W fun e w' => e = .returned (.int .i64 (act ss ps)) ∧ Below W.heap.size W w') := fun W h => iac26 ss ps a1 a2 c1 c2 (by omega) (by omega) (fun s h => Nat.le_trans (hs s h) (by omega)) (fun p h => Nat.le_trans (hp p h) (by omega)) W (hsr.below h) (hpr.below h)
  clear hs hp hsr hpr
  generalize act ss ps = ac at *
  have hw1 : IntKind.i64.wrap (1 - ac) = 1 - ac := by rw [IntKind.wrap_i64]; omega
  clear hac
  go_enter Try.func38, Try.ntmps38
  go_wp2_with fail
  refine (HAC.out _ HB0.out).mono ?_
  rintro e w1 ⟨rfl, hb1⟩
  go_wp2
  go_ret
  exact ⟨rfl, HB0.out.trans (hb1.mono HB0.out.size)⟩

set_option maxRecDepth 100000 in
set_option maxHeartbeats 8000000 in
theorem ifill77 (ss : List ByteArray) (ps : List Wr) (ts : List ByteArray) (a1 a2 al : Option Addr) (c1 c2 cl : Nat) (hlog : logB ss ps = true) (htn : ts.length ≤ 1048576) (hts : ∀ t ∈ ts, t.size ≤ 1048576) (w : World) (hsr : SRow w a1 ss) (hpr : PRow w a2 ps) (hl : SRow w al ts) :
    Calls Try.prog 36 #[.agg #[.slice a1 ss.length c1, .slice a2 ps.length c2], .slice al ts.length cl] w fun e w' => ((fillO (1 - act ss ps) (zrS ss (1 - act ss ps)) ts).2 = true ∧ ∃ b1 d1 b2 d2, e = .returned (.tuple #[.agg #[.slice b1 (fillO (1 - act ss ps) (zrS ss (1 - act ss ps)) ts).1.length d1, .slice b2 ps.length d2], .bool true]) ∧ DOwn w' w.heap.size b1 d1 b2 d2 (fillO (1 - act ss ps) (zrS ss (1 - act ss ps)) ts).1 ps ∧ Below w.heap.size w w') ∨ ((fillO (1 - act ss ps) (zrS ss (1 - act ss ps)) ts).2 = false ∧ e = .returned (.tuple #[.agg #[.slice none 0 0, .slice none 0 0], .bool false]) ∧ Below w.heap.size w w') := by
  have hlp := logB_parts hlog
  have HO : Hid (OkD ss ps) := okB_iff.1 hlp.1
  have hs100 : ss.length ≤ 100 := HO.out.2.1
  have hpl : ps.length ≤ 60 := HO.out.2.2.1
  have hs0 : ∀ s ∈ ss, s.size ≤ 1048576 := fun s h => by have := HO.out.2.2.2.1 s h; omega
  have hp0 : ∀ p ∈ ps, p.2.size ≤ 1048576 := fun p h => by have := (HO.out.2.2.2.2 p h).2.2; omega
  have hA : isA (1 - act ss ps) = true := oth_A ss ps
  have hac := act_01 ss ps
  obtain ⟨ac, hacE⟩ : ∃ ac, ac = act ss ps := ⟨_, rfl⟩
  rw [← hacE] at hA hac ⊢
  obtain ⟨FF, hFF⟩ : ∃ FF, fillO (1 - ac) (zrS ss (1 - ac)) ts = FF := ⟨_, rfl⟩
  obtain ⟨FS, FB⟩ := FF
  rw [hFF]
  show Calls Try.prog 36 #[.agg #[.slice a1 ss.length c1, .slice a2 ps.length c2], .slice al ts.length cl] w fun e w' => (FB = true ∧ ∃ b1 d1 b2 d2, e = .returned (.tuple #[.agg #[.slice b1 FS.length d1, .slice b2 ps.length d2], .bool true]) ∧ DOwn w' w.heap.size b1 d1 b2 d2 FS ps ∧ Below w.heap.size w w') ∨ (FB = false ∧ e = .returned (.tuple #[.agg #[.slice none 0 0, .slice none 0 0], .bool false]) ∧ Below w.heap.size w w')
  obtain ⟨WZ, hWZ⟩ : ∃ WZ, WZ = wb ss (af (1 - ac)).toNat 0 [UInt8.ofNat 0] := ⟨_, rfl⟩
  have hWZk : okB ss WZ = true := by
    have hin := af_in hA
    rw [hWZ]
    exact wb_ok (by rw [← hlp.2.2]; exact hlp.1) _ _ _ (by simp) (by have := hlp.2.1; simp; omega)
  obtain ⟨ZS, hZS⟩ : ∃ ZS, ZS = zrS ss (1 - ac) := ⟨_, rfl⟩
  have HH0 : Hid (Half (1 - ac) ps ts FS FB ZS true 0) := by
    have hz := zr_read (a := 1 - ac) (by rw [← hlp.2.2]; exact hlog) hA
    refine ⟨by rw [hlp.2.2, hZS]; exact hz.2.2, Or.inl ⟨rfl, by rw [hZS, List.drop_zero]; exact hFF⟩⟩
  have HHS : Hid (∀ cur k (hk : k < ts.length), Half (1 - ac) ps ts FS FB cur true k → Half (1 - ac) ps ts FS FB (lpS cur ps (1 - ac) ts[k]) (recB cur ps (1 - ac) ts[k]) (k + 1)) := fun cur k hk h => h.step hlp.2.2 hts hk
  have HAC : Hid (∀ W : World, Below w.heap.size w W → Calls Try.prog 38 #[.agg #[.slice a1 ss.length c1, .slice a2 ps.length c2]] W fun e w' => e = .returned (.int .i64 (1 - ac)) ∧ Below W.heap.size W w') := fun W h => by
    rw [hacE]
    exact ioth102 ss ps a1 a2 c1 c2 (by omega) (by omega) hs0 hp0 W (hsr.below h) (hpr.below h)
  have HCZ : Hid (∀ W : World, Below w.heap.size w W → Calls Try.prog 31 #[.agg #[.slice a1 ss.length c1, .slice a2 ps.length c2], .int .i64 (1 - ac), .int .i64 0] W fun e w' => ∃ f1 f2 f3 f4, e = .returned (.agg #[.slice f1 ss.length f2, .slice f3 WZ.length f4]) ∧ DOwn w' W.heap.size f1 f2 f3 f4 ss WZ ∧ Below W.heap.size W w') := fun W h => by
    refine (icw73 ss ps (1 - ac) 0 a1 a2 c1 c2 hA hlp.1 hlp.2.2 hlp.2.1 (by omega) W (hsr.below h) (hpr.below h)).mono ?_
    rw [← hWZ]
    rintro e w' ⟨f1, f2, f3, f4, h1, h2, _, h3⟩
    exact ⟨f1, f2, f3, f4, h1, h2, h3⟩
  have HFZ : Hid (∀ (W : World) (x1 : Option Addr) (x2 : Nat) (x3 : Option Addr) (x4 : Nat), SRow W x1 ss → PRow W x3 WZ → Calls Try.prog 32 #[.agg #[.slice x1 ss.length x2, .slice x3 WZ.length x4]] W fun e w' => ∃ f1 f2 f3 f4, e = .returned (.agg #[.slice f1 ZS.length f2, .slice f3 ps.length f4]) ∧ DOwn w' W.heap.size f1 f2 f3 f4 ZS ps ∧ Below W.heap.size W w') := fun W x1 x2 x3 x4 h1 h2 => by
    have ho := okB_iff.1 hWZk
    have h3 := iflush19 ss WZ x1 x3 x2 x4 (by omega) (by have := ho.2.2.1; omega) (fun s h => by have := ho.2.2.2.1 s h; omega) (fun p h => by have := (ho.2.2.2.2 p h).2.2; omega) W h1 h2
    rw [flP_yes hWZk, ← hlp.2.2] at h3
    rw [hZS, zrS, ← hWZ]
    exact h3
  have HPU : Hid (∀ (cur : List ByteArray) (t : ByteArray), logB cur ps = true → t.size ≤ 1048576 → ∀ (W : World) (x1 : Option Addr) (x2 : Nat) (x3 : Option Addr) (x4 : Nat), SRow W x1 cur → PRow W x3 ps → Calls Try.prog 53 #[.agg #[.slice x1 cur.length x2, .slice x3 ps.length x4], .int .i64 (1 - ac), .string t] W fun e w' => ∃ f1 f2 f3 f4, e = .returned (.tuple #[.agg #[.slice f1 (lpS cur ps (1 - ac) t).length f2, .slice f3 ps.length f4], .bool (recB cur ps (1 - ac) t)]) ∧ DOwn w' W.heap.size f1 f2 f3 f4 (lpS cur ps (1 - ac) t) ps ∧ Below W.heap.size W w') := fun cur t hc ht W x1 x2 x3 x4 h1 h2 => by
    have hlc := logB_parts hc
    have hoc := okB_iff.1 hlc.1
    have h3 := ipr37 cur ps (1 - ac) t x1 x3 x2 x4 (by omega) (by omega) (fun s h => by have := hoc.2.2.2.1 s h; omega) hp0 ht W h1 h2
    have e := prS_lp (a := 1 - ac) (t := t) hc
    rw [e.1, e.2] at h3
    exact h3
  have HL : Hid (SRow w al ts) := hl
  have HTS : Hid (∀ t ∈ ts, t.size ≤ 1048576) := hts
  have b0 : Hid (Below w.heap.size w ((w.alloc (.cells #[.slice a1 ss.length c1, .slice a2 ps.length c2] 27)).alloc (.cells #[.slice none 0 0, .slice none 0 0] 27))) := ((belowRefl w).alloc (Nat.le_refl _) _).alloc (by simp) _
  have X0 : Hid (Bx ((w.alloc (.cells #[.slice a1 ss.length c1, .slice a2 ps.length c2] 27)).alloc (.cells #[.slice none 0 0, .slice none 0 0] 27)) w.heap.size (.slice a1 ss.length c1) (.slice a2 ps.length c2)) := (Bx.new w _ _ _).alloc _
  have X1 : Hid (Bx ((w.alloc (.cells #[.slice a1 ss.length c1, .slice a2 ps.length c2] 27)).alloc (.cells #[.slice none 0 0, .slice none 0 0] 27)) (w.heap.size + 1) (.slice none 0 0) (.slice none 0 0)) := by
    have h := Bx.new (w.alloc (.cells #[.slice a1 ss.length c1, .slice a2 ps.length c2] 27)) (.slice none 0 0) (.slice none 0 0) 27
    rw [World.size_alloc] at h
    exact h
  clear hsr hpr hl hts hlog hlp HO hA hac hFF hWZ hWZk hZS hacE hs0 hp0
  go_enter Try.func36, Try.ntmps36
  go_wp2_with fail
  refine (HAC.out _ b0.out).mono ?_
  rintro e w1 ⟨rfl, hb1⟩
  have Y01 : Hid (Bx w1 w.heap.size (.slice a1 ss.length c1) (.slice a2 ps.length c2)) := X0.out.keep hb1 X0.out.lt
  have Y11 : Hid (Bx w1 (w.heap.size + 1) (.slice none 0 0) (.slice none 0 0)) := X1.out.keep hb1 X1.out.lt
  have HB1 : Hid (Below w.heap.size w w1) := b0.out.trans (hb1.mono b0.out.size)
  have g01 := Y01.out.c0
  have g11 := Y01.out.c1
  go_wp2_with fail
  refine (HCZ.out _ HB1.out).mono ?_
  rintro e w2 ⟨y1, y2, y3, y4, rfl, hd2, hb2⟩
  have Y02 : Hid (Bx w2 w.heap.size (.slice a1 ss.length c1) (.slice a2 ps.length c2)) := Y01.out.keep hb2 Y01.out.lt
  have Y12 : Hid (Bx w2 (w.heap.size + 1) (.slice none 0 0) (.slice none 0 0)) := Y11.out.keep hb2 Y11.out.lt
  have HB2 : Hid (Below w.heap.size w w2) := HB1.out.trans (hb2.mono HB1.out.size)
  have g02 := Y02.out.c0
  have g12 := Y02.out.c1
  go_wp2_with fail
  refine (HFZ.out _ _ _ _ _ hd2.s.srow hd2.p.prow).mono ?_
  rintro e w3 ⟨z1, z2, z3, z4, rfl, hd3, hb3⟩
  have Y03 : Hid (Bx w3 w.heap.size (.slice a1 ss.length c1) (.slice a2 ps.length c2)) := Y02.out.keep hb3 Y02.out.lt
  have Y13 : Hid (Bx w3 (w.heap.size + 1) (.slice none 0 0) (.slice none 0 0)) := Y12.out.keep hb3 Y12.out.lt
  have HB3 : Hid (Below w.heap.size w w3) := HB2.out.trans (hb3.mono HB2.out.size)
  have g03 := Y03.out.c0
  have g13 := Y03.out.c1
  have V1 : Hid (Bx (w3.alloc (.cells #[.slice z1 ZS.length z2, .slice z3 ps.length z4] 27)) (w.heap.size + 1) (.slice none 0 0) (.slice none 0 0)) := Y13.out.alloc _
  have V2 : Hid (Bx (w3.alloc (.cells #[.slice z1 ZS.length z2, .slice z3 ps.length z4] 27)) w3.heap.size (.slice z1 ZS.length z2) (.slice z3 ps.length z4)) := Bx.new w3 _ _ _
  have VB : Hid (Below w.heap.size w (w3.alloc (.cells #[.slice z1 ZS.length z2, .slice z3 ps.length z4] 27))) := HB3.out.alloc HB3.out.size _
  have VD : Hid (DOwn (w3.alloc (.cells #[.slice z1 ZS.length z2, .slice z3 ps.length z4] 27)) (w.heap.size + 1 + 1) z1 z2 z3 z4 ZS ps) := (hd3.mono Y12.out.lt).below ((belowRefl w3).alloc (Nat.le_refl _) _)
  have VT : Hid (∀ k, (Value.slice z1 ZS.length z2).ownBlock = some k → k ≠ w3.heap.size) := fun k hk => by have := (World.ownsRow.lt hd3.s k hk).2; omega
  have VT2 : Hid (∀ k, (Value.slice z3 ps.length z4).ownBlock = some k → k ≠ w3.heap.size) := fun k hk => by have := (World.ownsRow.lt hd3.p k hk).2; omega
  have hX : w.heap.size + 1 + 1 ≤ w3.heap.size := Y13.out.lt
  clear hd3 hb3 hd2 hb2 hb1 Y01 Y11 HB1 g01 g11 Y02 Y12 HB2 g02 g12 Y03 Y13 HB3 g03 g13
  go_wp2
  generalize w3.heap.size = X at *
  go_loopw [8, 19] (fun tok ti wr => ∃ (k : Nat) (cur : List ByteArray) (x1 : Option Addr) (x2 : Nat) (x3 : Option Addr) (x4 : Nat), k ≤ ts.length ∧ ti = .int .i64 k ∧ tok = .bool true ∧ Hid (Half (1 - ac) ps ts FS FB cur true k) ∧ Hid (Bx wr (w.heap.size + 1) (.slice none 0 0) (.slice none 0 0)) ∧ Hid (Bx wr X (.slice x1 cur.length x2) (.slice x3 ps.length x4)) ∧ Hid (DOwn wr (w.heap.size + 1 + 1) x1 x2 x3 x4 cur ps) ∧ Hid (Below w.heap.size w wr)) (fun _ ti _ => ts.length - (intOf ti).toNat)
  case atStart => exact ⟨0, ZS, z1, z2, z3, z4, Nat.zero_le _, rfl, rfl, HH0, V1, V2, VD, VB⟩
  case round =>
    clear HH0 V1 V2 VD VB VT VT2
    obtain ⟨k, cur, x1, x2, x3, x4, hk, rfl, rfl, HH, Y1, Y2, HX, HB⟩ := hrel
    have k0 := Y2.out.c0
    have k1 := Y2.out.c1
    by_cases hlt : k < ts.length
    · have hlt' : (k : Int) < (ts.length : Int) := by omega
      have h0 : (0 : Int) ≤ (k : Int) := by omega
      have HN : Hid (Half (1 - ac) ps ts FS FB (lpS cur ps (1 - ac) ts[k]) (recB cur ps (1 - ac) ts[k]) (k + 1)) := HHS.out cur k hlt HH.out
      have HPK : Hid (∀ (W : World) (x1 : Option Addr) (x2 : Nat) (x3 : Option Addr) (x4 : Nat), SRow W x1 cur → PRow W x3 ps → Calls Try.prog 53 #[.agg #[.slice x1 cur.length x2, .slice x3 ps.length x4], .int .i64 (1 - ac), .string ts[k]] W fun e w' => ∃ f1 f2 f3 f4, e = .returned (.tuple #[.agg #[.slice f1 (lpS cur ps (1 - ac) ts[k]).length f2, .slice f3 ps.length f4], .bool (recB cur ps (1 - ac) ts[k])]) ∧ DOwn w' W.heap.size f1 f2 f3 f4 (lpS cur ps (1 - ac) ts[k]) ps ∧ Below W.heap.size W w') := HPU.out cur ts[k] HH.out.1 (HTS.out _ (List.getElem_mem hlt))
      obtain ⟨b, off, rfl, hbl, hc⟩ := (HL.out.below HB.out) (by omega)
      have hck := hc k hlt
      clear hc
      generalize lpS cur ps (1 - ac) ts[k] = NS at *
      generalize recB cur ps (1 - ac) ts[k] = NB at *
      go_wp2_with fail
      refine (HPK.out _ _ _ _ _ HX.out.s.srow HX.out.p.prow).mono ?_
      rintro e w5 ⟨u1, u2, u3, u4, rfl, hd5, hb5⟩
      have Y15 : Hid (Bx w5 (w.heap.size + 1) (.slice none 0 0) (.slice none 0 0)) := Y1.out.keep hb5 Y1.out.lt
      have Y25 : Hid (Bx w5 X (.slice x1 cur.length x2) (.slice x3 ps.length x4)) := Y2.out.keep hb5 Y2.out.lt
      have HB5 : Hid (Below w.heap.size w w5) := HB.out.trans (hb5.mono HB.out.size)
      have HD5 : Hid (DOwn w5 (X + 1) u1 u2 u3 u4 NS ps) := hd5.mono Y2.out.lt
      have q0 := Y25.out.c0
      have q1 := Y25.out.c1
      have qf := Y25.out.fz
      have V1 : Hid (Bx ((w5.setCell ⟨X, 0, none⟩ (.slice u1 NS.length u2)).setCell ⟨X, 1, none⟩ (.slice u3 ps.length u4)) (w.heap.size + 1) (.slice none 0 0) (.slice none 0 0)) := (Y15.out.setO (by show X ≠ _; omega) _).setO (by show X ≠ _; omega) _
      have V2 : Hid (Bx ((w5.setCell ⟨X, 0, none⟩ (.slice u1 NS.length u2)).setCell ⟨X, 1, none⟩ (.slice u3 ps.length u4)) X (.slice u1 NS.length u2) (.slice u3 ps.length u4)) := (Y25.out.set0 _).set1 _
      have VB : Hid (Below w.heap.size w ((w5.setCell ⟨X, 0, none⟩ (.slice u1 NS.length u2)).setCell ⟨X, 1, none⟩ (.slice u3 ps.length u4))) := (HB5.out.setCell (by show _ ≤ X; omega) _).setCell (by show _ ≤ X; omega) _
      have VD : Hid (DOwn ((w5.setCell ⟨X, 0, none⟩ (.slice u1 NS.length u2)).setCell ⟨X, 1, none⟩ (.slice u3 ps.length u4)) (w.heap.size + 1 + 1) u1 u2 u3 u4 NS ps) := ⟨((HD5.out.s.set (by show X < _; omega) _).set (by show X < _; omega) _).mono (by omega), ((HD5.out.p.set (by show X < _; omega) _).set (by show X < _; omega) _).mono (by omega)⟩
      clear hck k0 k1 hd5 hb5
      cases NB with
      | true =>
        go_wp2
        go_roundw
        case rel => exact ⟨k + 1, NS, u1, u2, u3, u4, by omega, by go_num, rfl, HN, V1, V2, VD, VB⟩
        case measure => simp [intOf]; omega
      | false =>
        have HE := Half.out HN.out (fun h => by cases h)
        clear VD V2
        have r0 := V1.out.c0
        have r1 := V1.out.c1
        have rf := V1.out.fz
        have V9 : Hid (Bx ((((w5.setCell ⟨X, 0, none⟩ (.slice u1 NS.length u2)).setCell ⟨X, 1, none⟩ (.slice u3 ps.length u4)).setCell ⟨w.heap.size + 1, 0, none⟩ (.slice none 0 0)).setCell ⟨w.heap.size + 1, 1, none⟩ (.slice none 0 0)) (w.heap.size + 1) (.slice none 0 0) (.slice none 0 0)) := (V1.out.set0 _).set1 _
        have q0' := V9.out.c0
        have q1' := V9.out.c1
        go_wp2
        refine bodyPost_ret (v := .tuple #[.agg #[.slice none 0 0, .slice none 0 0], .bool false]) (by simp [results, Try.results36, go_sem, q0', q1']) rfl (Or.inr ⟨HE.2, rfl, ?_⟩)
        exact (VB.out.setCell (by show _ ≤ w.heap.size + 1; omega) _).setCell (by show _ ≤ w.heap.size + 1; omega) _
    · have hlt' : ¬ (k : Int) < (ts.length : Int) := by omega
      have HE := Half.out HH.out (fun h => by omega)
      have HE2 : Hid (FB = true) := HE.2
      obtain rfl := HE.1
      clear HE
      have r0 := Y1.out.c0
      have r1 := Y1.out.c1
      have rf := Y1.out.fz
      have V9 : Hid (Bx ((wr.setCell ⟨w.heap.size + 1, 0, none⟩ (.slice x1 FS.length x2)).setCell ⟨w.heap.size + 1, 1, none⟩ (.slice x3 ps.length x4)) (w.heap.size + 1) (.slice x1 FS.length x2) (.slice x3 ps.length x4)) := (Y1.out.set0 _).set1 _
      have q0 := V9.out.c0
      have q1 := V9.out.c1
      go_wp2
      refine bodyPost_ret (v := .tuple #[.agg #[.slice x1 FS.length x2, .slice x3 ps.length x4], .bool true]) (by simp [results, Try.results36, go_sem, q0, q1]) rfl (Or.inl ⟨HE2.out, x1, x2, x3, x4, rfl, ⟨?_, ?_⟩, ?_⟩)
      · exact ((HX.out.s.set (by show w.heap.size + 1 < _; omega) _).set (by show w.heap.size + 1 < _; omega) _).mono (by omega)
      · exact ((HX.out.p.set (by show w.heap.size + 1 < _; omega) _).set (by show w.heap.size + 1 < _; omega) _).mono (by omega)
      · exact (HB.out.setCell (by show _ ≤ w.heap.size + 1; omega) _).setCell (by show _ ≤ w.heap.size + 1; omega) _

end Go.Proofs.Ytekjpoenbcnhdaa

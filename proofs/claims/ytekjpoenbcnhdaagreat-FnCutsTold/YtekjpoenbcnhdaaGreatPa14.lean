/- What impl.WriteBytes returns, of a right disk with nothing waiting, within its sectors. -/
import Derived.Test.YtekjpoenbcnhdaaGreatPa01
import Derived.Test.YtekjpoenbcnhdaaGreatPa13
namespace Go.Proofs.YtekjpoenbcnhdaaGreat
open Go.RowKit
open DM
attribute [local go_sem ↓] Go.wp_at_zero Go.wp_at_succ

def szOf : Value → Nat
 | .string r => r.size
 | _ => 0

theorem pl109 (s a : Nat) (hs : s ≤ 100000) (ha : a ≤ 100000) (w : World) :
  Calls Tryz.prog 95 #[.int .i64 (s : Int), .int .i64 (a : Int)] w fun e w' => e = .returned (.agg #[.int .i64 ((s + a / 64 : Nat) : Int), .int .i64 ((a % 64 : Nat) : Int)]) ∧ Below w.heap.size w w' := by
 have HE1 : Hid ((s : Int) + (a : Int) / 64 = ((s + a / 64 : Nat) : Int)) := by show _ = _; simp
 have HE2 : Hid ((a : Int) % 64 = ((a % 64 : Nat) : Int)) := by show _ = _; simp
 go_enter Tryz.func95, Tryz.ntmps95
 go_wp2
 refine bodyPost_ret (v := .agg #[.int .i64 ((s : Int) + (a : Int) / 64), .int .i64 ((a : Int) % 64)]) (by simp [results, Tryz.results95, go_sem]) rfl ⟨by rw [HE1.out, HE2.out], (belowRefl w).alloc (Nat.le_refl _) _⟩

set_option maxRecDepth 100000 in
set_option maxHeartbeats 60000000 in
theorem iwb98 (ss : List ByteArray) (ps : List Wr) (k0 at' : Nat) (t : ByteArray) (a1 a2 : Option Addr) (c1 c2 : Nat) (hok : okB ss ps = true) (hps : ps = []) (hk0 : k0 + 47 ≤ ss.length) (hat : at' + t.size ≤ 3008) (w : World) (hs : SRow w a1 ss) (hp : PRow w a2 ps) :
  Calls Tryz.prog 69 #[.agg #[.slice a1 ss.length c1, .slice a2 ps.length c2], .int .i64 (k0 : Int), .int .i64 (at' : Int), .string t] w fun e w' => ∃ b1 d1 b2 d2, e = .returned (.tuple #[.agg #[.slice b1 ss.length d1, .slice b2 (wb ss k0 at' t.data.toList).length d2], .bool true]) ∧ DOwn w' w.heap.size b1 d1 b2 d2 ss (wb ss k0 at' t.data.toList) ∧ okB ss (wb ss k0 at' t.data.toList) = true ∧ Below w.heap.size w w' := by
 have HOK : Hid (okB ss ps = true) := hok
 have HO : Hid (OkD ss ps) := okB_iff.1 hok
 have hs100 : ss.length ≤ 100 := HO.out.2.1
 have HHS : Hid (hasB (k0 : Int) ss.length = true) := hasB_iff.2 ⟨by omega, by omega⟩
 have hpl : ps.length ≤ 100 := by rw [hps]; simp
 have HSR : Hid (SRow w a1 ss) := hs
 have HPR : Hid (PRow w a2 ps) := hp
 have HLS : Hid (∀ s ∈ ss, s.size ≤ 1000000000) := fun s h => by have := HO.out.2.2.2.1 s h; omega
 have HLP : Hid (∀ p ∈ ps, p.2.size ≤ 1000000000) := fun p h => by have := (HO.out.2.2.2.2 p h).2.2; omega
 have HW0 : Hid (wbGo ss k0 t.size ps (at' + 0) (t.data.toList.drop 0) = (wb ss k0 at' t.data.toList)) := by
  have e : t.data.toList.length = t.size := by simp
  show _ = _
  unfold wb
  rw [hps, e]; rfl
 have HF0 : Hid ((t.data.toList.drop 0).length ≤ t.size) := by show _ ≤ _; simp
 have HJ0 : Hid (0 < t.size → ps.length ≤ (at' + 0) / 64) := fun _ => by rw [hps]; exact Nat.zero_le _
 obtain ⟨p1, hp1⟩ : ∃ p1, p1 = k0 + at' / 64 := ⟨_, rfl⟩
 obtain ⟨p2, hp2⟩ : ∃ p2, p2 = at' % 64 := ⟨_, rfl⟩
 obtain ⟨EK, hEK⟩ : ∃ EK, EK = k0 + (at' + t.size) / 64 := ⟨_, rfl⟩
 obtain ⟨EF, hEF⟩ : ∃ EF, EF = (at' + t.size) % 64 := ⟨_, rfl⟩
 have HP1 : Hid (p1 = k0 + (at' + 0) / 64) := hp1
 have HP2 : Hid (p2 = (at' + 0) % 64) := hp2
 have HEK : Hid (EK = k0 + (at' + t.size) / 64) := hEK
 have HEF : Hid (EF = (at' + t.size) % 64) := hEF
 have HPL1 : Hid (∀ W : World, Calls Tryz.prog 95 #[.int .i64 (k0 : Int), .int .i64 (at' : Int)] W fun e w' => e = .returned (.agg #[.int .i64 (p1 : Int), .int .i64 (p2 : Int)]) ∧ Below W.heap.size W w') := fun W => by
  have h := pl109 k0 at' (by omega) (by omega) W
  rw [← hp1, ← hp2] at h
  exact h
 have HPL2 : Hid (∀ W : World, Calls Tryz.prog 95 #[.int .i64 (k0 : Int), .int .i64 ((at' : Int) + (t.size : Int))] W fun e w' => e = .returned (.agg #[.int .i64 (EK : Int), .int .i64 (EF : Int)]) ∧ Below W.heap.size W w') := fun W => by
  have h := pl109 k0 (at' + t.size) (by omega) (by omega) W
  rw [show ((at' + t.size : Nat) : Int) = (at' : Int) + (t.size : Int) by omega, ← hEK, ← hEF] at h
  exact h
 have b0 : Hid (Below w.heap.size w ((w.alloc (.cells #[.slice a1 ss.length c1, .slice a2 ps.length c2] 27)).alloc (.cells #[.slice none 0 0, .slice none 0 0] 27))) := ((belowRefl w).alloc (Nat.le_refl _) _).alloc (by simp) _
 have X0 : Hid (Bx ((w.alloc (.cells #[.slice a1 ss.length c1, .slice a2 ps.length c2] 27)).alloc (.cells #[.slice none 0 0, .slice none 0 0] 27)) w.heap.size (.slice a1 ss.length c1) (.slice a2 ps.length c2)) := (Bx.new w _ _ _).alloc _
 have X1 : Hid (Bx ((w.alloc (.cells #[.slice a1 ss.length c1, .slice a2 ps.length c2] 27)).alloc (.cells #[.slice none 0 0, .slice none 0 0] 27)) (w.heap.size + 1) (.slice none 0 0) (.slice none 0 0)) := by
  have h := Bx.new (w.alloc (.cells #[.slice a1 ss.length c1, .slice a2 ps.length c2] 27)) (.slice none 0 0) (.slice none 0 0) 27
  show Bx _ _ _ _
  simpa using h
 clear hps hs hp hok hp1 hp2 hEK hEF
 generalize (wb ss k0 at' t.data.toList) = WB at *
 have hat1 : decide ((at' : Int) < 0) = false := by simp
 have hat2 : decide ((6400 : Int) < (at' : Int)) = false := by simp; omega
 go_enter Tryz.func69, Tryz.ntmps69
 go_wp2_with fail
 refine (has58 _ _ _ _ _ true HHS.out _).mono ?_
 rintro e w1 ⟨rfl, hb1⟩
 have Y0 : Hid (Bx w1 w.heap.size (.slice a1 ss.length c1) (.slice a2 ps.length c2)) := X0.out.keep hb1 X0.out.lt
 have Y1 : Hid (Bx w1 (w.heap.size + 1) (.slice none 0 0) (.slice none 0 0)) := X1.out.keep hb1 X1.out.lt
 have HB1 : Hid (Below w.heap.size w w1) := b0.out.trans (hb1.mono b0.out.size)
 clear hb1 X0 X1 b0
 have g0 := Y0.out.c0
 have g1 := Y0.out.c1
 go_wp2_with fail
 refine (copy53 ss ps a1 a2 c1 c2 (by omega) (by omega) HLS.out HLP.out _ (HSR.out.below HB1.out) (HPR.out.below HB1.out)).mono ?_
 rintro e w2 ⟨b1, d1, b2, d2, rfl, hd2, hb2⟩
 have Z0 : Hid (Bx (w2.alloc (.cells #[.slice b1 ss.length d1, .slice b2 ps.length d2] 27)) w.heap.size (.slice a1 ss.length c1) (.slice a2 ps.length c2)) := (Y0.out.keep hb2 Y0.out.lt).alloc _
 have Z1 : Hid (Bx (w2.alloc (.cells #[.slice b1 ss.length d1, .slice b2 ps.length d2] 27)) (w.heap.size + 1) (.slice none 0 0) (.slice none 0 0)) := (Y1.out.keep hb2 Y1.out.lt).alloc _
 have Z2 : Hid (Bx (w2.alloc (.cells #[.slice b1 ss.length d1, .slice b2 ps.length d2] 27)) w2.heap.size (.slice b1 ss.length d1) (.slice b2 ps.length d2)) := Bx.new _ _ _ _
 have hz1 : w.heap.size + 1 + 1 ≤ w1.heap.size := Y1.out.lt
 have hz2 : w1.heap.size ≤ w2.heap.size := hb2.size
 have HD2 : Hid (DOwn (w2.alloc (.cells #[.slice b1 ss.length d1, .slice b2 ps.length d2] 27)) (w.heap.size + 1 + 1) b1 d1 b2 d2 ss ps) := ⟨(hd2.s.alloc _).mono hz1, (hd2.p.alloc _).mono hz1⟩
 have HU1 : Hid (∀ k, (Value.slice b1 ss.length d1).ownBlock = some k → k < w2.heap.size) := fun k hk => (World.ownsRow.lt hd2.s k hk).2
 have HU2 : Hid (∀ k, (Value.slice b2 ps.length d2).ownBlock = some k → k < w2.heap.size) := fun k hk => (World.ownsRow.lt hd2.p k hk).2
 have HB2 : Hid (Below w.heap.size w (w2.alloc (.cells #[.slice b1 ss.length d1, .slice b2 ps.length d2] 27))) := (HB1.out.trans (hb2.mono HB1.out.size)).alloc (by omega) _
 clear hd2 hb2 Y0 Y1 g0 g1
 go_wp2_with fail
 refine (HPL1.out _).mono ?_
 rintro e w3 ⟨rfl, hb3⟩
 have U0 : Hid (Bx w3 w.heap.size (.slice a1 ss.length c1) (.slice a2 ps.length c2)) := Z0.out.keep hb3 Z0.out.lt
 have U1 : Hid (Bx w3 (w.heap.size + 1) (.slice none 0 0) (.slice none 0 0)) := Z1.out.keep hb3 Z1.out.lt
 have U2 : Hid (Bx w3 w2.heap.size (.slice b1 ss.length d1) (.slice b2 ps.length d2)) := Z2.out.keep hb3 Z2.out.lt
 have HD3 : Hid (DOwn w3 (w.heap.size + 1 + 1) b1 d1 b2 d2 ss ps) := HD2.out.below hb3
 have HB3 : Hid (Below w.heap.size w w3) := HB2.out.trans (hb3.mono HB2.out.size)
 clear hb3 Z0 Z1 Z2 HD2 HB2
 go_wp2_with fail
 refine (HPL2.out _).mono ?_
 rintro e w4 ⟨rfl, hb4⟩
 have V0 : Hid (Bx ((w4.alloc (.cells #[.int .i64 (p1 : Int), .int .i64 (p2 : Int)] 104)).alloc (.cells #[.int .i64 (EK : Int), .int .i64 (EF : Int)] 104)) w.heap.size (.slice a1 ss.length c1) (.slice a2 ps.length c2)) := ((U0.out.keep hb4 U0.out.lt).alloc _).alloc _
 have V1 : Hid (Bx ((w4.alloc (.cells #[.int .i64 (p1 : Int), .int .i64 (p2 : Int)] 104)).alloc (.cells #[.int .i64 (EK : Int), .int .i64 (EF : Int)] 104)) (w.heap.size + 1) (.slice none 0 0) (.slice none 0 0)) := ((U1.out.keep hb4 U1.out.lt).alloc _).alloc _
 have V2 : Hid (Bx ((w4.alloc (.cells #[.int .i64 (p1 : Int), .int .i64 (p2 : Int)] 104)).alloc (.cells #[.int .i64 (EK : Int), .int .i64 (EF : Int)] 104)) w2.heap.size (.slice b1 ss.length d1) (.slice b2 ps.length d2)) := ((U2.out.keep hb4 U2.out.lt).alloc _).alloc _
 have VH : Hid (Bx ((w4.alloc (.cells #[.int .i64 (p1 : Int), .int .i64 (p2 : Int)] 104)).alloc (.cells #[.int .i64 (EK : Int), .int .i64 (EF : Int)] 104)) w4.heap.size (.int .i64 ((k0 + (at' + 0) / 64 : Nat) : Int)) (.int .i64 (((at' + 0) % 64 : Nat) : Int))) := by
  show Bx _ _ _ _
  rw [← HP1.out, ← HP2.out]
  exact (Bx.new w4 _ _ 104).alloc _
 have VE : Hid (Bx ((w4.alloc (.cells #[.int .i64 (p1 : Int), .int .i64 (p2 : Int)] 104)).alloc (.cells #[.int .i64 (EK : Int), .int .i64 (EF : Int)] 104)) (w4.heap.size + 1) (.int .i64 (EK : Int)) (.int .i64 (EF : Int))) := by
  have h := Bx.new (w4.alloc (.cells #[.int .i64 (p1 : Int), .int .i64 (p2 : Int)] 104)) (.int .i64 (EK : Int)) (.int .i64 (EF : Int)) 104
  rw [World.size_alloc] at h
  exact h
 have HD5 : Hid (DOwn ((w4.alloc (.cells #[.int .i64 (p1 : Int), .int .i64 (p2 : Int)] 104)).alloc (.cells #[.int .i64 (EK : Int), .int .i64 (EF : Int)] 104)) (w.heap.size + 1 + 1) b1 d1 b2 d2 ss ps) := (HD3.out.below hb4).below (((belowRefl w4).alloc (Nat.le_refl _) _).alloc (by simp) _)
 have HB5 : Hid (Below w.heap.size w ((w4.alloc (.cells #[.int .i64 (p1 : Int), .int .i64 (p2 : Int)] 104)).alloc (.cells #[.int .i64 (EK : Int), .int .i64 (EF : Int)] 104))) := ((HB3.out.trans (hb4.mono HB3.out.size)).alloc (by have := HB3.out.size; have := hb4.size; omega) _).alloc (by simp; have := HB3.out.size; have := hb4.size; omega) _
 have hXH : w2.heap.size < w4.heap.size := (U2.out.keep hb4 U2.out.lt).lt
 have hXA : w.heap.size + 1 + 1 ≤ w2.heap.size := by omega
 generalize w2.heap.size = X at *
 generalize hHH : w4.heap.size = HH at *
 have HN0 : Hid (∀ k, ((Value.slice b1 ss.length d1).ownBlock = some k ∨ (Value.slice b2 ps.length d2).ownBlock = some k) → k ≠ X ∧ k ≠ HH ∧ k ≠ HH + 1) := fun k hk => by
  have : k < X := by
   rcases hk with h | h
   ·exact HU1.out k h
   ·exact HU2.out k h
  omega
 clear hb4 U0 U1 U2 HD3 HB3 HB1 HU1 HU2
 go_wp2
 go_loopw [3, 11] (fun tr tk wr => ∃ (i f : Nat) (r : ByteArray) (cur : List Wr) (b1 : Option Addr) (d1 : Nat) (b2 : Option Addr) (d2 : Nat), i ≤ t.size ∧ tr = .string r ∧ tk = .bool true ∧ Hid (r.data.toList = t.data.toList.drop i) ∧ Hid (wbGo ss k0 f cur (at' + i) (t.data.toList.drop i) = WB) ∧ Hid ((t.data.toList.drop i).length ≤ f) ∧ Hid (i < t.size → cur.length ≤ (at' + i) / 64) ∧ Hid (okB ss cur = true) ∧ Hid (Below w.heap.size w wr) ∧ Hid (Bx wr w.heap.size (.slice a1 ss.length c1) (.slice a2 ps.length c2)) ∧ Hid (Bx wr (w.heap.size + 1) (.slice none 0 0) (.slice none 0 0)) ∧ Hid (Bx wr X (.slice b1 ss.length d1) (.slice b2 cur.length d2)) ∧ Hid (Bx wr HH (.int .i64 ((k0 + (at' + i) / 64 : Nat) : Int)) (.int .i64 (((at' + i) % 64 : Nat) : Int))) ∧ Hid (Bx wr (HH + 1) (.int .i64 (EK : Int)) (.int .i64 (EF : Int))) ∧ Hid (DOwn wr (w.heap.size + 1 + 1) b1 d1 b2 d2 ss cur) ∧ Hid (∀ k, ((Value.slice b1 ss.length d1).ownBlock = some k ∨ (Value.slice b2 cur.length d2).ownBlock = some k) → k ≠ X ∧ k ≠ HH ∧ k ≠ HH + 1)) (fun tr _ _ => szOf tr)
 case atStart => exact ⟨0, t.size, t, ps, b1, d1, b2, d2, Nat.zero_le _, rfl, rfl, rfl, HW0, HF0, HJ0, HOK, HB5, V0, V1, V2, VH, VE, HD5, HN0⟩
 case round =>
  clear HW0 HF0 HJ0 HOK HB5 V0 V1 V2 VH VE HD5 HN0 hHH
  obtain ⟨i, f, r, cur, b1, d1, b2, d2, hi, rfl, rfl, HR, HW, HF, HJ, HOKc, HB, V0, V1, V2, VH, VE, HDc, HNc⟩ := hrel
  have x0 := V2.out.c0
  have x1 := V2.out.c1
  have h0 := VH.out.c0
  have h1 := VH.out.c1
  have n0 := VE.out.c0
  have n1 := VE.out.c1
  obtain ⟨K, hK⟩ : ∃ K, K = k0 + (at' + i) / 64 := ⟨_, rfl⟩
  obtain ⟨fr, hfr⟩ : ∃ fr, fr = (at' + i) % 64 := ⟨_, rfl⟩
  have hEK := HEK.out
  have hEF := HEF.out
  rw [← hK] at h0 VH
  rw [← hfr] at h1 VH
  have ers : r.data.toList.length = r.size := by simp
  have ets : t.data.toList.length = t.size := by simp
  have hrs : r.size = t.size - i := by rw [← ers, HR.out, List.length_drop, ets]
  by_cases hlt : i < t.size
  ·have hcond : K = EK → ¬ fr = EF := by omega
   have hKs : K < ss.length := by omega
   have hcl : cur.length ≤ 46 := by have := HJ.out hlt; omega
   have HHAS : Hid (hasB (K : Int) ss.length = true) := hasB_iff.2 ⟨by omega, by omega⟩
   obtain ⟨was, hwas⟩ : ∃ was, was = rdR ss cur (K : Int) := ⟨_, rfl⟩
   have hws : was.size = 64 := by rw [hwas]; exact rdR_is64 (okB_iff.1 HOKc.out) HHAS.out
   have HWAS : Hid (rdR ss cur (K : Int) = was) := hwas.symm
   have HL : Hid ((bv was.data.toList).length = 64) := len64 hws
   have HRD : Hid (∀ (W : World), DOwn W (w.heap.size + 1 + 1) b1 d1 b2 d2 ss cur → Calls Tryz.prog 90 #[.agg #[.slice b1 ss.length d1, .slice b2 cur.length d2], .int .i64 (K : Int)] W fun e w' => e = .returned (.tuple #[.string was, .bool true]) ∧ Below W.heap.size W w') := fun W hW => by
    have h := ird21_any ss cur (K : Int) b1 b2 d1 d2 (by omega) (by omega) HLS.out (fun p hp => by have := ((okB_iff.1 HOKc.out).2.2.2.2 p hp).2.2; omega) W hW.s.srow hW.p.prow
    rw [HHAS.out, HWAS.out] at h
    exact h
   have hfl : fr < 64 := by omega
   obtain ⟨n, hn0⟩ : ∃ n, n = min (64 - fr) r.size := ⟨_, rfl⟩
   have hnmin : n = min r.size (64 - fr) := by omega
   have ewl : was.data.toList.length = 64 := by
    have e : was.data.toList.length = was.size := by simp
    omega
   have hfit : fr + n ≤ was.data.toList.length := by omega
   have hnp : 0 < n := by omega
   have hne : (t.data.toList.drop i) ≠ [] := fun e => by
    have := congrArg List.length e
    rw [List.length_drop] at this
    simp at this
    omega
   have htk : (t.data.toList.drop i).take (64 - (at' + i) % 64) = (t.data.toList.drop i).take n := by
    by_cases hc : 64 - fr ≤ r.size
    ·rw [show 64 - (at' + i) % 64 = n by omega]
    ·rw [List.take_of_length_le (by rw [List.length_drop]; omega), List.take_of_length_le (by rw [List.length_drop]; omega)]
   have hdp : (t.data.toList.drop i).drop (64 - (at' + i) % 64) = t.data.toList.drop (i + n) := by
    rw [List.drop_drop]
    by_cases hc : 64 - fr ≤ r.size
    ·rw [show i + (64 - (at' + i) % 64) = i + n by omega]
    ·rw [List.drop_eq_nil_of_le (by omega), List.drop_eq_nil_of_le (by omega)]
   have hmn : at' + i + min (64 - (at' + i) % 64) (t.data.toList.drop i).length = at' + (i + n) := by rw [List.length_drop]; omega
   obtain ⟨f2, hf2, hw2⟩ := wbGo_step HW.out hne HF.out
   rw [htk, hdp, hmn, ← hK, HWAS.out, ← hfr] at hw2
   rw [hdp] at hf2
   have HW2 : Hid (wbGo ss k0 f2 (cur ++ [((K : Int), spl was fr ((t.data.toList.drop i).take n))]) (at' + (i + n)) (t.data.toList.drop (i + n)) = WB) := hw2
   have HF2 : Hid ((t.data.toList.drop (i + n)).length ≤ f2) := hf2
   have HJ2 : Hid (i + n < t.size → (cur ++ [((K : Int), spl was fr ((t.data.toList.drop i).take n))]).length ≤ (at' + (i + n)) / 64) := fun h => by
    have := HJ.out hlt
    rw [List.length_append]
    simp only [List.length_cons, List.length_nil]
    omega
   have hnl : ((t.data.toList.drop i).take n).length = n := by rw [List.length_take, List.length_drop]; omega
   have HTX : Hid ((⟨(was.data.toList.take fr ++ r.data.toList.take n ++ was.data.toList.drop (fr + n)).toArray⟩ : ByteArray) = spl was fr ((t.data.toList.drop i).take n)) := by
    show _ = _
    unfold spl
    rw [hnl, HR.out]
   obtain ⟨L', hL'⟩ : ∃ L', L' = (was.data.toList.take fr ++ r.data.toList.take n ++ was.data.toList.drop (fr + n)) := ⟨_, rfl⟩
   have HLP : Hid ((was.data.toList.take fr ++ r.data.toList.take n ++ was.data.toList.drop (fr + n)) = L') := hL'.symm
   have HLP64 : Hid (L'.length = 64) := by
    show _ = _
    rw [hL', List.length_append, List.length_append, List.length_take, List.length_take, List.length_drop]
    omega
   rw [← hL'] at HTX
   have hsz : (spl was fr ((t.data.toList.drop i).take n)).size = 64 := by
    rw [spl_size _ _ _ (by rw [hnl, hws]; omega), hws]
   have HOK2 : Hid (okB ss (cur ++ [((K : Int), spl was fr ((t.data.toList.drop i).take n))]) = true) := (okB_snoc ss cur _ _).2 ⟨HOKc.out, ⟨by omega, by omega⟩, hsz, by omega⟩
   have HIW : Hid (∀ (W : World), DOwn W (w.heap.size + 1 + 1) b1 d1 b2 d2 ss cur → Calls Tryz.prog 97 #[.agg #[.slice b1 ss.length d1, .slice b2 cur.length d2], .int .i64 (K : Int), .string ⟨L'.toArray⟩] W fun e w' => ∃ y1 y2 y3 y4, e = .returned (.tuple #[.agg #[.slice y1 ss.length y2, .slice y3 (cur ++ [((K : Int), spl was fr ((t.data.toList.drop i).take n))]).length y4], .bool true]) ∧ DOwn w' W.heap.size y1 y2 y3 y4 ss (cur ++ [((K : Int), spl was fr ((t.data.toList.drop i).take n))]) ∧ Below W.heap.size W w') := fun W hW => by
    have h := iws18 ss cur (K : Int) ⟨L'.toArray⟩ b1 b2 d1 d2 (by omega) (by omega) HLS.out (fun p hp => by have := ((okB_iff.1 HOKc.out).2.2.2.2 p hp).2.2; omega) (by rw [HTX.out, hsz]; omega) W hW.s.srow hW.p.prow
    rw [HTX.out, HOK2.out, wsP_yes HOK2.out] at h
    rw [HTX.out]
    exact h
   obtain ⟨nk, hnk⟩ : ∃ nk, nk = K + (fr + n) / 64 := ⟨_, rfl⟩
   obtain ⟨nf, hnf⟩ : ∃ nf, nf = (fr + n) % 64 := ⟨_, rfl⟩
   have HPL : Hid (∀ W : World, Calls Tryz.prog 95 #[.int .i64 (K : Int), .int .i64 ((fr : Int) + (n : Int))] W fun e w' => e = .returned (.agg #[.int .i64 (nk : Int), .int .i64 (nf : Int)]) ∧ Below W.heap.size W w') := fun W => by
    have h := pl109 K (fr + n) (by omega) (by omega) W
    rw [show ((fr + n : Nat) : Int) = (fr : Int) + (n : Int) by omega, ← hnk, ← hnf] at h
    exact h
   have HK2 : Hid (nk = k0 + (at' + (i + n)) / 64) := by show _ = _; omega
   have HF3 : Hid (nf = (at' + (i + n)) % 64) := by show _ = _; omega
   have hfn : fr + n ≤ 64 := by omega
   have hnr : n ≤ r.size := by omega
   have hin : i + n ≤ t.size := by omega
   have HR2 : Hid ((r.extract n r.size).data.toList = t.data.toList.drop (i + n)) := by
    show _ = _
    rw [Lib.extract_data, List.take_of_length_le (by rw [List.length_drop]; omega), HR.out, List.drop_drop]
   have hf0 : (0 : Int) ≤ (fr : Int) := by omega
   have hf1 : (fr : Int) ≤ 64 := by omega
   have hn1 : (0 : Int) ≤ (n : Int) := by omega
   have hn2 : (n : Int) ≤ (r.size : Int) := by omega
   have hfn1 : IntKind.i64.wrap ((fr : Int) + (n : Int)) = (fr : Int) + (n : Int) := by rw [IntKind.wrap_i64]; omega
   have hXw : w.heap.size + 1 + 1 ≤ X := hXA
   have HNM : Hid (n = min r.size (64 - fr)) := hnmin
   clear hnk hnf hK hfr hEK hEF hwas HHAS hn0 hnmin hne htk hdp hmn hf2 hw2 hnl hL' hsz ewl ers ets hrs HW HF HJ
   by_cases hKE : K = EK
   ·have hFE : ¬ (fr : Int) = (EF : Int) := by have := hcond hKE; omega
    clear hcond
    obtain rfl : EK = K := hKE.symm
    go_wp2_with fail
    refine (HRD.out _ HDc.out).mono ?_
    rintro e w5 ⟨rfl, hb5⟩
    have HB5 : Hid (Below w.heap.size w w5) := HB.out.trans (hb5.mono HB.out.size)
    have U0 : Hid (Bx w5 w.heap.size (.slice a1 ss.length c1) (.slice a2 ps.length c2)) := V0.out.keep hb5 V0.out.lt
    have U1 : Hid (Bx w5 (w.heap.size + 1) (.slice none 0 0) (.slice none 0 0)) := V1.out.keep hb5 V1.out.lt
    have U2 : Hid (Bx w5 X (.slice b1 ss.length d1) (.slice b2 cur.length d2)) := V2.out.keep hb5 V2.out.lt
    have UH : Hid (Bx w5 HH (.int .i64 (EK : Int)) (.int .i64 (fr : Int))) := VH.out.keep hb5 VH.out.lt
    have UE : Hid (Bx w5 (HH + 1) (.int .i64 (EK : Int)) (.int .i64 (EF : Int))) := VE.out.keep hb5 VE.out.lt
    have HD5 : Hid (DOwn w5 (w.heap.size + 1 + 1) b1 d1 b2 d2 ss cur) := HDc.out.below hb5
    clear hb5 x0 x1 h0 h1 n0 n1 V0 V1 V2 VH VE HDc HB HRD
    go_wp2_with fail
    refine (sec68 was hws _).mono ?_
    rintro e w6 ⟨rfl, hb6⟩
    have HB6 : Hid (Below w.heap.size w w6) := HB5.out.trans (hb6.mono HB5.out.size)
    have T0 : Hid (Bx w6 w.heap.size (.slice a1 ss.length c1) (.slice a2 ps.length c2)) := U0.out.keep hb6 U0.out.lt
    have T1 : Hid (Bx w6 (w.heap.size + 1) (.slice none 0 0) (.slice none 0 0)) := U1.out.keep hb6 U1.out.lt
    have T2 : Hid (Bx w6 X (.slice b1 ss.length d1) (.slice b2 cur.length d2)) := U2.out.keep hb6 U2.out.lt
    have TH : Hid (Bx w6 HH (.int .i64 (EK : Int)) (.int .i64 (fr : Int))) := UH.out.keep hb6 UH.out.lt
    have TE : Hid (Bx w6 (HH + 1) (.int .i64 (EK : Int)) (.int .i64 (EF : Int))) := UE.out.keep hb6 UE.out.lt
    have HD6 : Hid (DOwn w6 (w.heap.size + 1 + 1) b1 d1 b2 d2 ss cur) := HD5.out.below hb6
    clear hb6 U0 U1 U2 UH UE HD5 HB5
    have SH : Hid (Bx (w6.alloc (.cells (bv was.data.toList).toArray 107)) HH (.int .i64 (EK : Int)) (.int .i64 (fr : Int))) := TH.out.alloc _
    have q1 := SH.out.c1
    go_wp2
    rw [run_store_new (bv was.data.toList) HL.out (bv_one _)]
    ·go_wp2
     rw [run_copy_min w6 107 _ fr (64 - fr) _ n r was.data.toList HNM.out hfit]
     have S0 : Hid (Bx (w6.alloc (.cells (bv L').toArray 107)) w.heap.size (.slice a1 ss.length c1) (.slice a2 ps.length c2)) := T0.out.alloc _
     have S1 : Hid (Bx (w6.alloc (.cells (bv L').toArray 107)) (w.heap.size + 1) (.slice none 0 0) (.slice none 0 0)) := T1.out.alloc _
     have S2 : Hid (Bx (w6.alloc (.cells (bv L').toArray 107)) X (.slice b1 ss.length d1) (.slice b2 cur.length d2)) := T2.out.alloc _
     have SH2 : Hid (Bx (w6.alloc (.cells (bv L').toArray 107)) HH (.int .i64 (EK : Int)) (.int .i64 (fr : Int))) := TH.out.alloc _
     have SE : Hid (Bx (w6.alloc (.cells (bv L').toArray 107)) (HH + 1) (.int .i64 (EK : Int)) (.int .i64 (EF : Int))) := TE.out.alloc _
     have HD7 : Hid (DOwn (w6.alloc (.cells (bv L').toArray 107)) (w.heap.size + 1 + 1) b1 d1 b2 d2 ss cur) := HD6.out.below ((belowRefl w6).alloc (Nat.le_refl _) _)
     have HB7 : Hid (Below w.heap.size w (w6.alloc (.cells (bv L').toArray 107))) := HB6.out.alloc HB6.out.size _
     rw [HLP.out]
     have hcv := conv64 w6 L' HLP64.out
     have x0 := S2.out.c0
     have x1 := S2.out.c1
     have xf := S2.out.fz
     have h0 := SH2.out.c0
     have h1 := SH2.out.c1
     clear q1 SH
     go_wp2
     go_region_law (first
      | (go_simp; go_at_call 97; refine (HIW.out _ (HD7.out.below (belowRefl _).drew)).mono ?_; rintro e w8 ⟨y1, y2, y3, y4, rfl, hd8, hb8⟩; have R2 : Hid (Bx w8 X (.slice b1 ss.length d1) (.slice b2 cur.length d2)) := S2.out.keep (undrew hb8) S2.out.lt; have r0 := R2.out.c0; have r1 := R2.out.c1; have rf := R2.out.fz))
     all_goals
      have hb8' : Below (w6.alloc (.cells (bv L').toArray 107)).heap.size (w6.alloc (.cells (bv L').toArray 107)) w8 := undrew hb8
      have EL : Hid ((cur ++ [((EK : Int), spl was fr ((t.data.toList.drop i).take n))]).length = cur.length + 1) := by show _ = _; simp
      have hsz8 : w6.heap.size + 1 ≤ w8.heap.size := by have := hb8'.size; simp at this; omega
      have hXl : X < w6.heap.size := T2.out.lt
      have hHl : HH + 1 < w6.heap.size := TE.out.lt
      have HD8 : Hid (DOwn w8 (w6.heap.size + 1) y1 y2 y3 y4 ss (cur ++ [((EK : Int), spl was fr ((t.data.toList.drop i).take n))])) := hd8.mono (by simp)
      have HO1 : Hid (∀ k, (Value.slice y1 ss.length y2).ownBlock = some k → w6.heap.size + 1 ≤ k) := fun k hk => (World.ownsRow.lt HD8.out.s k hk).1
      have HO2 : Hid (∀ k, (Value.slice y3 (cur ++ [((EK : Int), spl was fr ((t.data.toList.drop i).take n))]).length y4).ownBlock = some k → w6.heap.size + 1 ≤ k) := fun k hk => (World.ownsRow.lt HD8.out.p k hk).1
      have hO3 : (Value.slice y1 ss.length y2).ownBlock ≠ some X := fun e => by have := HO1.out X e; omega
      have hO4 : (Value.slice y3 (cur ++ [((EK : Int), spl was fr ((t.data.toList.drop i).take n))]).length y4).ownBlock ≠ some X := fun e => by have := HO2.out X e; omega
      have hO5 : (Value.slice y1 ss.length y2).ownBlock ≠ some HH := fun e => by have := HO1.out HH e; omega
      have hO6 : (Value.slice y3 (cur ++ [((EK : Int), spl was fr ((t.data.toList.drop i).take n))]).length y4).ownBlock ≠ some HH := fun e => by have := HO2.out HH e; omega
      have hX0 : X ≠ w.heap.size := by omega
      have hX1 : X ≠ w.heap.size + 1 := by omega
      have hXH1 : X ≠ HH := by omega
      have hXH2 : X ≠ HH + 1 := by omega
      have hH0 : HH ≠ w.heap.size := by omega
      have hH1 : HH ≠ w.heap.size + 1 := by omega
      have hHX : HH ≠ X := by omega
      have hHE : HH ≠ HH + 1 := by omega
      have P0 : Hid (Bx ((w8.setCell ⟨X, 0, none⟩ (.slice y1 ss.length y2)).setCell ⟨X, 1, none⟩ (.slice y3 (cur.length + 1) y4)) w.heap.size (.slice a1 ss.length c1) (.slice a2 ps.length c2)) := ((S0.out.keep hb8' S0.out.lt).setO hX0 _).setO hX0 _
      have P1 : Hid (Bx ((w8.setCell ⟨X, 0, none⟩ (.slice y1 ss.length y2)).setCell ⟨X, 1, none⟩ (.slice y3 (cur.length + 1) y4)) (w.heap.size + 1) (.slice none 0 0) (.slice none 0 0)) := ((S1.out.keep hb8' S1.out.lt).setO hX1 _).setO hX1 _
      have P2 : Hid (Bx ((w8.setCell ⟨X, 0, none⟩ (.slice y1 ss.length y2)).setCell ⟨X, 1, none⟩ (.slice y3 (cur.length + 1) y4)) X (.slice y1 ss.length y2) (.slice y3 (cur.length + 1) y4)) := (R2.out.set0 _).set1 _
      have PH : Hid (Bx ((w8.setCell ⟨X, 0, none⟩ (.slice y1 ss.length y2)).setCell ⟨X, 1, none⟩ (.slice y3 (cur.length + 1) y4)) HH (.int .i64 (EK : Int)) (.int .i64 (fr : Int))) := ((SH2.out.keep hb8' SH2.out.lt).setO hXH1 _).setO hXH1 _
      have PE : Hid (Bx ((w8.setCell ⟨X, 0, none⟩ (.slice y1 ss.length y2)).setCell ⟨X, 1, none⟩ (.slice y3 (cur.length + 1) y4)) (HH + 1) (.int .i64 (EK : Int)) (.int .i64 (EF : Int))) := ((SE.out.keep hb8' SE.out.lt).setO hXH2 _).setO hXH2 _
      have HD9 : Hid (DOwn ((w8.setCell ⟨X, 0, none⟩ (.slice y1 ss.length y2)).setCell ⟨X, 1, none⟩ (.slice y3 (cur.length + 1) y4)) (w6.heap.size + 1) y1 y2 y3 y4 ss (cur ++ [((EK : Int), spl was fr ((t.data.toList.drop i).take n))])) := ⟨own_set (own_set HD8.out.s hO3) hO3, own_set (own_set HD8.out.p hO4) hO4⟩
      have HB9 : Hid (Below w.heap.size w ((w8.setCell ⟨X, 0, none⟩ (.slice y1 ss.length y2)).setCell ⟨X, 1, none⟩ (.slice y3 (cur.length + 1) y4))) := ((HB7.out.trans (hb8'.mono HB7.out.size)).setCell (by show w.heap.size ≤ X; omega) _).setCell (by show w.heap.size ≤ X; omega) _
      clear hd8 hb8 hb8' R2 r0 r1 rf x0 x1 xf h0 h1 S0 S1 S2 SH2 SE HD7 HB7 hcv T0 T1 T2 TH TE HD6 HB6 HD8
      generalize ((w8.setCell ⟨X, 0, none⟩ (.slice y1 ss.length y2)).setCell ⟨X, 1, none⟩ (.slice y3 (cur.length + 1) y4)) = wv at *
      have h0 := PH.out.c0
      have h1 := PH.out.c1
      go_wp2
      go_region_law (first
       | (go_simp; go_at_call 95; refine (HPL.out _).mono ?_; rintro e w10 ⟨rfl, hb10⟩; have QH : Hid (Bx w10 HH (.int .i64 (EK : Int)) (.int .i64 (fr : Int))) := PH.out.keep (undrew hb10) PH.out.lt; have r0 := QH.out.c0; have r1 := QH.out.c1; have rf := QH.out.fz))
      all_goals
       have hb10' : Below wv.heap.size wv w10 := undrew hb10
       have F0 : Hid (Bx ((w10.setCell ⟨HH, 0, none⟩ (.int .i64 (nk : Int))).setCell ⟨HH, 1, none⟩ (.int .i64 (nf : Int))) w.heap.size (.slice a1 ss.length c1) (.slice a2 ps.length c2)) := ((P0.out.keep hb10' P0.out.lt).setO hH0 _).setO hH0 _
       have F1 : Hid (Bx ((w10.setCell ⟨HH, 0, none⟩ (.int .i64 (nk : Int))).setCell ⟨HH, 1, none⟩ (.int .i64 (nf : Int))) (w.heap.size + 1) (.slice none 0 0) (.slice none 0 0)) := ((P1.out.keep hb10' P1.out.lt).setO hH1 _).setO hH1 _
       have F2 : Hid (Bx ((w10.setCell ⟨HH, 0, none⟩ (.int .i64 (nk : Int))).setCell ⟨HH, 1, none⟩ (.int .i64 (nf : Int))) X (.slice y1 ss.length y2) (.slice y3 (cur ++ [((EK : Int), spl was fr ((t.data.toList.drop i).take n))]).length y4)) := by
        show Bx _ _ _ _
        rw [EL.out]
        exact ((P2.out.keep hb10' P2.out.lt).setO hHX _).setO hHX _
       have FH : Hid (Bx ((w10.setCell ⟨HH, 0, none⟩ (.int .i64 (nk : Int))).setCell ⟨HH, 1, none⟩ (.int .i64 (nf : Int))) HH (.int .i64 ((k0 + (at' + (i + n)) / 64 : Nat) : Int)) (.int .i64 (((at' + (i + n)) % 64 : Nat) : Int))) := by
        have h := (QH.out.set0 (.int .i64 (nk : Int))).set1 (.int .i64 (nf : Int))
        show Bx _ _ _ _
        rw [← HK2.out, ← HF3.out]
        exact h
       have FE : Hid (Bx ((w10.setCell ⟨HH, 0, none⟩ (.int .i64 (nk : Int))).setCell ⟨HH, 1, none⟩ (.int .i64 (nf : Int))) (HH + 1) (.int .i64 (EK : Int)) (.int .i64 (EF : Int))) := ((PE.out.keep hb10' PE.out.lt).setO (a := ⟨HH, 0, none⟩) hHE _).setO (a := ⟨HH, 1, none⟩) hHE _
       have FD : Hid (DOwn ((w10.setCell ⟨HH, 0, none⟩ (.int .i64 (nk : Int))).setCell ⟨HH, 1, none⟩ (.int .i64 (nf : Int))) (w.heap.size + 1 + 1) y1 y2 y3 y4 ss (cur ++ [((EK : Int), spl was fr ((t.data.toList.drop i).take n))])) := DOwn.mono (base := w6.heap.size + 1) ⟨own_set (own_set (SOwn.below HD9.out.s hb10') hO5) hO5, own_set (own_set (POwn.below HD9.out.p hb10') hO6) hO6⟩ (by omega)
       have FB : Hid (Below w.heap.size w ((w10.setCell ⟨HH, 0, none⟩ (.int .i64 (nk : Int))).setCell ⟨HH, 1, none⟩ (.int .i64 (nf : Int)))) := ((HB9.out.trans (hb10'.mono HB9.out.size)).setCell (by show w.heap.size ≤ HH; omega) _).setCell (by show w.heap.size ≤ HH; omega) _
       have FN : Hid (∀ k, ((Value.slice y1 ss.length y2).ownBlock = some k ∨ (Value.slice y3 (cur ++ [((EK : Int), spl was fr ((t.data.toList.drop i).take n))]).length y4).ownBlock = some k) → k ≠ X ∧ k ≠ HH ∧ k ≠ HH + 1) := fun k hk => by
        have : w6.heap.size + 1 ≤ k := by
         rcases hk with h | h
         ·exact HO1.out k h
         ·exact HO2.out k h
        omega
       clear hb10 hb10' QH r0 r1 rf h0 h1 P0 P1 P2 PH PE HD9 HB9
       simp only [Act.put, tA, tC, tB, tD, tE, tF]
       go_wp2
       go_roundw
       case rel => exact ⟨i + n, f2, r.extract n r.size, _, y1, y2, y3, y4, hin, rfl, rfl, HR2, HW2, HF2, HJ2, HOK2, FB, F0, F1, F2, FH, FE, FD, FN⟩
       case measure =>
        show (r.extract n r.size).size < r.size
        simp
        omega
    ·simp
    ·rfl
   ·clear hcond
    have hKE' : ¬ (K : Int) = (EK : Int) := by omega
    go_wp2_with fail
    refine (HRD.out _ HDc.out).mono ?_
    rintro e w5 ⟨rfl, hb5⟩
    have HB5 : Hid (Below w.heap.size w w5) := HB.out.trans (hb5.mono HB.out.size)
    have U0 : Hid (Bx w5 w.heap.size (.slice a1 ss.length c1) (.slice a2 ps.length c2)) := V0.out.keep hb5 V0.out.lt
    have U1 : Hid (Bx w5 (w.heap.size + 1) (.slice none 0 0) (.slice none 0 0)) := V1.out.keep hb5 V1.out.lt
    have U2 : Hid (Bx w5 X (.slice b1 ss.length d1) (.slice b2 cur.length d2)) := V2.out.keep hb5 V2.out.lt
    have UH : Hid (Bx w5 HH (.int .i64 (K : Int)) (.int .i64 (fr : Int))) := VH.out.keep hb5 VH.out.lt
    have UE : Hid (Bx w5 (HH + 1) (.int .i64 (EK : Int)) (.int .i64 (EF : Int))) := VE.out.keep hb5 VE.out.lt
    have HD5 : Hid (DOwn w5 (w.heap.size + 1 + 1) b1 d1 b2 d2 ss cur) := HDc.out.below hb5
    clear hb5 x0 x1 h0 h1 n0 n1 V0 V1 V2 VH VE HDc HB HRD
    go_wp2_with fail
    refine (sec68 was hws _).mono ?_
    rintro e w6 ⟨rfl, hb6⟩
    have HB6 : Hid (Below w.heap.size w w6) := HB5.out.trans (hb6.mono HB5.out.size)
    have T0 : Hid (Bx w6 w.heap.size (.slice a1 ss.length c1) (.slice a2 ps.length c2)) := U0.out.keep hb6 U0.out.lt
    have T1 : Hid (Bx w6 (w.heap.size + 1) (.slice none 0 0) (.slice none 0 0)) := U1.out.keep hb6 U1.out.lt
    have T2 : Hid (Bx w6 X (.slice b1 ss.length d1) (.slice b2 cur.length d2)) := U2.out.keep hb6 U2.out.lt
    have TH : Hid (Bx w6 HH (.int .i64 (K : Int)) (.int .i64 (fr : Int))) := UH.out.keep hb6 UH.out.lt
    have TE : Hid (Bx w6 (HH + 1) (.int .i64 (EK : Int)) (.int .i64 (EF : Int))) := UE.out.keep hb6 UE.out.lt
    have HD6 : Hid (DOwn w6 (w.heap.size + 1 + 1) b1 d1 b2 d2 ss cur) := HD5.out.below hb6
    clear hb6 U0 U1 U2 UH UE HD5 HB5
    have SH : Hid (Bx (w6.alloc (.cells (bv was.data.toList).toArray 107)) HH (.int .i64 (K : Int)) (.int .i64 (fr : Int))) := TH.out.alloc _
    have q1 := SH.out.c1
    go_wp2
    rw [run_store_new (bv was.data.toList) HL.out (bv_one _)]
    ·go_wp2
     rw [run_copy_min w6 107 _ fr (64 - fr) _ n r was.data.toList HNM.out hfit]
     have S0 : Hid (Bx (w6.alloc (.cells (bv L').toArray 107)) w.heap.size (.slice a1 ss.length c1) (.slice a2 ps.length c2)) := T0.out.alloc _
     have S1 : Hid (Bx (w6.alloc (.cells (bv L').toArray 107)) (w.heap.size + 1) (.slice none 0 0) (.slice none 0 0)) := T1.out.alloc _
     have S2 : Hid (Bx (w6.alloc (.cells (bv L').toArray 107)) X (.slice b1 ss.length d1) (.slice b2 cur.length d2)) := T2.out.alloc _
     have SH2 : Hid (Bx (w6.alloc (.cells (bv L').toArray 107)) HH (.int .i64 (K : Int)) (.int .i64 (fr : Int))) := TH.out.alloc _
     have SE : Hid (Bx (w6.alloc (.cells (bv L').toArray 107)) (HH + 1) (.int .i64 (EK : Int)) (.int .i64 (EF : Int))) := TE.out.alloc _
     have HD7 : Hid (DOwn (w6.alloc (.cells (bv L').toArray 107)) (w.heap.size + 1 + 1) b1 d1 b2 d2 ss cur) := HD6.out.below ((belowRefl w6).alloc (Nat.le_refl _) _)
     have HB7 : Hid (Below w.heap.size w (w6.alloc (.cells (bv L').toArray 107))) := HB6.out.alloc HB6.out.size _
     rw [HLP.out]
     have hcv := conv64 w6 L' HLP64.out
     have x0 := S2.out.c0
     have x1 := S2.out.c1
     have xf := S2.out.fz
     have h0 := SH2.out.c0
     have h1 := SH2.out.c1
     clear q1 SH
     go_wp2
     go_region_law (first
      | (go_simp; go_at_call 97; refine (HIW.out _ (HD7.out.below (belowRefl _).drew)).mono ?_; rintro e w8 ⟨y1, y2, y3, y4, rfl, hd8, hb8⟩; have R2 : Hid (Bx w8 X (.slice b1 ss.length d1) (.slice b2 cur.length d2)) := S2.out.keep (undrew hb8) S2.out.lt; have r0 := R2.out.c0; have r1 := R2.out.c1; have rf := R2.out.fz))
     all_goals
      have hb8' : Below (w6.alloc (.cells (bv L').toArray 107)).heap.size (w6.alloc (.cells (bv L').toArray 107)) w8 := undrew hb8
      have EL : Hid ((cur ++ [((K : Int), spl was fr ((t.data.toList.drop i).take n))]).length = cur.length + 1) := by show _ = _; simp
      have hsz8 : w6.heap.size + 1 ≤ w8.heap.size := by have := hb8'.size; simp at this; omega
      have hXl : X < w6.heap.size := T2.out.lt
      have hHl : HH + 1 < w6.heap.size := TE.out.lt
      have HD8 : Hid (DOwn w8 (w6.heap.size + 1) y1 y2 y3 y4 ss (cur ++ [((K : Int), spl was fr ((t.data.toList.drop i).take n))])) := hd8.mono (by simp)
      have HO1 : Hid (∀ k, (Value.slice y1 ss.length y2).ownBlock = some k → w6.heap.size + 1 ≤ k) := fun k hk => (World.ownsRow.lt HD8.out.s k hk).1
      have HO2 : Hid (∀ k, (Value.slice y3 (cur ++ [((K : Int), spl was fr ((t.data.toList.drop i).take n))]).length y4).ownBlock = some k → w6.heap.size + 1 ≤ k) := fun k hk => (World.ownsRow.lt HD8.out.p k hk).1
      have hO3 : (Value.slice y1 ss.length y2).ownBlock ≠ some X := fun e => by have := HO1.out X e; omega
      have hO4 : (Value.slice y3 (cur ++ [((K : Int), spl was fr ((t.data.toList.drop i).take n))]).length y4).ownBlock ≠ some X := fun e => by have := HO2.out X e; omega
      have hO5 : (Value.slice y1 ss.length y2).ownBlock ≠ some HH := fun e => by have := HO1.out HH e; omega
      have hO6 : (Value.slice y3 (cur ++ [((K : Int), spl was fr ((t.data.toList.drop i).take n))]).length y4).ownBlock ≠ some HH := fun e => by have := HO2.out HH e; omega
      have hX0 : X ≠ w.heap.size := by omega
      have hX1 : X ≠ w.heap.size + 1 := by omega
      have hXH1 : X ≠ HH := by omega
      have hXH2 : X ≠ HH + 1 := by omega
      have hH0 : HH ≠ w.heap.size := by omega
      have hH1 : HH ≠ w.heap.size + 1 := by omega
      have hHX : HH ≠ X := by omega
      have hHE : HH ≠ HH + 1 := by omega
      have P0 : Hid (Bx ((w8.setCell ⟨X, 0, none⟩ (.slice y1 ss.length y2)).setCell ⟨X, 1, none⟩ (.slice y3 (cur.length + 1) y4)) w.heap.size (.slice a1 ss.length c1) (.slice a2 ps.length c2)) := ((S0.out.keep hb8' S0.out.lt).setO hX0 _).setO hX0 _
      have P1 : Hid (Bx ((w8.setCell ⟨X, 0, none⟩ (.slice y1 ss.length y2)).setCell ⟨X, 1, none⟩ (.slice y3 (cur.length + 1) y4)) (w.heap.size + 1) (.slice none 0 0) (.slice none 0 0)) := ((S1.out.keep hb8' S1.out.lt).setO hX1 _).setO hX1 _
      have P2 : Hid (Bx ((w8.setCell ⟨X, 0, none⟩ (.slice y1 ss.length y2)).setCell ⟨X, 1, none⟩ (.slice y3 (cur.length + 1) y4)) X (.slice y1 ss.length y2) (.slice y3 (cur.length + 1) y4)) := (R2.out.set0 _).set1 _
      have PH : Hid (Bx ((w8.setCell ⟨X, 0, none⟩ (.slice y1 ss.length y2)).setCell ⟨X, 1, none⟩ (.slice y3 (cur.length + 1) y4)) HH (.int .i64 (K : Int)) (.int .i64 (fr : Int))) := ((SH2.out.keep hb8' SH2.out.lt).setO hXH1 _).setO hXH1 _
      have PE : Hid (Bx ((w8.setCell ⟨X, 0, none⟩ (.slice y1 ss.length y2)).setCell ⟨X, 1, none⟩ (.slice y3 (cur.length + 1) y4)) (HH + 1) (.int .i64 (EK : Int)) (.int .i64 (EF : Int))) := ((SE.out.keep hb8' SE.out.lt).setO hXH2 _).setO hXH2 _
      have HD9 : Hid (DOwn ((w8.setCell ⟨X, 0, none⟩ (.slice y1 ss.length y2)).setCell ⟨X, 1, none⟩ (.slice y3 (cur.length + 1) y4)) (w6.heap.size + 1) y1 y2 y3 y4 ss (cur ++ [((K : Int), spl was fr ((t.data.toList.drop i).take n))])) := ⟨own_set (own_set HD8.out.s hO3) hO3, own_set (own_set HD8.out.p hO4) hO4⟩
      have HB9 : Hid (Below w.heap.size w ((w8.setCell ⟨X, 0, none⟩ (.slice y1 ss.length y2)).setCell ⟨X, 1, none⟩ (.slice y3 (cur.length + 1) y4))) := ((HB7.out.trans (hb8'.mono HB7.out.size)).setCell (by show w.heap.size ≤ X; omega) _).setCell (by show w.heap.size ≤ X; omega) _
      clear hd8 hb8 hb8' R2 r0 r1 rf x0 x1 xf h0 h1 S0 S1 S2 SH2 SE HD7 HB7 hcv T0 T1 T2 TH TE HD6 HB6 HD8
      generalize ((w8.setCell ⟨X, 0, none⟩ (.slice y1 ss.length y2)).setCell ⟨X, 1, none⟩ (.slice y3 (cur.length + 1) y4)) = wv at *
      have h0 := PH.out.c0
      have h1 := PH.out.c1
      go_wp2
      go_region_law (first
       | (go_simp; go_at_call 95; refine (HPL.out _).mono ?_; rintro e w10 ⟨rfl, hb10⟩; have QH : Hid (Bx w10 HH (.int .i64 (K : Int)) (.int .i64 (fr : Int))) := PH.out.keep (undrew hb10) PH.out.lt; have r0 := QH.out.c0; have r1 := QH.out.c1; have rf := QH.out.fz))
      all_goals
       have hb10' : Below wv.heap.size wv w10 := undrew hb10
       have F0 : Hid (Bx ((w10.setCell ⟨HH, 0, none⟩ (.int .i64 (nk : Int))).setCell ⟨HH, 1, none⟩ (.int .i64 (nf : Int))) w.heap.size (.slice a1 ss.length c1) (.slice a2 ps.length c2)) := ((P0.out.keep hb10' P0.out.lt).setO hH0 _).setO hH0 _
       have F1 : Hid (Bx ((w10.setCell ⟨HH, 0, none⟩ (.int .i64 (nk : Int))).setCell ⟨HH, 1, none⟩ (.int .i64 (nf : Int))) (w.heap.size + 1) (.slice none 0 0) (.slice none 0 0)) := ((P1.out.keep hb10' P1.out.lt).setO hH1 _).setO hH1 _
       have F2 : Hid (Bx ((w10.setCell ⟨HH, 0, none⟩ (.int .i64 (nk : Int))).setCell ⟨HH, 1, none⟩ (.int .i64 (nf : Int))) X (.slice y1 ss.length y2) (.slice y3 (cur ++ [((K : Int), spl was fr ((t.data.toList.drop i).take n))]).length y4)) := by
        show Bx _ _ _ _
        rw [EL.out]
        exact ((P2.out.keep hb10' P2.out.lt).setO hHX _).setO hHX _
       have FH : Hid (Bx ((w10.setCell ⟨HH, 0, none⟩ (.int .i64 (nk : Int))).setCell ⟨HH, 1, none⟩ (.int .i64 (nf : Int))) HH (.int .i64 ((k0 + (at' + (i + n)) / 64 : Nat) : Int)) (.int .i64 (((at' + (i + n)) % 64 : Nat) : Int))) := by
        have h := (QH.out.set0 (.int .i64 (nk : Int))).set1 (.int .i64 (nf : Int))
        show Bx _ _ _ _
        rw [← HK2.out, ← HF3.out]
        exact h
       have FE : Hid (Bx ((w10.setCell ⟨HH, 0, none⟩ (.int .i64 (nk : Int))).setCell ⟨HH, 1, none⟩ (.int .i64 (nf : Int))) (HH + 1) (.int .i64 (EK : Int)) (.int .i64 (EF : Int))) := ((PE.out.keep hb10' PE.out.lt).setO (a := ⟨HH, 0, none⟩) hHE _).setO (a := ⟨HH, 1, none⟩) hHE _
       have FD : Hid (DOwn ((w10.setCell ⟨HH, 0, none⟩ (.int .i64 (nk : Int))).setCell ⟨HH, 1, none⟩ (.int .i64 (nf : Int))) (w.heap.size + 1 + 1) y1 y2 y3 y4 ss (cur ++ [((K : Int), spl was fr ((t.data.toList.drop i).take n))])) := DOwn.mono (base := w6.heap.size + 1) ⟨own_set (own_set (SOwn.below HD9.out.s hb10') hO5) hO5, own_set (own_set (POwn.below HD9.out.p hb10') hO6) hO6⟩ (by omega)
       have FB : Hid (Below w.heap.size w ((w10.setCell ⟨HH, 0, none⟩ (.int .i64 (nk : Int))).setCell ⟨HH, 1, none⟩ (.int .i64 (nf : Int)))) := ((HB9.out.trans (hb10'.mono HB9.out.size)).setCell (by show w.heap.size ≤ HH; omega) _).setCell (by show w.heap.size ≤ HH; omega) _
       have FN : Hid (∀ k, ((Value.slice y1 ss.length y2).ownBlock = some k ∨ (Value.slice y3 (cur ++ [((K : Int), spl was fr ((t.data.toList.drop i).take n))]).length y4).ownBlock = some k) → k ≠ X ∧ k ≠ HH ∧ k ≠ HH + 1) := fun k hk => by
        have : w6.heap.size + 1 ≤ k := by
         rcases hk with h | h
         ·exact HO1.out k h
         ·exact HO2.out k h
        omega
       clear hb10 hb10' QH r0 r1 rf h0 h1 P0 P1 P2 PH PE HD9 HB9
       simp only [Act.put, tA, tC, tB, tD, tE, tF]
       go_wp2
       go_roundw
       case rel => exact ⟨i + n, f2, r.extract n r.size, _, y1, y2, y3, y4, hin, rfl, rfl, HR2, HW2, HF2, HJ2, HOK2, FB, F0, F1, F2, FH, FE, FD, FN⟩
       case measure =>
        show (r.extract n r.size).size < r.size
        simp
        omega
    ·simp
    ·rfl
  ·obtain rfl : i = t.size := by omega
   obtain rfl : K = EK := by omega
   obtain rfl : fr = EF := by omega
   have HE : Hid (cur = WB) := by
    have h := HW.out
    rw [List.drop_eq_nil_of_le (by simp)] at h
    exact wbGo_nil h
   have HOKW : Hid (okB ss WB = true) := by rw [← HE.out]; exact HOKc
   have tl := V1.out.lt
   have t0 := V1.out.c0
   have t1 := V1.out.c1
   have tf := V1.out.fz
   clear hK hfr hEK hEF ers ets hrs
   go_wp2
   refine bodyPost_ret (v := .tuple #[.agg #[.slice b1 ss.length d1, .slice b2 cur.length d2], .bool true]) (by simp [results, Tryz.results69, go_sem, t0, t1]) rfl ⟨b1, d1, b2, d2, ?_, ⟨?_, ?_⟩, HOKW.out, ?_⟩
   ·rw [HE.out]
   ·exact ((HDc.out.s.set (by show w.heap.size + 1 < _; omega) _).set (by show w.heap.size + 1 < _; omega) _).mono (by omega)
   ·rw [← HE.out]
    exact ((HDc.out.p.set (by show w.heap.size + 1 < _; omega) _).set (by show w.heap.size + 1 < _; omega) _).mono (by omega)
   ·exact (HB.out.setCell (by show _ ≤ w.heap.size + 1; omega) _).setCell (by show _ ≤ w.heap.size + 1; omega) _
end Go.Proofs.YtekjpoenbcnhdaaGreat

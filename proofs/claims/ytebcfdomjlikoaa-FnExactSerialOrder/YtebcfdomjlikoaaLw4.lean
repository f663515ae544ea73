/- The law FnExactSerialOrder, walked. -/
import Derived.Test.YtebcfdomjlikoaaSc4
import Derived.Test.YtebcfdomjlikoaaSi
import Derived.Deep.RegionHeld3
namespace Go.Proofs.Ytebcfdomjlikoaa
open Go.RowKit
open KM
attribute [local go_sem ↓] Go.wp_at_zero Go.wp_at_succ

theorem LLie.rowsN {w : World} {lo hi c n : Nat} {a : Option Addr} {ys : List Ta} (h : LLie w lo hi (.slice a n c) ys) (hn : ys.length = n) : TRows w a ys := by
  subst hn
  exact h.rows
theorem serF_len (ts : List Tx) : ∀ (f : Nat) (o : List Nat), (∀ p, serF ts f o = some p → p.length = o.length + f)
  | 0, o, p, h => by cases h; rfl
  | f + 1, o, p, h => by
    unfold serF at h
    cases hn : nxt ts o with
    | none => rw [hn] at h; cases h
    | some i =>
      rw [hn] at h
      have := serF_len ts f (o ++ [i]) p h
      rw [this, List.length_append]
      simp
      omega
theorem serO_len (ts : List Tx) : (serO ts).length ≤ ts.length := by
  unfold serO serB
  cases h : serF ts ts.length [] with
  | none => simp
  | some p =>
    have := serF_len ts _ _ p h
    simp at this
    simp [this]
theorem scon (xs : List Ta) (hf : LFit (txs xs)) : ∃ (S : List Int) (bS : Bool) (m : Nat), m = S.length ∧ m ≤ 1048576 ∧ (∀ (ys : List Ta) (a : Option Addr) (c : Nat) (W : World), txs ys = txs xs → ys.length = xs.length → TRows W a ys → Calls Try.prog 14 #[.slice a xs.length c] W fun e w' => ∃ (oa : Option Addr) (oc : Nat), e = .returned (.tuple #[.slice oa m oc, .bool bS]) ∧ Lies encI 3 w' W.heap.size w'.heap.size (.slice oa m oc) S ∧ Below W.heap.size W w') ∧ (∀ (ys : List Ta) (a : Option Addr) (c : Nat) (W : World), txs ys = txs xs → ys.length = xs.length → TRows W a ys → Calls Try.prog 12 #[.slice a xs.length c] W fun e w' => ∃ (oa : Option Addr) (oc : Nat), e = .returned (.tuple #[.slice oa m oc, .bool bS]) ∧ Lies encI 3 w' W.heap.size w'.heap.size (.slice oa m oc) S ∧ Below W.heap.size W w') := by
  have hl : xs.length ≤ 1048576 := by have := hf.1; rw [txs_len] at this; exact this
  refine ⟨(serO (txs xs)).map Int.ofNat, (serB (txs xs)).isSome, ((serO (txs xs)).map Int.ofNat).length, rfl, ?_, ?_, ?_⟩
  · have := serO_len (txs xs)
    rw [txs_len] at this
    rw [List.length_map]
    omega
  · intro ys a c W h1 h2 h3
    refine (iserial ys a c xs.length h2.symm hl (by rw [h1]; exact hf) W h3).mono ?_
    rintro e w' ⟨v, he, ho, hb⟩
    rw [h1] at he ho
    obtain ⟨ao, cap, rfl, _⟩ := ho.row
    exact ⟨ao, cap, he, Lies.of ho, hb⟩
  · intro ys a c W h1 h2 h3
    refine (sserial ys a c xs.length h2.symm hl (by rw [h1]; exact hf) W h3).mono ?_
    rintro e w' ⟨v, he, ho, hb⟩
    rw [h1] at he ho
    obtain ⟨ao, cap, rfl, _⟩ := ho.row
    exact ⟨ao, cap, he, Lies.of ho, hb⟩

theorem growN {w : World} {lo hi n c : Nat} {a : Option Addr} {l : List Int} (h : Lies encI 3 w lo hi (.slice a n c) l) (hn : n = l.length) : GRow encI w a l := by
  subst hn
  exact h.own.grow

set_option maxRecDepth 100000 in
set_option maxHeartbeats 6000000 in
theorem law4 (xs : List Ta) (a : Option Addr) (c : Nat) (w : World) (hp : LArg w a xs) : Calls Try.prog 4 #[.slice a xs.length c] w fun e w' => e = .returned (.bool true) ∧ Below w.heap.size w w' := by
  have HPl : Hid (LArg w a xs) := hp
  have hl0 := hp.len
  unfold maxLen at hl0
  clear hp
  have HB : Hid (Below w.heap.size w w) := belowRefl w
  have AL : Hid (LArg w a xs) := HPl.out.below HB.out
  go_enter Try.func4, Try.ntmps4
  go_wp2_with fail
  refine (szL xs a c 1048576 (by omega) (by omega) _ AL.out).mono ?_
  rintro e w1 ⟨hb1, lft, rfl, hut, hrt⟩
  have Z1 : Hid (w.heap.size ≤ w1.heap.size) := by show _ ≤ _; have h := hb1.size; simpa using h
  replace HB : Hid (Below w.heap.size w w1) := HB.out.trans (hb1.mono HB.out.size)
  replace AL : Hid (LArg w1 a xs) := HPl.out.below HB.out
  clear hb1
  by_cases hneg : lft < 0
  · clear hrt
    go_wp2
    go_ret
    exact ⟨rfl, HB.out⟩
  have hpost : ¬ lft < 0 := hneg
  have HF : Hid (LFit (txs xs)) := hrt (by omega)
  clear hrt hneg hut
  have hln : xs.length ≤ 1048576 := by have := HF.out.1; rw [txs_len] at this; exact this
  obtain ⟨S, bS, m, hm, hmb, ci, cs⟩ := scon xs HF.out
  have HM : Hid (m = S.length) := hm
  have CI := hide ci
  have CS := hide cs
  clear hm ci cs hl0
  cases bS
  all_goals
    go_wp2_with fail
    refine (toL2 xs a c (by omega) HF.out _ AL.out.rows).mono ?_
    rintro e w2 ⟨y1, a1, k1, rfl, ht, hy, hl, hb2⟩
    have Z2 : Hid (w1.heap.size ≤ w2.heap.size) := by show _ ≤ _; have h := hb2.size; simpa using h
    replace HB : Hid (Below w.heap.size w w2) := HB.out.trans (hb2.mono HB.out.size)
    replace AL : Hid (LArg w2 a xs) := HPl.out.below HB.out
    have T1 : Hid (txs y1 = txs xs) := ht
    have Y1 : Hid (y1.length = xs.length) := hy
    rw [hy] at hl
    clear ht hy
    clear hb2
    have L1 : Hid (LLie w2 (w1.heap.size) w2.heap.size (.slice a1 xs.length k1) y1) := hl
    clear hl
    go_wp2_with fail
    refine (CS.out y1 a1 k1 _ T1.out Y1.out (L1.out.rowsN Y1.out)).mono ?_
    rintro e w3 ⟨oa1, oc1, rfl, hl, hb3⟩
    have Z3 : Hid (w2.heap.size ≤ w3.heap.size) := by show _ ≤ _; have h := hb3.size; simpa using h
    replace HB : Hid (Below w.heap.size w w3) := HB.out.trans (hb3.mono HB.out.size)
    replace AL : Hid (LArg w3 a xs) := HPl.out.below HB.out
    replace L1 : Hid (LLie w3 (w1.heap.size) w2.heap.size (.slice a1 xs.length k1) y1) := L1.out.below hb3
    clear hb3
    have O1 : Hid (Lies encI 3 w3 (w2.heap.size) w3.heap.size (.slice oa1 m oc1) S) := hl
    clear hl
    clear L1
    clear T1 Y1
    go_wp2_with fail
    refine (toL2 xs a c (by omega) HF.out _ AL.out.rows).mono ?_
    rintro e w4 ⟨y2, a2, k2, rfl, ht, hy, hl, hb4⟩
    have Z4 : Hid (w3.heap.size ≤ w4.heap.size) := by show _ ≤ _; have h := hb4.size; simpa using h
    replace HB : Hid (Below w.heap.size w w4) := HB.out.trans (hb4.mono HB.out.size)
    replace AL : Hid (LArg w4 a xs) := HPl.out.below HB.out
    replace O1 : Hid (Lies encI 3 w4 (w2.heap.size) w3.heap.size (.slice oa1 m oc1) S) := O1.out.below hb4
    have T2 : Hid (txs y2 = txs xs) := ht
    have Y2 : Hid (y2.length = xs.length) := hy
    rw [hy] at hl
    clear ht hy
    clear hb4
    have L2 : Hid (LLie w4 (w3.heap.size) w4.heap.size (.slice a2 xs.length k2) y2) := hl
    clear hl
    go_wp2_with fail
    refine (CI.out y2 a2 k2 _ T2.out Y2.out (L2.out.rowsN Y2.out)).mono ?_
    rintro e w5 ⟨oa2, oc2, rfl, hl, hb5⟩
    have Z5 : Hid (w4.heap.size ≤ w5.heap.size) := by show _ ≤ _; have h := hb5.size; simpa using h
    replace HB : Hid (Below w.heap.size w w5) := HB.out.trans (hb5.mono HB.out.size)
    replace AL : Hid (LArg w5 a xs) := HPl.out.below HB.out
    replace O1 : Hid (Lies encI 3 w5 (w2.heap.size) w3.heap.size (.slice oa1 m oc1) S) := O1.out.below hb5
    replace L2 : Hid (LLie w5 (w3.heap.size) w4.heap.size (.slice a2 xs.length k2) y2) := L2.out.below hb5
    clear hb5
    have O2 : Hid (Lies encI 3 w5 (w4.heap.size) w5.heap.size (.slice oa2 m oc2) S) := hl
    clear hl
    go_wp2_with fail
    refine (eqI S oa2 oa1 oc2 oc1 m HM.out (by omega) _ (growN O2.out HM.out) (growN O1.out HM.out)).mono ?_
    rintro e w6 ⟨rfl, hb6⟩
    have Z6 : Hid (w5.heap.size ≤ w6.heap.size) := by show _ ≤ _; have h := hb6.size; simpa using h
    replace HB : Hid (Below w.heap.size w w6) := HB.out.trans (hb6.mono HB.out.size)
    replace AL : Hid (LArg w6 a xs) := HPl.out.below HB.out
    replace O1 : Hid (Lies encI 3 w6 (w2.heap.size) w3.heap.size (.slice oa1 m oc1) S) := O1.out.below hb6
    replace L2 : Hid (LLie w6 (w3.heap.size) w4.heap.size (.slice a2 xs.length k2) y2) := L2.out.below hb6
    replace O2 : Hid (Lies encI 3 w6 (w4.heap.size) w5.heap.size (.slice oa2 m oc2) S) := O2.out.below hb6
    clear hb6
    go_wp2_with fail
    refine (toL2 xs a c (by omega) HF.out _ AL.out.rows).mono ?_
    rintro e w7 ⟨y3, a3, k3, rfl, ht, hy, hl, hb7⟩
    have Z7 : Hid (w6.heap.size ≤ w7.heap.size) := by show _ ≤ _; have h := hb7.size; simpa using h
    replace HB : Hid (Below w.heap.size w w7) := HB.out.trans (hb7.mono HB.out.size)
    replace AL : Hid (LArg w7 a xs) := HPl.out.below HB.out
    replace O1 : Hid (Lies encI 3 w7 (w2.heap.size) w3.heap.size (.slice oa1 m oc1) S) := O1.out.below hb7
    replace L2 : Hid (LLie w7 (w3.heap.size) w4.heap.size (.slice a2 xs.length k2) y2) := L2.out.below hb7
    replace O2 : Hid (Lies encI 3 w7 (w4.heap.size) w5.heap.size (.slice oa2 m oc2) S) := O2.out.below hb7
    have T3 : Hid (txs y3 = txs xs) := ht
    have Y3 : Hid (y3.length = xs.length) := hy
    rw [hy] at hl
    clear ht hy
    clear hb7
    have L3 : Hid (LLie w7 (w6.heap.size) w7.heap.size (.slice a3 xs.length k3) y3) := hl
    clear hl
    go_wp2_with fail
    refine (eqL y2 y3 a2 a3 k2 k3 xs.length Y2.out.symm Y3.out.symm (by omega) (T2.out.trans T3.out.symm) (by rw [T2.out]; exact HF.out) _ (L2.out.rowsN Y2.out) (L3.out.rowsN Y3.out)).mono ?_
    rintro e w8 ⟨rfl, hb8⟩
    have Z8 : Hid (w7.heap.size ≤ w8.heap.size) := by show _ ≤ _; have h := hb8.size; simpa using h
    replace HB : Hid (Below w.heap.size w w8) := HB.out.trans (hb8.mono HB.out.size)
    replace AL : Hid (LArg w8 a xs) := HPl.out.below HB.out
    replace O1 : Hid (Lies encI 3 w8 (w2.heap.size) w3.heap.size (.slice oa1 m oc1) S) := O1.out.below hb8
    replace L2 : Hid (LLie w8 (w3.heap.size) w4.heap.size (.slice a2 xs.length k2) y2) := L2.out.below hb8
    replace O2 : Hid (Lies encI 3 w8 (w4.heap.size) w5.heap.size (.slice oa2 m oc2) S) := O2.out.below hb8
    replace L3 : Hid (LLie w8 (w6.heap.size) w7.heap.size (.slice a3 xs.length k3) y3) := L3.out.below hb8
    clear hb8
    clear L3
    clear T3 Y3
    have HFY : Hid (∀ y ∈ y2, TFit y.t) := fun y hy => by have h : y.t ∈ txs y2 := List.mem_map.2 ⟨y, hy, rfl⟩; rw [T2.out] at h; exact HF.out.2 _ h
    go_wp2_with fail
    refine (markL y2 a2 k2 xs.length (w3.heap.size) (w4.heap.size) 1 Y2.out.symm (by omega) HFY.out (by omega) (by omega) _ L2.out).mono ?_
    rintro e w9 ⟨rfl, _, hz9⟩
    have Z9 : Hid (w8.heap.size ≤ w9.heap.size) := hz9.size
    replace HB : Hid (Below w.heap.size w w9) := HB.out.trans (hz9.below (by have := Z1.out; have := Z2.out; have := Z3.out; have := Z4.out; have := Z5.out; have := Z6.out; have := Z7.out; have := Z8.out; omega) HB.out.size)
    replace AL : Hid (LArg w9 a xs) := HPl.out.below HB.out
    replace O1 : Hid (Lies encI 3 w9 (w2.heap.size) w3.heap.size (.slice oa1 m oc1) S) := O1.out.zn hz9 (by have := Z1.out; have := Z2.out; have := Z3.out; have := Z4.out; have := Z5.out; have := Z6.out; have := Z7.out; have := Z8.out; omega)
    replace O2 : Hid (Lies encI 3 w9 (w4.heap.size) w5.heap.size (.slice oa2 m oc2) S) := O2.out.zn hz9 (by have := Z1.out; have := Z2.out; have := Z3.out; have := Z4.out; have := Z5.out; have := Z6.out; have := Z7.out; have := Z8.out; omega)
    clear hz9 L2 HFY
    obtain ⟨q1, hq1⟩ : ∃ q1 : Nat, q1 = 1 + wtL y2 := ⟨_, rfl⟩
    rw [← hq1]
    clear hq1 T2 Y2
    have hK1a : ¬ (q1 : Int) < 0 := by omega
    have hK1b : decide ((q1 : Int) < 0) = false := by simp
    go_wp2_with fail
    refine (eqI S oa2 oa1 oc2 oc1 m HM.out (by omega) _ (growN O2.out HM.out) (growN O1.out HM.out)).mono ?_
    rintro e w10 ⟨rfl, hb10⟩
    have Z10 : Hid (w9.heap.size ≤ w10.heap.size) := by show _ ≤ _; have h := hb10.size; simpa using h
    replace HB : Hid (Below w.heap.size w w10) := HB.out.trans (hb10.mono HB.out.size)
    replace AL : Hid (LArg w10 a xs) := HPl.out.below HB.out
    replace O1 : Hid (Lies encI 3 w10 (w2.heap.size) w3.heap.size (.slice oa1 m oc1) S) := O1.out.below hb10
    replace O2 : Hid (Lies encI 3 w10 (w4.heap.size) w5.heap.size (.slice oa2 m oc2) S) := O2.out.below hb10
    clear hb10
    go_wp2_with fail
    refine (markI m 1 oa2 oc2 (w4.heap.size) S HM.out.symm (by omega) (by omega) _ O2.out.own).mono ?_
    rintro e w11 ⟨rfl, hm2, hg11⟩
    have hz11 : Zn (w4.heap.size) (w5.heap.size) _ w11 := Zn.ofGrown hg11 (fun g h => O2.out.lo g h)
    clear hg11
    have Z11 : Hid (w10.heap.size ≤ w11.heap.size) := hz11.size
    replace HB : Hid (Below w.heap.size w w11) := HB.out.trans (hz11.below (by have := Z1.out; have := Z2.out; have := Z3.out; have := Z4.out; have := Z5.out; have := Z6.out; have := Z7.out; have := Z8.out; have := Z9.out; have := Z10.out; omega) HB.out.size)
    replace AL : Hid (LArg w11 a xs) := HPl.out.below HB.out
    replace O1 : Hid (Lies encI 3 w11 (w2.heap.size) w3.heap.size (.slice oa1 m oc1) S) := O1.out.zn hz11 (by have := Z1.out; have := Z2.out; have := Z3.out; have := Z4.out; have := Z5.out; have := Z6.out; have := Z7.out; have := Z8.out; have := Z9.out; have := Z10.out; omega)
    have MO : Hid (Lies encI 3 w11 (w4.heap.size) (w5.heap.size) (.slice oa2 m oc2) (mkI 1 m)) := ⟨hm2, O2.out.up⟩
    clear hm2
    clear hz11 O2
    obtain ⟨q3, hq3⟩ : ∃ q3 : Nat, q3 = 1 + m := ⟨_, rfl⟩
    have HQ3 : Hid (q3 = 1 + m) := hq3
    rw [← hq3]
    clear hq3
    have hK3a : ¬ (q3 : Int) < 0 := by omega
    have hK3b : ((q3 : Int) != (q3 : Int)) = false := by simp
    have HH := hide (heldI m 1 oa2 oc2 (by omega) (by omega) _ (growN MO.out (mkI_len _ _).symm))
    rw [← HQ3.out] at HH
    go_wp2_with fail
    refine (HH.out).mono ?_
    rintro e w12 ⟨rfl, hb12⟩
    have Z12 : Hid (w11.heap.size ≤ w12.heap.size) := by show _ ≤ _; have h := hb12.size; simpa using h
    replace HB : Hid (Below w.heap.size w w12) := HB.out.trans (hb12.mono HB.out.size)
    replace AL : Hid (LArg w12 a xs) := HPl.out.below HB.out
    replace O1 : Hid (Lies encI 3 w12 (w2.heap.size) w3.heap.size (.slice oa1 m oc1) S) := O1.out.below hb12
    replace MO : Hid (Lies encI 3 w12 (w4.heap.size) (w5.heap.size) (.slice oa2 m oc2) (mkI 1 m)) := MO.out.below hb12
    clear hb12 HH
    go_wp2_with fail
    refine (toL2 xs a c (by omega) HF.out _ AL.out.rows).mono ?_
    rintro e w13 ⟨y4, a4, k4, rfl, ht, hy, hl, hb13⟩
    have Z13 : Hid (w12.heap.size ≤ w13.heap.size) := by show _ ≤ _; have h := hb13.size; simpa using h
    replace HB : Hid (Below w.heap.size w w13) := HB.out.trans (hb13.mono HB.out.size)
    replace AL : Hid (LArg w13 a xs) := HPl.out.below HB.out
    replace O1 : Hid (Lies encI 3 w13 (w2.heap.size) w3.heap.size (.slice oa1 m oc1) S) := O1.out.below hb13
    replace MO : Hid (Lies encI 3 w13 (w4.heap.size) (w5.heap.size) (.slice oa2 m oc2) (mkI 1 m)) := MO.out.below hb13
    have T4 : Hid (txs y4 = txs xs) := ht
    have Y4 : Hid (y4.length = xs.length) := hy
    rw [hy] at hl
    clear ht hy
    clear hb13
    have L4 : Hid (LLie w13 (w12.heap.size) w13.heap.size (.slice a4 xs.length k4) y4) := hl
    clear hl
    go_wp2_with fail
    refine (CI.out y4 a4 k4 _ T4.out Y4.out (L4.out.rowsN Y4.out)).mono ?_
    rintro e w14 ⟨oa4, oc4, rfl, hl, hb14⟩
    have Z14 : Hid (w13.heap.size ≤ w14.heap.size) := by show _ ≤ _; have h := hb14.size; simpa using h
    replace HB : Hid (Below w.heap.size w w14) := HB.out.trans (hb14.mono HB.out.size)
    replace AL : Hid (LArg w14 a xs) := HPl.out.below HB.out
    replace O1 : Hid (Lies encI 3 w14 (w2.heap.size) w3.heap.size (.slice oa1 m oc1) S) := O1.out.below hb14
    replace MO : Hid (Lies encI 3 w14 (w4.heap.size) (w5.heap.size) (.slice oa2 m oc2) (mkI 1 m)) := MO.out.below hb14
    replace L4 : Hid (LLie w14 (w12.heap.size) w13.heap.size (.slice a4 xs.length k4) y4) := L4.out.below hb14
    clear hb14
    have O4 : Hid (Lies encI 3 w14 (w13.heap.size) w14.heap.size (.slice oa4 m oc4) S) := hl
    clear hl
    clear L4
    go_wp2_with fail
    refine (eqI S oa4 oa1 oc4 oc1 m HM.out (by omega) _ (growN O4.out HM.out) (growN O1.out HM.out)).mono ?_
    rintro e w15 ⟨rfl, hb15⟩
    have Z15 : Hid (w14.heap.size ≤ w15.heap.size) := by show _ ≤ _; have h := hb15.size; simpa using h
    replace HB : Hid (Below w.heap.size w w15) := HB.out.trans (hb15.mono HB.out.size)
    replace AL : Hid (LArg w15 a xs) := HPl.out.below HB.out
    replace O1 : Hid (Lies encI 3 w15 (w2.heap.size) w3.heap.size (.slice oa1 m oc1) S) := O1.out.below hb15
    replace MO : Hid (Lies encI 3 w15 (w4.heap.size) (w5.heap.size) (.slice oa2 m oc2) (mkI 1 m)) := MO.out.below hb15
    replace O4 : Hid (Lies encI 3 w15 (w13.heap.size) w14.heap.size (.slice oa4 m oc4) S) := O4.out.below hb15
    clear hb15
    have HH := hide (heldI m 1 oa2 oc2 (by omega) (by omega) _ (growN MO.out (mkI_len _ _).symm))
    rw [← HQ3.out] at HH
    go_wp2_with fail
    refine (HH.out).mono ?_
    rintro e w16 ⟨rfl, hb16⟩
    have Z16 : Hid (w15.heap.size ≤ w16.heap.size) := by show _ ≤ _; have h := hb16.size; simpa using h
    replace HB : Hid (Below w.heap.size w w16) := HB.out.trans (hb16.mono HB.out.size)
    replace AL : Hid (LArg w16 a xs) := HPl.out.below HB.out
    replace O1 : Hid (Lies encI 3 w16 (w2.heap.size) w3.heap.size (.slice oa1 m oc1) S) := O1.out.below hb16
    replace MO : Hid (Lies encI 3 w16 (w4.heap.size) (w5.heap.size) (.slice oa2 m oc2) (mkI 1 m)) := MO.out.below hb16
    replace O4 : Hid (Lies encI 3 w16 (w13.heap.size) w14.heap.size (.slice oa4 m oc4) S) := O4.out.below hb16
    clear hb16 HH
    go_wp2
    go_ret
    exact ⟨rfl, HB.out⟩
end Go.Proofs.Ytebcfdomjlikoaa

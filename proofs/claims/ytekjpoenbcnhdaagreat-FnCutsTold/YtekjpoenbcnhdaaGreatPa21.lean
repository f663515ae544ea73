/- What spec.WriteBytes leaves of a right disk: a right one with as many sectors. -/
import Derived.Test.YtekjpoenbcnhdaaGreatPa08
namespace Go.Proofs.YtekjpoenbcnhdaaGreat
open Go.RowKit
open DM
attribute [local go_sem ↓] Go.wp_at_zero Go.wp_at_succ

def WbQ (w : World) (ss : List ByteArray) (ps : List Wr) (e : Ending) (w' : World) : Prop := ∃ (cur : List Wr) (ok : Bool) (b1 : Option Addr) (d1 : Nat) (b2 : Option Addr) (d2 : Nat), e = .returned (.tuple #[.agg #[.slice b1 ss.length d1, .slice b2 cur.length d2], .bool ok]) ∧ DOwn w' w.heap.size b1 d1 b2 d2 ss cur ∧ okB ss cur = true ∧ cur.length ≤ ps.length + 3 ∧ Below w.heap.size w w'
def cur0 (ps cur : List Wr) (at' i n : Nat) : Prop := cur.length ≤ ps.length + 3 ∧ (i < n → cur.length ≤ ps.length + (at' + i) / 64)

set_option maxRecDepth 100000 in
set_option maxHeartbeats 8000000 in
theorem swbR (ss : List ByteArray) (ps : List Wr) (k0 at' : Nat) (t : ByteArray) (a1 a2 : Option Addr) (c1 c2 B0 : Nat) (hok : okB ss ps = true) (hps : ps.length ≤ 40) (hk0 : k0 < ss.length) (hat : at' + t.size ≤ 160) (w : World) (hd : DOwn w B0 a1 c1 a2 c2 ss ps) :
  Calls Tryz.prog 57 #[.agg #[.slice a1 ss.length c1, .slice a2 ps.length c2], .int .i64 (k0 : Int), .int .i64 (at' : Int), .string t] w fun e w' => WbQ w ss ps e w' := by
 have HOK : Hid (okB ss ps = true) := hok
 have hs100 : ss.length ≤ 100 := (okB_iff.1 hok).2.1
 have HI1 : Hid (decide ((0 : Int) ≤ (at' : Int) ∧ (at' : Int) ≤ 6400) = true) := by show _ = _; simp; omega
 have HI2 : Hid (decide ((0 : Int) ≤ (k0 : Int) ∧ (k0 : Int) ≤ (ss.length : Int) - 1) = true) := by show _ = _; simp; omega
 have hpl : ps.length ≤ 100 := by omega
 have HJ0 : Hid (cur0 ps ps at' 0 t.size) := ⟨by omega, fun _ => by omega⟩
 have hn : ss.length ≤ 90000000 := by omega
 have hm : ps.length ≤ 80000000 := by omega
 have HD : Hid (DOwn w B0 a1 c1 a2 c2 ss ps) := hd
 clear hd
 have b0 : Hid (Below w.heap.size w ((w.alloc (.cells #[.slice a1 ss.length c1, .slice a2 ps.length c2] 27)).alloc (.cells #[.slice none 0 0, .slice none 0 0] 27))) := ((belowRefl w).alloc (Nat.le_refl _) _).alloc (by simp) _
 have X0 : Hid (Bx ((w.alloc (.cells #[.slice a1 ss.length c1, .slice a2 ps.length c2] 27)).alloc (.cells #[.slice none 0 0, .slice none 0 0] 27)) w.heap.size (.slice a1 ss.length c1) (.slice a2 ps.length c2)) := (Bx.new w _ _ _).alloc _
 have X1 : Hid (Bx ((w.alloc (.cells #[.slice a1 ss.length c1, .slice a2 ps.length c2] 27)).alloc (.cells #[.slice none 0 0, .slice none 0 0] 27)) (w.heap.size + 1) (.slice none 0 0) (.slice none 0 0)) := by
  have h := Bx.new (w.alloc (.cells #[.slice a1 ss.length c1, .slice a2 ps.length c2] 27)) (.slice none 0 0) (.slice none 0 0) 27
  show Bx _ _ _ _
  simpa using h
 go_enter Tryz.func57, Tryz.ntmps57
 go_wp2_with fail
 refine (copy64 ss ps a1 a2 c1 c2 B0 (by omega) (by omega) _ (HD.out.below b0.out)).mono ?_
 rintro e w1 ⟨b1, d1, b2, d2, rfl, hd1, hb1⟩
 have hz1 : w.heap.size + 1 + 1 ≤ w1.heap.size := by have := hb1.size; simp at this; omega
 have HD1 : Hid (DOwn w1 (w.heap.size + 1 + 1) b1 d1 b2 d2 ss ps) := hd1.mono (by simp)
 have HU : Hid (∀ k, (Value.slice b1 ss.length d1).ownBlock = some k → w.heap.size + 1 + 1 ≤ k ∧ k < w1.heap.size) := World.ownsRow.lt HD1.out.s
 have HUP : Hid (∀ k, (Value.slice b2 ps.length d2).ownBlock = some k → w.heap.size + 1 + 1 ≤ k ∧ k < w1.heap.size) := World.ownsRow.lt HD1.out.p
 have Y0 : Hid (Bx (w1.alloc (.cells #[.slice b1 ss.length d1, .slice b2 ps.length d2] 27)) w.heap.size (.slice a1 ss.length c1) (.slice a2 ps.length c2)) := (X0.out.keep hb1 X0.out.lt).alloc _
 have Y1 : Hid (Bx (w1.alloc (.cells #[.slice b1 ss.length d1, .slice b2 ps.length d2] 27)) (w.heap.size + 1) (.slice none 0 0) (.slice none 0 0)) := (X1.out.keep hb1 X1.out.lt).alloc _
 have HB1 : Hid (Below w.heap.size w (w1.alloc (.cells #[.slice b1 ss.length d1, .slice b2 ps.length d2] 27))) := (b0.out.trans (hb1.mono b0.out.size)).alloc (by omega) _
 have Z1 : Hid (Bx (w1.alloc (.cells #[.slice b1 ss.length d1, .slice b2 ps.length d2] 27)) w1.heap.size (.slice b1 ss.length d1) (.slice b2 ps.length d2)) := Bx.new _ _ _ _
 have HD2 : Hid (DOwn (w1.alloc (.cells #[.slice b1 ss.length d1, .slice b2 ps.length d2] 27)) (w.heap.size + 1 + 1) b1 d1 b2 d2 ss ps) := ⟨HD1.out.s.alloc _, HD1.out.p.alloc _⟩
 have g0 := Y0.out.c0
 have g1 := Y0.out.c1
 clear hd1 hb1 X0 X1 b0
 go_wp2_with fail
 refine (in57 _ _ _ true HI1.out _).mono ?_
 rintro e w1' ⟨rfl, rfl⟩
 go_wp2_with fail
 refine (in57 _ _ _ true HI2.out _).mono ?_
 rintro e w1' ⟨rfl, rfl⟩
 go_wp2_with fail
 refine (sok37 ss ps a1 a2 c1 c2 (by omega) (by omega) _ (HD.out.s.srow.below HB1.out) (HD.out.p.prow.below HB1.out)).mono ?_
 rintro e w2 ⟨rfl, hb2⟩
 have HB2 : Hid (Below w.heap.size w w2) := HB1.out.trans (hb2.mono HB1.out.size)
 have V0 : Hid (Bx w2 w.heap.size (.slice a1 ss.length c1) (.slice a2 ps.length c2)) := Y0.out.keep hb2 Y0.out.lt
 have V1 : Hid (Bx w2 (w.heap.size + 1) (.slice none 0 0) (.slice none 0 0)) := Y1.out.keep hb2 Y1.out.lt
 have V2 : Hid (Bx w2 w1.heap.size (.slice b1 ss.length d1) (.slice b2 ps.length d2)) := Z1.out.keep hb2 Z1.out.lt
 have HD3 : Hid (DOwn w2 (w.heap.size + 1 + 1) b1 d1 b2 d2 ss ps) := HD2.out.below hb2
 clear hb2 Y0 Y1 Z1 HD1 HD2 HB1 g0 g1
 generalize hXX : w1.heap.size = X at *
 have HN0 : Hid ((Value.slice b1 ss.length d1).ownBlock ≠ some X ∧ (Value.slice b2 ps.length d2).ownBlock ≠ some X) := ⟨fun e => by have := (HU.out X e).2; omega, fun e => by have := (HUP.out X e).2; omega⟩
 clear HU HUP
 have g0 := V0.out.c0
 have g1 := V0.out.c1
 go_wp2
 go_loopw [11] (fun ti wr => ∃ (i : Nat) (cur : List Wr) (b1 : Option Addr) (d1 : Nat) (b2 : Option Addr) (d2 : Nat), i ≤ t.size ∧ ti = .int .i64 i ∧ Hid (cur0 ps cur at' i t.size) ∧ Hid (okB ss cur = true) ∧ Hid (Below w.heap.size w wr) ∧ Hid (Bx wr w.heap.size (.slice a1 ss.length c1) (.slice a2 ps.length c2)) ∧ Hid (Bx wr (w.heap.size + 1) (.slice none 0 0) (.slice none 0 0)) ∧ Hid (Bx wr X (.slice b1 ss.length d1) (.slice b2 cur.length d2)) ∧ Hid (DOwn wr (w.heap.size + 1 + 1) b1 d1 b2 d2 ss cur) ∧ Hid ((Value.slice b1 ss.length d1).ownBlock ≠ some X ∧ (Value.slice b2 cur.length d2).ownBlock ≠ some X)) (fun ti _ => t.size - (intOf ti).toNat)
 case atStart => exact ⟨0, ps, b1, d1, b2, d2, Nat.zero_le _, rfl, HJ0, HOK, HB2, V0, V1, V2, HD3, HN0⟩
 case round =>
  clear HJ0 HB2 V0 V1 V2 HD3 HN0
  obtain ⟨i, cur, b1, d1, b2, d2, hi, rfl, HJ, HOKc, HB, V0, V1, V2, HDc, HNc⟩ := hrel
  have x0 := V2.out.c0
  have x1 := V2.out.c1
  by_cases hlt : i < t.size
  ·have hlt' : (i : Int) < (t.size : Int) := by omega
   have hq : at' + i ≤ 159 := by omega
   have hcl : cur.length ≤ 46 := by have := HJ.out.2 hlt; omega
   by_cases hin : k0 + (at' + i) / 64 < ss.length
   rotate_left
   ·have HNO : Hid (hasB ((k0 : Int) + ((at' : Int) + (i : Int)) / 64) ss.length = false) := hasB_no (by omega)
    have HRD : Hid (∀ (W : World), DOwn W (w.heap.size + 1 + 1) b1 d1 b2 d2 ss cur → Calls Tryz.prog 88 #[.agg #[.slice b1 ss.length d1, .slice b2 cur.length d2], .int .i64 ((k0 : Int) + ((at' : Int) + (i : Int)) / 64)] W fun e w' => e = .returned (.tuple #[.string ⟨#[]⟩, .bool false]) ∧ Below W.heap.size W w') := fun W hW => by
     have h := srd20_any ss cur ((k0 : Int) + ((at' : Int) + (i : Int)) / 64) b1 b2 d1 d2 (by omega) (by omega) W hW.s.srow hW.p.prow
     rw [HNO.out] at h
     refine h.mono ?_
     rintro e w' ⟨rfl, h2⟩
     refine ⟨?_, h2⟩
     rw [show rdR ss cur ((k0 : Int) + ((at' : Int) + (i : Int)) / 64) = ⟨#[]⟩ from if_neg (by simp [HNO.out])]
    have V00 := V0
    by_cases hc0 : (t.size : Int) - (i : Int) < 64 - ((at' : Int) + (i : Int)) % 64
    all_goals
     go_wp2_with fail
     refine (HRD.out _ HDc.out).mono ?_
     rintro e w5 ⟨rfl, hb5⟩
     have HB5 : Hid (Below w.heap.size w w5) := HB.out.trans (hb5.mono HB.out.size)
     have V05 : Hid (Bx w5 w.heap.size (.slice a1 ss.length c1) (.slice a2 ps.length c2)) := V0.out.keep hb5 V0.out.lt
     have V15 : Hid (Bx w5 (w.heap.size + 1) (.slice none 0 0) (.slice none 0 0)) := V1.out.keep hb5 V1.out.lt
     clear hb5 x0 x1
     have u0 := V05.out.c0
     have u1 := V05.out.c1
     go_wp2_with fail
     refine (copy64 ss ps a1 a2 c1 c2 B0 (by omega) (by omega) _ (HD.out.below HB5.out)).mono ?_
     rintro e w6 ⟨p1, q1, p2, q2, rfl, hd6, hb6⟩
     have hz5 : w.heap.size + 1 < w5.heap.size := V15.out.lt
     have HD6 : Hid (DOwn w6 (w.heap.size + 1 + 1) p1 q1 p2 q2 ss ps) := hd6.mono hz5
     have HB6 : Hid (Below w.heap.size w w6) := HB5.out.trans (hb6.mono HB5.out.size)
     have R1 : Hid (Bx w6 (w.heap.size + 1) (.slice none 0 0) (.slice none 0 0)) := V15.out.keep hb6 V15.out.lt
     have t0 := R1.out.c0
     have t1 := R1.out.c1
     have tf := R1.out.fz
     have tl := R1.out.lt
     clear hd6 hb6 u0 u1
     go_wp2
     refine bodyPost_ret (v := .tuple #[.agg #[.slice p1 ss.length q1, .slice p2 ps.length q2], .bool false]) (by simp [results, Tryz.results57, go_sem, t0, t1]) rfl ⟨ps, false, p1, q1, p2, q2, rfl, ⟨?_, ?_⟩, HOK.out, by omega, ?_⟩
     ·exact ((HD6.out.s.set (by show w.heap.size + 1 < _; omega) _).set (by show w.heap.size + 1 < _; omega) _).mono (by omega)
     ·exact ((HD6.out.p.set (by show w.heap.size + 1 < _; omega) _).set (by show w.heap.size + 1 < _; omega) _).mono (by omega)
     ·exact (HB6.out.setCell (by show _ ≤ w.heap.size + 1; omega) _).setCell (by show _ ≤ w.heap.size + 1; omega) _
   have HHAS : Hid (hasB ((k0 + (at' + i) / 64 : Nat) : Int) ss.length = true) := hasB_iff.2 ⟨by omega, by omega⟩
   have HWS : Hid ((rdR ss cur ((k0 + (at' + i) / 64 : Nat) : Int)).size = 64) := rdR_is64 (okB_iff.1 HOKc.out) HHAS.out
   have hfl : (at' + i) % 64 < 64 := Nat.mod_lt _ (by omega)
   obtain ⟨kq, hkq⟩ : ∃ kq, kq = (at' + i) / 64 := ⟨_, rfl⟩
   obtain ⟨fr, hfr⟩ : ∃ fr, fr = (at' + i) % 64 := ⟨_, rfl⟩
   have hkk : k0 + kq < ss.length := by omega
   have ecast0 : ((k0 + (at' + i) / 64 : Nat) : Int) = ((k0 : Int) + (kq : Int)) := by rw [hkq]; simp
   have ecast1 : ((k0 : Int) + ((at' : Int) + (i : Int)) / 64) = ((k0 : Int) + (kq : Int)) := by omega
   obtain ⟨was, hwas⟩ : ∃ was, was = rdR ss cur ((k0 : Int) + (kq : Int)) := ⟨_, rfl⟩
   have hws : was.size = 64 := by rw [hwas, ← ecast0]; exact HWS.out
   have HWAS : Hid (rdR ss cur ((k0 : Int) + (kq : Int)) = was) := hwas.symm
   have HRD : Hid (∀ (W : World), DOwn W (w.heap.size + 1 + 1) b1 d1 b2 d2 ss cur → Calls Tryz.prog 88 #[.agg #[.slice b1 ss.length d1, .slice b2 cur.length d2], .int .i64 ((k0 : Int) + ((at' : Int) + (i : Int)) / 64)] W fun e w' => e = .returned (.tuple #[.string was, .bool true]) ∧ Below W.heap.size W w') := fun W hW => by
    have h := srd20_any ss cur ((k0 : Int) + (kq : Int)) b1 b2 d1 d2 (by omega) (by omega) W hW.s.srow hW.p.prow
    have h2 := HHAS.out
    rw [ecast0] at h2
    rw [h2, HWAS.out] at h
    rw [ecast1]
    exact h
   clear ecast0 ecast1 HWS HHAS hwas
   by_cases hc0 : t.size - i < 64 - fr
   ·obtain ⟨n, hn0⟩ : ∃ n, n = t.size - i := ⟨_, rfl⟩
    have HJ2 : Hid (cur0 ps (cur ++ [(((k0 : Int) + (kq : Int)), spl was fr ((t.data.toList.drop i).take n))]) at' (i + n) t.size) := by
     have := HJ.out.2 hlt
     refine ⟨?_, fun h => ?_⟩
     all_goals
      rw [List.length_append]
      simp only [List.length_cons, List.length_nil]
      omega
    have hn64 : fr + n ≤ 64 := by omega
    have hint : i + n ≤ t.size := by omega
    have hnp : 0 < n := by omega
    have HTX : Hid (((was.extract 0 fr ++ t.extract i (i + n)) ++ was.extract (fr + n) 64) = spl was fr ((t.data.toList.drop i).take n)) := by
     have h := spl_cat was t fr i n hint
     rw [hws] at h
     exact h
    have hsz : (spl was fr ((t.data.toList.drop i).take n)).size = 64 := by
     rw [spl_size _ _ _ (by rw [List.length_take, List.length_drop]; omega), hws]
    have HOK2 : Hid (okB ss (cur ++ [(((k0 : Int) + (kq : Int)), spl was fr ((t.data.toList.drop i).take n))]) = true) := (okB_snoc ss cur _ _).2 ⟨HOKc.out, ⟨by omega, by omega⟩, hsz, by omega⟩
    have HSW : Hid (∀ (W : World), DOwn W (w.heap.size + 1 + 1) b1 d1 b2 d2 ss cur → Calls Tryz.prog 60 #[.agg #[.slice b1 ss.length d1, .slice b2 cur.length d2], .int .i64 ((k0 : Int) + (kq : Int)), .string ((was.extract 0 fr ++ t.extract i (i + n)) ++ was.extract (fr + n) 64)] W fun e w' => ∃ y1 y2 y3 y4, e = .returned (.tuple #[.agg #[.slice y1 ss.length y2, .slice y3 (cur ++ [(((k0 : Int) + (kq : Int)), spl was fr ((t.data.toList.drop i).take n))]).length y4], .bool true]) ∧ DOwn w' W.heap.size y1 y2 y3 y4 ss (cur ++ [(((k0 : Int) + (kq : Int)), spl was fr ((t.data.toList.drop i).take n))]) ∧ Below W.heap.size W w') := fun W hW => by
     have h := sws45 ss cur ((k0 : Int) + (kq : Int)) ((was.extract 0 fr ++ t.extract i (i + n)) ++ was.extract (fr + n) 64) b1 b2 d1 d2 _ (by omega) (by omega) W hW
     rw [HTX.out, HOK2.out, wsP_yes HOK2.out] at h
     rw [HTX.out]
     exact h
    have E1 : Hid (((at' : Int) + (i : Int)) / 64 = (kq : Int)) := by show _ = _; omega
    have E2 : Hid (((at' : Int) + (i : Int)) % 64 = (fr : Int)) := by show _ = _; omega
    have EC : Hid ((t.size : Int) - (i : Int) = (n : Int)) := by show _ = _; omega
    have hc : (t.size : Int) - (i : Int) < 64 - ((at' : Int) + (i : Int)) % 64 := by omega
    clear hsz hkq hfr hn0 hc0 hfl
    go_wp2_with fail
    refine (HRD.out _ HDc.out).mono ?_
    rintro e w5 ⟨rfl, hb5⟩
    have HB5 : Hid (Below w.heap.size w w5) := HB.out.trans (hb5.mono HB.out.size)
    have V05 : Hid (Bx w5 w.heap.size (.slice a1 ss.length c1) (.slice a2 ps.length c2)) := V0.out.keep hb5 V0.out.lt
    have V15 : Hid (Bx w5 (w.heap.size + 1) (.slice none 0 0) (.slice none 0 0)) := V1.out.keep hb5 V1.out.lt
    have V25 : Hid (Bx w5 X (.slice b1 ss.length d1) (.slice b2 cur.length d2)) := V2.out.keep hb5 V2.out.lt
    have HD5 : Hid (DOwn w5 (w.heap.size + 1 + 1) b1 d1 b2 d2 ss cur) := HDc.out.below hb5
    clear hb5 x0 x1 HRD V0 V1 V2 HDc HB hc
    rw [E1.out, E2.out]
    rw [EC.out]
    have hn1 : (0 : Int) ≤ (n : Int) := by omega
    have hi0 : (0 : Int) ≤ (i : Int) := by omega
    have hf0 : (0 : Int) ≤ (fr : Int) := by omega
    have hf1 : (fr : Int) ≤ 64 := by omega
    have hfn1 : IntKind.i64.wrap ((fr : Int) + (n : Int)) = (fr : Int) + (n : Int) := by rw [IntKind.wrap_i64]; omega
    have hin1 : IntKind.i64.wrap ((i : Int) + (n : Int)) = (i : Int) + (n : Int) := by rw [IntKind.wrap_i64]; omega
    have hfn2 : (fr : Int) + (n : Int) ≤ 64 := by omega
    have hfn3 : (0 : Int) ≤ (fr : Int) + (n : Int) := by omega
    have hin2 : (i : Int) + (n : Int) ≤ (t.size : Int) := by omega
    have hin3 : (i : Int) ≤ (i : Int) + (n : Int) := by omega
    have hX5 : X < w5.heap.size := V25.out.lt
    have u0 := V25.out.c0
    have u1 := V25.out.c1
    go_wp2
    have hfr64 : fr ≤ 64 := by omega
    have htn1 : ((i : Int) + (n : Int)).toNat = i + n := by omega
    have htn2 : ((fr : Int) + (n : Int)).toNat = fr + n := by omega
    have hs1 : ¬ 9223372036854775807 < fr + n := by omega
    have hs2 : ¬ 9223372036854775807 < fr + n + (64 - (fr + n)) := by omega
    have hXne : w5.heap.size ≠ X := by omega
    go_region_held3 (fun w' => w'.cell? ⟨X, 0, none⟩ = some (.slice b1 ss.length d1) ∧ w'.cell? ⟨X, 1, none⟩ = some (.slice b2 cur.length d2)) (first | go_keep | exact t6.out | exact ⟨(V26.out.alloc _).c0, (V26.out.alloc _).c1⟩ | exact ⟨(V25.out.alloc _).c0, (V25.out.alloc _).c1⟩ | exact ⟨((V26.out.setO hXne _).setO hXne _).c0, ((V26.out.setO hXne _).setO hXne _).c1⟩) ((first | (go_at_call 60; refine (HSW.out _ (by first | exact HD5.out.below (belowRefl _).drew | exact HD5.out.below ((belowRefl _).alloc (Nat.le_refl _) _).drew)).mono ?_; rintro e w6 ⟨y1, y2, y3, y4, rfl, hd6, hb6⟩; have V26 : Hid (Bx w6 X (.slice b1 ss.length d1) (.slice b2 cur.length d2)) := (by first | exact V25.out.keep (undrew hb6) V25.out.lt | exact (V25.out.alloc _).keep (undrew hb6) (V25.out.alloc _).lt); have t6 : Hid (w6.cell? ⟨X, 0, none⟩ = some (.slice b1 ss.length d1) ∧ w6.cell? ⟨X, 1, none⟩ = some (.slice b2 cur.length d2)) := ⟨V26.out.c0, V26.out.c1⟩; try (have N26 : Bx w6 w5.heap.size (.slice none 0 0) (.slice none 0 0) := (Bx.new w5 (.slice none 0 0) (.slice none 0 0) 27).keep (undrew hb6) (Bx.new w5 (.slice none 0 0) (.slice none 0 0) 27).lt; have nc0 := N26.c0; have nc1 := N26.c1; have nfz := N26.fz; have nlt := N26.lt; clear N26))))
    ·have h56 : w5.heap.size ≤ w6.heap.size := by first | exact (undrew hb6).size | (have h := (undrew hb6).size; simp at h; omega)
     have HB6 : Hid (Below w.heap.size w w6) := by first | exact HB5.out.trans ((undrew hb6).mono HB5.out.size) | exact (HB5.out.alloc HB5.out.size _).trans ((undrew hb6).mono (by simp; have := HB5.out.size; omega))
     have V06 : Hid (Bx w6 w.heap.size (.slice a1 ss.length c1) (.slice a2 ps.length c2)) := by first | exact V05.out.keep (undrew hb6) V05.out.lt | exact (V05.out.alloc _).keep (undrew hb6) (V05.out.alloc _).lt
     have V16 : Hid (Bx w6 (w.heap.size + 1) (.slice none 0 0) (.slice none 0 0)) := by first | exact V15.out.keep (undrew hb6) V15.out.lt | exact (V15.out.alloc _).keep (undrew hb6) (V15.out.alloc _).lt
     have HD6 : Hid (DOwn w6 w5.heap.size y1 y2 y3 y4 ss (cur ++ [(((k0 : Int) + (kq : Int)), spl was fr ((t.data.toList.drop i).take n))])) := hd6.mono (by first | exact Nat.le_refl _ | (simp; done))
     have hX0 : X ≠ w.heap.size := by omega
     have hX1 : X ≠ w.heap.size + 1 := by omega
     have hlw : w.heap.size ≤ X := by omega
     have EL : Hid ((cur ++ [(((k0 : Int) + (kq : Int)), spl was fr ((t.data.toList.drop i).take n))]).length = cur.length + 1) := by show _ = _; simp
     have p0 := (V26.out.alloc (.cells #[.slice y1 ss.length y2, .slice y3 (cur.length + 1) y4] 27)).c0
     have p1 := (V26.out.alloc (.cells #[.slice y1 ss.length y2, .slice y3 (cur.length + 1) y4] 27)).c1
     have pf := (V26.out.alloc (.cells #[.slice y1 ss.length y2, .slice y3 (cur.length + 1) y4] 27)).fz
     have hO3 : (Value.slice y1 ss.length y2).ownBlock ≠ some X := fun e => by have := (World.ownsRow.lt HD6.out.s X e).1; omega
     have hO4 : (Value.slice y3 (cur ++ [(((k0 : Int) + (kq : Int)), spl was fr ((t.data.toList.drop i).take n))]).length y4).ownBlock ≠ some X := fun e => by have := (World.ownsRow.lt HD6.out.p X e).1; omega
     have V2n : Hid (Bx (((w6.alloc (.cells #[.slice y1 ss.length y2, .slice y3 (cur.length + 1) y4] 27)).setCell ⟨X, 0, none⟩ (.slice y1 ss.length y2)).setCell ⟨X, 1, none⟩ (.slice y3 (cur.length + 1) y4)) X (.slice y1 ss.length y2) (.slice y3 (cur ++ [(((k0 : Int) + (kq : Int)), spl was fr ((t.data.toList.drop i).take n))]).length y4)) := by
      show Bx _ _ _ _
      rw [EL.out]
      exact (((V26.out.alloc _).set0 _).set1 _)
     have V0n : Hid (Bx (((w6.alloc (.cells #[.slice y1 ss.length y2, .slice y3 (cur.length + 1) y4] 27)).setCell ⟨X, 0, none⟩ (.slice y1 ss.length y2)).setCell ⟨X, 1, none⟩ (.slice y3 (cur.length + 1) y4)) w.heap.size (.slice a1 ss.length c1) (.slice a2 ps.length c2)) := ((V06.out.alloc _).setO hX0 _).setO hX0 _
     have V1n : Hid (Bx (((w6.alloc (.cells #[.slice y1 ss.length y2, .slice y3 (cur.length + 1) y4] 27)).setCell ⟨X, 0, none⟩ (.slice y1 ss.length y2)).setCell ⟨X, 1, none⟩ (.slice y3 (cur.length + 1) y4)) (w.heap.size + 1) (.slice none 0 0) (.slice none 0 0)) := ((V16.out.alloc _).setO hX1 _).setO hX1 _
     have HDn : Hid (DOwn (((w6.alloc (.cells #[.slice y1 ss.length y2, .slice y3 (cur.length + 1) y4] 27)).setCell ⟨X, 0, none⟩ (.slice y1 ss.length y2)).setCell ⟨X, 1, none⟩ (.slice y3 (cur.length + 1) y4)) (w.heap.size + 1 + 1) y1 y2 y3 y4 ss (cur ++ [(((k0 : Int) + (kq : Int)), spl was fr ((t.data.toList.drop i).take n))])) := DOwn.mono (base := w5.heap.size) ⟨own_set (own_set (SOwn.alloc HD6.out.s _) hO3) hO3, own_set (own_set (POwn.alloc HD6.out.p _) hO4) hO4⟩ (by omega)
     have HBn : Hid (Below w.heap.size w (((w6.alloc (.cells #[.slice y1 ss.length y2, .slice y3 (cur.length + 1) y4] 27)).setCell ⟨X, 0, none⟩ (.slice y1 ss.length y2)).setCell ⟨X, 1, none⟩ (.slice y3 (cur.length + 1) y4))) := ((HB6.out.alloc HB6.out.size _).setCell hlw _).setCell hlw _
     have HNn : Hid ((Value.slice y1 ss.length y2).ownBlock ≠ some X ∧ (Value.slice y3 (cur ++ [(((k0 : Int) + (kq : Int)), spl was fr ((t.data.toList.drop i).take n))]).length y4).ownBlock ≠ some X) := ⟨hO3, hO4⟩
     clear hd6 hb6
     go_wp2
     go_roundw
     case rel => exact ⟨i + n, _, y1, y2, y3, y4, by omega, by go_num, HJ2, HOK2, HBn, V0n, V1n, V2n, HDn, HNn⟩
     case measure => simp [intOf]; omega
    ·have h56 : w5.heap.size ≤ w6.heap.size := by first | exact (undrew hb6).size | (have h := (undrew hb6).size; simp at h; omega)
     have HB6 : Hid (Below w.heap.size w w6) := by first | exact HB5.out.trans ((undrew hb6).mono HB5.out.size) | exact (HB5.out.alloc HB5.out.size _).trans ((undrew hb6).mono (by simp; have := HB5.out.size; omega))
     have V06 : Hid (Bx w6 w.heap.size (.slice a1 ss.length c1) (.slice a2 ps.length c2)) := by first | exact V05.out.keep (undrew hb6) V05.out.lt | exact (V05.out.alloc _).keep (undrew hb6) (V05.out.alloc _).lt
     have V16 : Hid (Bx w6 (w.heap.size + 1) (.slice none 0 0) (.slice none 0 0)) := by first | exact V15.out.keep (undrew hb6) V15.out.lt | exact (V15.out.alloc _).keep (undrew hb6) (V15.out.alloc _).lt
     have HD6 : Hid (DOwn w6 w5.heap.size y1 y2 y3 y4 ss (cur ++ [(((k0 : Int) + (kq : Int)), spl was fr ((t.data.toList.drop i).take n))])) := hd6.mono (by first | exact Nat.le_refl _ | (simp; done))
     have hX0 : X ≠ w.heap.size := by omega
     have hX1 : X ≠ w.heap.size + 1 := by omega
     have hlw : w.heap.size ≤ X := by omega
     have EL : Hid ((cur ++ [(((k0 : Int) + (kq : Int)), spl was fr ((t.data.toList.drop i).take n))]).length = cur.length + 1) := by show _ = _; simp
     have h56' : w5.heap.size < w6.heap.size := nlt
     have HD7 : Hid (DOwn w6 (w5.heap.size + 1) y1 y2 y3 y4 ss (cur ++ [(((k0 : Int) + (kq : Int)), spl was fr ((t.data.toList.drop i).take n))])) := hd6.mono (by simp)
     have hXn : w5.heap.size ≠ X := hXne
     have hB0 : w5.heap.size ≠ w.heap.size := by omega
     have hB1 : w5.heap.size ≠ w.heap.size + 1 := by omega
     have hBw : w.heap.size ≤ w5.heap.size := by omega
     have hO1 : (Value.slice y1 ss.length y2).ownBlock ≠ some w5.heap.size := fun e => by have := (World.ownsRow.lt HD7.out.s _ e).1; omega
     have hO2 : (Value.slice y3 (cur ++ [(((k0 : Int) + (kq : Int)), spl was fr ((t.data.toList.drop i).take n))]).length y4).ownBlock ≠ some w5.heap.size := fun e => by have := (World.ownsRow.lt HD7.out.p _ e).1; omega
     have hO3 : (Value.slice y1 ss.length y2).ownBlock ≠ some X := fun e => by have := (World.ownsRow.lt HD6.out.s X e).1; omega
     have hO4 : (Value.slice y3 (cur ++ [(((k0 : Int) + (kq : Int)), spl was fr ((t.data.toList.drop i).take n))]).length y4).ownBlock ≠ some X := fun e => by have := (World.ownsRow.lt HD6.out.p X e).1; omega
     have NB : Hid (Bx ((w6.setCell ⟨w5.heap.size, 0, none⟩ (.slice y1 ss.length y2)).setCell ⟨w5.heap.size, 1, none⟩ (.slice y3 (cur.length + 1) y4)) w5.heap.size (.slice y1 ss.length y2) (.slice y3 (cur.length + 1) y4)) := ((Bx.mk nc0 nc1 nfz nlt).set0 _).set1 _
     have NX : Hid (Bx ((w6.setCell ⟨w5.heap.size, 0, none⟩ (.slice y1 ss.length y2)).setCell ⟨w5.heap.size, 1, none⟩ (.slice y3 (cur.length + 1) y4)) X (.slice b1 ss.length d1) (.slice b2 cur.length d2)) := (V26.out.setO hXn _).setO hXn _
     have r0 := NB.out.c0
     have r1 := NB.out.c1
     have p0 := NX.out.c0
     have p1 := NX.out.c1
     have pf := NX.out.fz
     have V2n : Hid (Bx ((((w6.setCell ⟨w5.heap.size, 0, none⟩ (.slice y1 ss.length y2)).setCell ⟨w5.heap.size, 1, none⟩ (.slice y3 (cur.length + 1) y4)).setCell ⟨X, 0, none⟩ (.slice y1 ss.length y2)).setCell ⟨X, 1, none⟩ (.slice y3 (cur.length + 1) y4)) X (.slice y1 ss.length y2) (.slice y3 (cur ++ [(((k0 : Int) + (kq : Int)), spl was fr ((t.data.toList.drop i).take n))]).length y4)) := by
      show Bx _ _ _ _
      rw [EL.out]
      exact ((((V26.out.setO hXn _).setO hXn _).set0 _).set1 _)
     have V0n : Hid (Bx ((((w6.setCell ⟨w5.heap.size, 0, none⟩ (.slice y1 ss.length y2)).setCell ⟨w5.heap.size, 1, none⟩ (.slice y3 (cur.length + 1) y4)).setCell ⟨X, 0, none⟩ (.slice y1 ss.length y2)).setCell ⟨X, 1, none⟩ (.slice y3 (cur.length + 1) y4)) w.heap.size (.slice a1 ss.length c1) (.slice a2 ps.length c2)) := ((((V06.out.setO hB0 _).setO hB0 _).setO hX0 _).setO hX0 _)
     have V1n : Hid (Bx ((((w6.setCell ⟨w5.heap.size, 0, none⟩ (.slice y1 ss.length y2)).setCell ⟨w5.heap.size, 1, none⟩ (.slice y3 (cur.length + 1) y4)).setCell ⟨X, 0, none⟩ (.slice y1 ss.length y2)).setCell ⟨X, 1, none⟩ (.slice y3 (cur.length + 1) y4)) (w.heap.size + 1) (.slice none 0 0) (.slice none 0 0)) := ((((V16.out.setO hB1 _).setO hB1 _).setO hX1 _).setO hX1 _)
     have HDn : Hid (DOwn ((((w6.setCell ⟨w5.heap.size, 0, none⟩ (.slice y1 ss.length y2)).setCell ⟨w5.heap.size, 1, none⟩ (.slice y3 (cur.length + 1) y4)).setCell ⟨X, 0, none⟩ (.slice y1 ss.length y2)).setCell ⟨X, 1, none⟩ (.slice y3 (cur.length + 1) y4)) (w.heap.size + 1 + 1) y1 y2 y3 y4 ss (cur ++ [(((k0 : Int) + (kq : Int)), spl was fr ((t.data.toList.drop i).take n))])) := DOwn.mono (base := w5.heap.size) ⟨own_set (own_set (own_set (own_set HD6.out.s hO1) hO1) hO3) hO3, own_set (own_set (own_set (own_set HD6.out.p hO2) hO2) hO4) hO4⟩ (by omega)
     have HBn : Hid (Below w.heap.size w ((((w6.setCell ⟨w5.heap.size, 0, none⟩ (.slice y1 ss.length y2)).setCell ⟨w5.heap.size, 1, none⟩ (.slice y3 (cur.length + 1) y4)).setCell ⟨X, 0, none⟩ (.slice y1 ss.length y2)).setCell ⟨X, 1, none⟩ (.slice y3 (cur.length + 1) y4))) := ((((HB6.out.setCell hBw _).setCell hBw _).setCell hlw _).setCell hlw _)
     have HNn : Hid ((Value.slice y1 ss.length y2).ownBlock ≠ some X ∧ (Value.slice y3 (cur ++ [(((k0 : Int) + (kq : Int)), spl was fr ((t.data.toList.drop i).take n))]).length y4).ownBlock ≠ some X) := ⟨hO3, hO4⟩
     clear hd6 hb6
     go_wp2
     go_roundw
     case rel => exact ⟨i + n, _, y1, y2, y3, y4, by omega, by go_num, HJ2, HOK2, HBn, V0n, V1n, V2n, HDn, HNn⟩
     case measure => simp [intOf]; omega
   ·obtain ⟨n, hn0⟩ : ∃ n, n = 64 - fr := ⟨_, rfl⟩
    have HJ2 : Hid (cur0 ps (cur ++ [(((k0 : Int) + (kq : Int)), spl was fr ((t.data.toList.drop i).take n))]) at' (i + n) t.size) := by
     have := HJ.out.2 hlt
     refine ⟨?_, fun h => ?_⟩
     all_goals
      rw [List.length_append]
      simp only [List.length_cons, List.length_nil]
      omega
    have hn64 : fr + n ≤ 64 := by omega
    have hint : i + n ≤ t.size := by omega
    have hnp : 0 < n := by omega
    have HTX : Hid (((was.extract 0 fr ++ t.extract i (i + n)) ++ was.extract (fr + n) 64) = spl was fr ((t.data.toList.drop i).take n)) := by
     have h := spl_cat was t fr i n hint
     rw [hws] at h
     exact h
    have hsz : (spl was fr ((t.data.toList.drop i).take n)).size = 64 := by
     rw [spl_size _ _ _ (by rw [List.length_take, List.length_drop]; omega), hws]
    have HOK2 : Hid (okB ss (cur ++ [(((k0 : Int) + (kq : Int)), spl was fr ((t.data.toList.drop i).take n))]) = true) := (okB_snoc ss cur _ _).2 ⟨HOKc.out, ⟨by omega, by omega⟩, hsz, by omega⟩
    have HSW : Hid (∀ (W : World), DOwn W (w.heap.size + 1 + 1) b1 d1 b2 d2 ss cur → Calls Tryz.prog 60 #[.agg #[.slice b1 ss.length d1, .slice b2 cur.length d2], .int .i64 ((k0 : Int) + (kq : Int)), .string ((was.extract 0 fr ++ t.extract i (i + n)) ++ was.extract (fr + n) 64)] W fun e w' => ∃ y1 y2 y3 y4, e = .returned (.tuple #[.agg #[.slice y1 ss.length y2, .slice y3 (cur ++ [(((k0 : Int) + (kq : Int)), spl was fr ((t.data.toList.drop i).take n))]).length y4], .bool true]) ∧ DOwn w' W.heap.size y1 y2 y3 y4 ss (cur ++ [(((k0 : Int) + (kq : Int)), spl was fr ((t.data.toList.drop i).take n))]) ∧ Below W.heap.size W w') := fun W hW => by
     have h := sws45 ss cur ((k0 : Int) + (kq : Int)) ((was.extract 0 fr ++ t.extract i (i + n)) ++ was.extract (fr + n) 64) b1 b2 d1 d2 _ (by omega) (by omega) W hW
     rw [HTX.out, HOK2.out, wsP_yes HOK2.out] at h
     rw [HTX.out]
     exact h
    have E1 : Hid (((at' : Int) + (i : Int)) / 64 = (kq : Int)) := by show _ = _; omega
    have E2 : Hid (((at' : Int) + (i : Int)) % 64 = (fr : Int)) := by show _ = _; omega
    have EC : Hid ((64 : Int) - (fr : Int) = (n : Int)) := by show _ = _; omega
    have hc : ¬ (t.size : Int) - (i : Int) < 64 - ((at' : Int) + (i : Int)) % 64 := by omega
    clear hsz hkq hfr hn0 hc0 hfl
    go_wp2_with fail
    refine (HRD.out _ HDc.out).mono ?_
    rintro e w5 ⟨rfl, hb5⟩
    have HB5 : Hid (Below w.heap.size w w5) := HB.out.trans (hb5.mono HB.out.size)
    have V05 : Hid (Bx w5 w.heap.size (.slice a1 ss.length c1) (.slice a2 ps.length c2)) := V0.out.keep hb5 V0.out.lt
    have V15 : Hid (Bx w5 (w.heap.size + 1) (.slice none 0 0) (.slice none 0 0)) := V1.out.keep hb5 V1.out.lt
    have V25 : Hid (Bx w5 X (.slice b1 ss.length d1) (.slice b2 cur.length d2)) := V2.out.keep hb5 V2.out.lt
    have HD5 : Hid (DOwn w5 (w.heap.size + 1 + 1) b1 d1 b2 d2 ss cur) := HDc.out.below hb5
    clear hb5 x0 x1 HRD V0 V1 V2 HDc HB hc
    rw [E1.out, E2.out, EC.out]
    have hn1 : (0 : Int) ≤ (n : Int) := by omega
    have hi0 : (0 : Int) ≤ (i : Int) := by omega
    have hf0 : (0 : Int) ≤ (fr : Int) := by omega
    have hf1 : (fr : Int) ≤ 64 := by omega
    have hfn1 : IntKind.i64.wrap ((fr : Int) + (n : Int)) = (fr : Int) + (n : Int) := by rw [IntKind.wrap_i64]; omega
    have hin1 : IntKind.i64.wrap ((i : Int) + (n : Int)) = (i : Int) + (n : Int) := by rw [IntKind.wrap_i64]; omega
    have hfn2 : (fr : Int) + (n : Int) ≤ 64 := by omega
    have hfn3 : (0 : Int) ≤ (fr : Int) + (n : Int) := by omega
    have hin2 : (i : Int) + (n : Int) ≤ (t.size : Int) := by omega
    have hin3 : (i : Int) ≤ (i : Int) + (n : Int) := by omega
    have hX5 : X < w5.heap.size := V25.out.lt
    have u0 := V25.out.c0
    have u1 := V25.out.c1
    go_wp2
    have hfr64 : fr ≤ 64 := by omega
    have htn1 : ((i : Int) + (n : Int)).toNat = i + n := by omega
    have htn2 : ((fr : Int) + (n : Int)).toNat = fr + n := by omega
    have hs1 : ¬ 9223372036854775807 < fr + n := by omega
    have hs2 : ¬ 9223372036854775807 < fr + n + (64 - (fr + n)) := by omega
    have hXne : w5.heap.size ≠ X := by omega
    go_region_held3 (fun w' => w'.cell? ⟨X, 0, none⟩ = some (.slice b1 ss.length d1) ∧ w'.cell? ⟨X, 1, none⟩ = some (.slice b2 cur.length d2)) (first | go_keep | exact t6.out | exact ⟨(V26.out.alloc _).c0, (V26.out.alloc _).c1⟩ | exact ⟨(V25.out.alloc _).c0, (V25.out.alloc _).c1⟩ | exact ⟨((V26.out.setO hXne _).setO hXne _).c0, ((V26.out.setO hXne _).setO hXne _).c1⟩) ((first | (go_at_call 60; refine (HSW.out _ (by first | exact HD5.out.below (belowRefl _).drew | exact HD5.out.below ((belowRefl _).alloc (Nat.le_refl _) _).drew)).mono ?_; rintro e w6 ⟨y1, y2, y3, y4, rfl, hd6, hb6⟩; have V26 : Hid (Bx w6 X (.slice b1 ss.length d1) (.slice b2 cur.length d2)) := (by first | exact V25.out.keep (undrew hb6) V25.out.lt | exact (V25.out.alloc _).keep (undrew hb6) (V25.out.alloc _).lt); have t6 : Hid (w6.cell? ⟨X, 0, none⟩ = some (.slice b1 ss.length d1) ∧ w6.cell? ⟨X, 1, none⟩ = some (.slice b2 cur.length d2)) := ⟨V26.out.c0, V26.out.c1⟩; try (have N26 : Bx w6 w5.heap.size (.slice none 0 0) (.slice none 0 0) := (Bx.new w5 (.slice none 0 0) (.slice none 0 0) 27).keep (undrew hb6) (Bx.new w5 (.slice none 0 0) (.slice none 0 0) 27).lt; have nc0 := N26.c0; have nc1 := N26.c1; have nfz := N26.fz; have nlt := N26.lt; clear N26))))
    ·have h56 : w5.heap.size ≤ w6.heap.size := by first | exact (undrew hb6).size | (have h := (undrew hb6).size; simp at h; omega)
     have HB6 : Hid (Below w.heap.size w w6) := by first | exact HB5.out.trans ((undrew hb6).mono HB5.out.size) | exact (HB5.out.alloc HB5.out.size _).trans ((undrew hb6).mono (by simp; have := HB5.out.size; omega))
     have V06 : Hid (Bx w6 w.heap.size (.slice a1 ss.length c1) (.slice a2 ps.length c2)) := by first | exact V05.out.keep (undrew hb6) V05.out.lt | exact (V05.out.alloc _).keep (undrew hb6) (V05.out.alloc _).lt
     have V16 : Hid (Bx w6 (w.heap.size + 1) (.slice none 0 0) (.slice none 0 0)) := by first | exact V15.out.keep (undrew hb6) V15.out.lt | exact (V15.out.alloc _).keep (undrew hb6) (V15.out.alloc _).lt
     have HD6 : Hid (DOwn w6 w5.heap.size y1 y2 y3 y4 ss (cur ++ [(((k0 : Int) + (kq : Int)), spl was fr ((t.data.toList.drop i).take n))])) := hd6.mono (by first | exact Nat.le_refl _ | (simp; done))
     have hX0 : X ≠ w.heap.size := by omega
     have hX1 : X ≠ w.heap.size + 1 := by omega
     have hlw : w.heap.size ≤ X := by omega
     have EL : Hid ((cur ++ [(((k0 : Int) + (kq : Int)), spl was fr ((t.data.toList.drop i).take n))]).length = cur.length + 1) := by show _ = _; simp
     have p0 := (V26.out.alloc (.cells #[.slice y1 ss.length y2, .slice y3 (cur.length + 1) y4] 27)).c0
     have p1 := (V26.out.alloc (.cells #[.slice y1 ss.length y2, .slice y3 (cur.length + 1) y4] 27)).c1
     have pf := (V26.out.alloc (.cells #[.slice y1 ss.length y2, .slice y3 (cur.length + 1) y4] 27)).fz
     have hO3 : (Value.slice y1 ss.length y2).ownBlock ≠ some X := fun e => by have := (World.ownsRow.lt HD6.out.s X e).1; omega
     have hO4 : (Value.slice y3 (cur ++ [(((k0 : Int) + (kq : Int)), spl was fr ((t.data.toList.drop i).take n))]).length y4).ownBlock ≠ some X := fun e => by have := (World.ownsRow.lt HD6.out.p X e).1; omega
     have V2n : Hid (Bx (((w6.alloc (.cells #[.slice y1 ss.length y2, .slice y3 (cur.length + 1) y4] 27)).setCell ⟨X, 0, none⟩ (.slice y1 ss.length y2)).setCell ⟨X, 1, none⟩ (.slice y3 (cur.length + 1) y4)) X (.slice y1 ss.length y2) (.slice y3 (cur ++ [(((k0 : Int) + (kq : Int)), spl was fr ((t.data.toList.drop i).take n))]).length y4)) := by
      show Bx _ _ _ _
      rw [EL.out]
      exact (((V26.out.alloc _).set0 _).set1 _)
     have V0n : Hid (Bx (((w6.alloc (.cells #[.slice y1 ss.length y2, .slice y3 (cur.length + 1) y4] 27)).setCell ⟨X, 0, none⟩ (.slice y1 ss.length y2)).setCell ⟨X, 1, none⟩ (.slice y3 (cur.length + 1) y4)) w.heap.size (.slice a1 ss.length c1) (.slice a2 ps.length c2)) := ((V06.out.alloc _).setO hX0 _).setO hX0 _
     have V1n : Hid (Bx (((w6.alloc (.cells #[.slice y1 ss.length y2, .slice y3 (cur.length + 1) y4] 27)).setCell ⟨X, 0, none⟩ (.slice y1 ss.length y2)).setCell ⟨X, 1, none⟩ (.slice y3 (cur.length + 1) y4)) (w.heap.size + 1) (.slice none 0 0) (.slice none 0 0)) := ((V16.out.alloc _).setO hX1 _).setO hX1 _
     have HDn : Hid (DOwn (((w6.alloc (.cells #[.slice y1 ss.length y2, .slice y3 (cur.length + 1) y4] 27)).setCell ⟨X, 0, none⟩ (.slice y1 ss.length y2)).setCell ⟨X, 1, none⟩ (.slice y3 (cur.length + 1) y4)) (w.heap.size + 1 + 1) y1 y2 y3 y4 ss (cur ++ [(((k0 : Int) + (kq : Int)), spl was fr ((t.data.toList.drop i).take n))])) := DOwn.mono (base := w5.heap.size) ⟨own_set (own_set (SOwn.alloc HD6.out.s _) hO3) hO3, own_set (own_set (POwn.alloc HD6.out.p _) hO4) hO4⟩ (by omega)
     have HBn : Hid (Below w.heap.size w (((w6.alloc (.cells #[.slice y1 ss.length y2, .slice y3 (cur.length + 1) y4] 27)).setCell ⟨X, 0, none⟩ (.slice y1 ss.length y2)).setCell ⟨X, 1, none⟩ (.slice y3 (cur.length + 1) y4))) := ((HB6.out.alloc HB6.out.size _).setCell hlw _).setCell hlw _
     have HNn : Hid ((Value.slice y1 ss.length y2).ownBlock ≠ some X ∧ (Value.slice y3 (cur ++ [(((k0 : Int) + (kq : Int)), spl was fr ((t.data.toList.drop i).take n))]).length y4).ownBlock ≠ some X) := ⟨hO3, hO4⟩
     clear hd6 hb6
     go_wp2
     go_roundw
     case rel => exact ⟨i + n, _, y1, y2, y3, y4, by omega, by go_num, HJ2, HOK2, HBn, V0n, V1n, V2n, HDn, HNn⟩
     case measure => simp [intOf]; omega
    ·have h56 : w5.heap.size ≤ w6.heap.size := by first | exact (undrew hb6).size | (have h := (undrew hb6).size; simp at h; omega)
     have HB6 : Hid (Below w.heap.size w w6) := by first | exact HB5.out.trans ((undrew hb6).mono HB5.out.size) | exact (HB5.out.alloc HB5.out.size _).trans ((undrew hb6).mono (by simp; have := HB5.out.size; omega))
     have V06 : Hid (Bx w6 w.heap.size (.slice a1 ss.length c1) (.slice a2 ps.length c2)) := by first | exact V05.out.keep (undrew hb6) V05.out.lt | exact (V05.out.alloc _).keep (undrew hb6) (V05.out.alloc _).lt
     have V16 : Hid (Bx w6 (w.heap.size + 1) (.slice none 0 0) (.slice none 0 0)) := by first | exact V15.out.keep (undrew hb6) V15.out.lt | exact (V15.out.alloc _).keep (undrew hb6) (V15.out.alloc _).lt
     have HD6 : Hid (DOwn w6 w5.heap.size y1 y2 y3 y4 ss (cur ++ [(((k0 : Int) + (kq : Int)), spl was fr ((t.data.toList.drop i).take n))])) := hd6.mono (by first | exact Nat.le_refl _ | (simp; done))
     have hX0 : X ≠ w.heap.size := by omega
     have hX1 : X ≠ w.heap.size + 1 := by omega
     have hlw : w.heap.size ≤ X := by omega
     have EL : Hid ((cur ++ [(((k0 : Int) + (kq : Int)), spl was fr ((t.data.toList.drop i).take n))]).length = cur.length + 1) := by show _ = _; simp
     have h56' : w5.heap.size < w6.heap.size := nlt
     have HD7 : Hid (DOwn w6 (w5.heap.size + 1) y1 y2 y3 y4 ss (cur ++ [(((k0 : Int) + (kq : Int)), spl was fr ((t.data.toList.drop i).take n))])) := hd6.mono (by simp)
     have hXn : w5.heap.size ≠ X := hXne
     have hB0 : w5.heap.size ≠ w.heap.size := by omega
     have hB1 : w5.heap.size ≠ w.heap.size + 1 := by omega
     have hBw : w.heap.size ≤ w5.heap.size := by omega
     have hO1 : (Value.slice y1 ss.length y2).ownBlock ≠ some w5.heap.size := fun e => by have := (World.ownsRow.lt HD7.out.s _ e).1; omega
     have hO2 : (Value.slice y3 (cur ++ [(((k0 : Int) + (kq : Int)), spl was fr ((t.data.toList.drop i).take n))]).length y4).ownBlock ≠ some w5.heap.size := fun e => by have := (World.ownsRow.lt HD7.out.p _ e).1; omega
     have hO3 : (Value.slice y1 ss.length y2).ownBlock ≠ some X := fun e => by have := (World.ownsRow.lt HD6.out.s X e).1; omega
     have hO4 : (Value.slice y3 (cur ++ [(((k0 : Int) + (kq : Int)), spl was fr ((t.data.toList.drop i).take n))]).length y4).ownBlock ≠ some X := fun e => by have := (World.ownsRow.lt HD6.out.p X e).1; omega
     have NB : Hid (Bx ((w6.setCell ⟨w5.heap.size, 0, none⟩ (.slice y1 ss.length y2)).setCell ⟨w5.heap.size, 1, none⟩ (.slice y3 (cur.length + 1) y4)) w5.heap.size (.slice y1 ss.length y2) (.slice y3 (cur.length + 1) y4)) := ((Bx.mk nc0 nc1 nfz nlt).set0 _).set1 _
     have NX : Hid (Bx ((w6.setCell ⟨w5.heap.size, 0, none⟩ (.slice y1 ss.length y2)).setCell ⟨w5.heap.size, 1, none⟩ (.slice y3 (cur.length + 1) y4)) X (.slice b1 ss.length d1) (.slice b2 cur.length d2)) := (V26.out.setO hXn _).setO hXn _
     have r0 := NB.out.c0
     have r1 := NB.out.c1
     have p0 := NX.out.c0
     have p1 := NX.out.c1
     have pf := NX.out.fz
     have V2n : Hid (Bx ((((w6.setCell ⟨w5.heap.size, 0, none⟩ (.slice y1 ss.length y2)).setCell ⟨w5.heap.size, 1, none⟩ (.slice y3 (cur.length + 1) y4)).setCell ⟨X, 0, none⟩ (.slice y1 ss.length y2)).setCell ⟨X, 1, none⟩ (.slice y3 (cur.length + 1) y4)) X (.slice y1 ss.length y2) (.slice y3 (cur ++ [(((k0 : Int) + (kq : Int)), spl was fr ((t.data.toList.drop i).take n))]).length y4)) := by
      show Bx _ _ _ _
      rw [EL.out]
      exact ((((V26.out.setO hXn _).setO hXn _).set0 _).set1 _)
     have V0n : Hid (Bx ((((w6.setCell ⟨w5.heap.size, 0, none⟩ (.slice y1 ss.length y2)).setCell ⟨w5.heap.size, 1, none⟩ (.slice y3 (cur.length + 1) y4)).setCell ⟨X, 0, none⟩ (.slice y1 ss.length y2)).setCell ⟨X, 1, none⟩ (.slice y3 (cur.length + 1) y4)) w.heap.size (.slice a1 ss.length c1) (.slice a2 ps.length c2)) := ((((V06.out.setO hB0 _).setO hB0 _).setO hX0 _).setO hX0 _)
     have V1n : Hid (Bx ((((w6.setCell ⟨w5.heap.size, 0, none⟩ (.slice y1 ss.length y2)).setCell ⟨w5.heap.size, 1, none⟩ (.slice y3 (cur.length + 1) y4)).setCell ⟨X, 0, none⟩ (.slice y1 ss.length y2)).setCell ⟨X, 1, none⟩ (.slice y3 (cur.length + 1) y4)) (w.heap.size + 1) (.slice none 0 0) (.slice none 0 0)) := ((((V16.out.setO hB1 _).setO hB1 _).setO hX1 _).setO hX1 _)
     have HDn : Hid (DOwn ((((w6.setCell ⟨w5.heap.size, 0, none⟩ (.slice y1 ss.length y2)).setCell ⟨w5.heap.size, 1, none⟩ (.slice y3 (cur.length + 1) y4)).setCell ⟨X, 0, none⟩ (.slice y1 ss.length y2)).setCell ⟨X, 1, none⟩ (.slice y3 (cur.length + 1) y4)) (w.heap.size + 1 + 1) y1 y2 y3 y4 ss (cur ++ [(((k0 : Int) + (kq : Int)), spl was fr ((t.data.toList.drop i).take n))])) := DOwn.mono (base := w5.heap.size) ⟨own_set (own_set (own_set (own_set HD6.out.s hO1) hO1) hO3) hO3, own_set (own_set (own_set (own_set HD6.out.p hO2) hO2) hO4) hO4⟩ (by omega)
     have HBn : Hid (Below w.heap.size w ((((w6.setCell ⟨w5.heap.size, 0, none⟩ (.slice y1 ss.length y2)).setCell ⟨w5.heap.size, 1, none⟩ (.slice y3 (cur.length + 1) y4)).setCell ⟨X, 0, none⟩ (.slice y1 ss.length y2)).setCell ⟨X, 1, none⟩ (.slice y3 (cur.length + 1) y4))) := ((((HB6.out.setCell hBw _).setCell hBw _).setCell hlw _).setCell hlw _)
     have HNn : Hid ((Value.slice y1 ss.length y2).ownBlock ≠ some X ∧ (Value.slice y3 (cur ++ [(((k0 : Int) + (kq : Int)), spl was fr ((t.data.toList.drop i).take n))]).length y4).ownBlock ≠ some X) := ⟨hO3, hO4⟩
     clear hd6 hb6
     go_wp2
     go_roundw
     case rel => exact ⟨i + n, _, y1, y2, y3, y4, by omega, by go_num, HJ2, HOK2, HBn, V0n, V1n, V2n, HDn, HNn⟩
     case measure => simp [intOf]; omega
  ·have hlt' : ¬ (i : Int) < (t.size : Int) := by omega
   obtain rfl : i = t.size := by omega
   have tl := V1.out.lt
   have t0 := V1.out.c0
   have t1 := V1.out.c1
   have tf := V1.out.fz
   go_wp2
   refine bodyPost_ret (v := .tuple #[.agg #[.slice b1 ss.length d1, .slice b2 cur.length d2], .bool true]) (by simp [results, Tryz.results57, go_sem, t0, t1]) rfl ⟨cur, true, b1, d1, b2, d2, rfl, ⟨?_, ?_⟩, HOKc.out, HJ.out.1, ?_⟩
   ·exact ((HDc.out.s.set (by show w.heap.size + 1 < _; omega) _).set (by show w.heap.size + 1 < _; omega) _).mono (by omega)
   ·exact ((HDc.out.p.set (by show w.heap.size + 1 < _; omega) _).set (by show w.heap.size + 1 < _; omega) _).mono (by omega)
   ·exact (HB.out.setCell (by show _ ≤ w.heap.size + 1; omega) _).setCell (by show _ ≤ w.heap.size + 1; omega) _
end Go.Proofs.YtekjpoenbcnhdaaGreat

/- What spec.CutAppend returns. -/
import Derived.Test.YtekjpoenbcnhdaaGreatPa20
import Derived.Test.YtekjpoenbcnhdaaGreatPa27
import Derived.Test.YtekjpoenbcnhdaaGreatPa12
import Derived.Deep.Cut
import Derived.Deep.CutRange
import Derived.Deep.RegionHeld3
namespace Go.Proofs.YtekjpoenbcnhdaaGreat
open Go.RowKit
open DM
attribute [local go_sem ↓] Go.wp_at_zero Go.wp_at_succ

def caS (ss : List ByteArray) (ps : List Wr) (t : ByteArray) (st : Int) (ks : List Int) (tr : Int) : List ByteArray :=
 if prB ss ps (act ss ps) t = true then
  (if st = 0 then crS ss (recW ss ps (act ss ps) t) ks tr
   else if st = 1 then crS (flS ss (recW ss ps (act ss ps) t)) (wb (flS ss (recW ss ps (act ss ps) t)) (af (act ss ps)).toNat 0 [UInt8.ofNat ((cnt ss ps (act ss ps)).toNat + 1)]) ks tr
   else putS ss ps (act ss ps) t)
 else ss
theorem caS_no {ss : List ByteArray} {ps : List Wr} {t : ByteArray} {st : Int} {ks : List Int} {tr : Int} (h : prB ss ps (act ss ps) t = false) : caS ss ps t st ks tr = ss := if_neg (by simp [h])
theorem caS_0 {ss : List ByteArray} {ps : List Wr} {t : ByteArray} {ks : List Int} {tr : Int} (h : prB ss ps (act ss ps) t = true) : caS ss ps t 0 ks tr = crS ss (recW ss ps (act ss ps) t) ks tr := by
 unfold caS
 rw [if_pos h, if_pos rfl]
theorem caS_1 {ss : List ByteArray} {ps : List Wr} {t : ByteArray} {ks : List Int} {tr : Int} (h : prB ss ps (act ss ps) t = true) : caS ss ps t 1 ks tr = crS (flS ss (recW ss ps (act ss ps) t)) (wb (flS ss (recW ss ps (act ss ps) t)) (af (act ss ps)).toNat 0 [UInt8.ofNat ((cnt ss ps (act ss ps)).toNat + 1)]) ks tr := by
 unfold caS
 rw [if_pos h, if_neg (by decide), if_pos rfl]
theorem caS_2 {ss : List ByteArray} {ps : List Wr} {t : ByteArray} {st : Int} {ks : List Int} {tr : Int} (h : prB ss ps (act ss ps) t = true) (h0 : st ≠ 0) (h1 : st ≠ 1) : caS ss ps t st ks tr = putS ss ps (act ss ps) t := by
 unfold caS
 rw [if_pos h, if_neg h0, if_neg h1]

set_option maxRecDepth 100000 in
set_option maxHeartbeats 8000000 in
theorem scutA (ss : List ByteArray) (ps : List Wr) (t : ByteArray) (st : Int) (ks : List Int) (tr : Int) (a1 a2 ak : Option Addr) (c1 c2 ck B0 : Nat) (hn : ss.length ≤ 1048576) (hm : ps.length ≤ 1048576) (hs : ∀ s ∈ ss, s.size ≤ 1048576) (hp : ∀ p ∈ ps, p.2.size ≤ 1048576) (htz : t.size ≤ 1048576) (hkl : ks.length ≤ 9223372036854775807) (w : World) (hd : DOwn w B0 a1 c1 a2 c2 ss ps) (hk : KRow w ak ks) :
  Calls Tryz.prog 11 #[.agg #[.slice a1 ss.length c1, .slice a2 ps.length c2], .string t, .int .i64 st, .slice ak ks.length ck, .int .i64 tr] w fun e w' => ∃ b1 d1 b2 d2, e = .returned (.agg #[.slice b1 (caS ss ps t st ks tr).length d1, .slice b2 ps.length d2]) ∧ DOwn w' w.heap.size b1 d1 b2 d2 (caS ss ps t st ks tr) ps ∧ Below w.heap.size w w' := by
 have HAP : Hid (∀ (B : Nat) (W : World) (z1 : Option Addr) (z2 : Nat) (z3 : Option Addr) (z4 : Nat), DOwn W B z1 z2 z3 z4 ss ps → Calls Tryz.prog 27 #[.agg #[.slice z1 ss.length z2, .slice z3 ps.length z4], .string t] W fun e w' => ∃ f1 f2 f3 f4, e = .returned (.tuple #[.agg #[.slice f1 (prS ss ps (act ss ps) t).length f2, .slice f3 ps.length f4], .bool (prB ss ps (act ss ps) t)]) ∧ DOwn w' W.heap.size f1 f2 f3 f4 (prS ss ps (act ss ps) t) ps ∧ Below W.heap.size W w') := fun B W z1 z2 z3 z4 h => sapp38 ss ps t z1 z3 z2 z4 B hn hm hs hp htz W h
 have HCP : Hid (∀ (B : Nat) (W : World) (z1 : Option Addr) (z2 : Nat) (z3 : Option Addr) (z4 : Nat), DOwn W B z1 z2 z3 z4 ss ps → Calls Tryz.prog 25 #[.agg #[.slice z1 ss.length z2, .slice z3 ps.length z4]] W fun e w' => ∃ f1 f2 f3 f4, e = .returned (.agg #[.slice f1 ss.length f2, .slice f3 ps.length f4]) ∧ DOwn w' W.heap.size f1 f2 f3 f4 ss ps ∧ Below W.heap.size W w') := fun B W z1 z2 z3 z4 h => copy64 ss ps z1 z3 z2 z4 B (by omega) (by omega) W h
 cases hB : prB ss ps (act ss ps) t with
 | false =>
  rw [caS_no hB]
  have hpn : prS ss ps (act ss ps) t = ss := if_neg (by simp [hB])
  rw [hB, hpn] at HAP
  have b0 : Hid (Below w.heap.size w ((w.alloc (.cells #[.slice a1 ss.length c1, .slice a2 ps.length c2] 27)).alloc (.cells #[.slice none 0 0, .slice none 0 0] 27))) := ((belowRefl w).alloc (Nat.le_refl _) _).alloc (by simp) _
  have hzz : w.heap.size + 1 + 1 = ((w.alloc (.cells #[.slice a1 ss.length c1, .slice a2 ps.length c2] 27)).alloc (.cells #[.slice none 0 0, .slice none 0 0] 27)).heap.size := by simp
  have X5 : Hid (Bx ((w.alloc (.cells #[.slice a1 ss.length c1, .slice a2 ps.length c2] 27)).alloc (.cells #[.slice none 0 0, .slice none 0 0] 27)) w.heap.size (.slice a1 ss.length c1) (.slice a2 ps.length c2)) := (Bx.new w _ _ _).alloc _
  have X10 : Hid (Bx ((w.alloc (.cells #[.slice a1 ss.length c1, .slice a2 ps.length c2] 27)).alloc (.cells #[.slice none 0 0, .slice none 0 0] 27)) (w.heap.size + 1) (.slice none 0 0) (.slice none 0 0)) := by
   have h := Bx.new (w.alloc (.cells #[.slice a1 ss.length c1, .slice a2 ps.length c2] 27)) (.slice none 0 0) (.slice none 0 0) 27
   rw [World.size_alloc] at h
   exact h
  have DA : Hid (DOwn ((w.alloc (.cells #[.slice a1 ss.length c1, .slice a2 ps.length c2] 27)).alloc (.cells #[.slice none 0 0, .slice none 0 0] 27)) B0 a1 c1 a2 c2 ss ps) := hd.below b0.out
  have HK0 : Hid (KRow w ak ks) := hk
  have KA : Hid (KRow ((w.alloc (.cells #[.slice a1 ss.length c1, .slice a2 ps.length c2] 27)).alloc (.cells #[.slice none 0 0, .slice none 0 0] 27)) ak ks) := hk.below b0.out
  replace b0 := b0
  clear hs hp hB hpn hd hk
  have g0 := X5.out.c0
  have g1 := X5.out.c1
  go_enter Tryz.func11, Tryz.ntmps11
  go_wp2_with fail
  generalize ((w.alloc (.cells #[.slice a1 ss.length c1, .slice a2 ps.length c2] 27)).alloc (.cells #[.slice none 0 0, .slice none 0 0] 27)) = v0 at *
  refine (HAP.out _ _ _ _ _ _ DA.out).mono ?_
  rintro e w1 ⟨y1, y2, y3, y4, rfl, hd1, hb1⟩
  replace X5 : Hid (Bx w1 w.heap.size (.slice a1 ss.length c1) (.slice a2 ps.length c2)) := X5.out.keep hb1 X5.out.lt
  replace X10 : Hid (Bx w1 (w.heap.size + 1) (.slice none 0 0) (.slice none 0 0)) := X10.out.keep hb1 X10.out.lt
  replace DA : Hid (DOwn w1 B0 a1 c1 a2 c2 ss ps) := DA.out.below hb1
  replace KA : Hid (KRow w1 ak ks) := KA.out.below hb1
  replace b0 : Hid (Below w.heap.size w w1) := b0.out.trans (hb1.mono b0.out.size)
  have D1 : Hid (DOwn w1 (w.heap.size + 1 + 1) y1 y2 y3 y4 ss ps) := by rw [hzz]; exact hd1
  clear hd1 hb1 g0 g1
  have hba : Below w1.heap.size w1 (w1.alloc (.cells #[.slice y1 ss.length y2, .slice y3 ps.length y4] 27)) := (belowRefl w1).alloc (Nat.le_refl _) _
  replace X5 : Hid (Bx (w1.alloc (.cells #[.slice y1 ss.length y2, .slice y3 ps.length y4] 27)) w.heap.size (.slice a1 ss.length c1) (.slice a2 ps.length c2)) := X5.out.keep hba X5.out.lt
  replace X10 : Hid (Bx (w1.alloc (.cells #[.slice y1 ss.length y2, .slice y3 ps.length y4] 27)) (w.heap.size + 1) (.slice none 0 0) (.slice none 0 0)) := X10.out.keep hba X10.out.lt
  replace DA : Hid (DOwn (w1.alloc (.cells #[.slice y1 ss.length y2, .slice y3 ps.length y4] 27)) B0 a1 c1 a2 c2 ss ps) := DA.out.below hba
  replace KA : Hid (KRow (w1.alloc (.cells #[.slice y1 ss.length y2, .slice y3 ps.length y4] 27)) ak ks) := KA.out.below hba
  replace b0 : Hid (Below w.heap.size w (w1.alloc (.cells #[.slice y1 ss.length y2, .slice y3 ps.length y4] 27))) := b0.out.trans (hba.mono b0.out.size)
  replace D1 : Hid (DOwn (w1.alloc (.cells #[.slice y1 ss.length y2, .slice y3 ps.length y4] 27)) (w.heap.size + 1 + 1) y1 y2 y3 y4 ss ps) := D1.out.below hba
  have X11 : Hid (Bx (w1.alloc (.cells #[.slice y1 ss.length y2, .slice y3 ps.length y4] 27)) w1.heap.size (.slice y1 ss.length y2) (.slice y3 ps.length y4)) := Bx.new w1 _ _ 27
  clear hba
  have g0 := X5.out.c0
  have g1 := X5.out.c1
  go_wp2_with fail
  generalize (w1.alloc (.cells #[.slice y1 ss.length y2, .slice y3 ps.length y4] 27)) = v1 at *
  generalize w1.heap.size = B11 at *
  refine (HCP.out _ _ _ _ _ _ DA.out).mono ?_
  rintro e w9 ⟨u1, u2, u3, u4, rfl, hd9, hb9⟩
  have hz9 : w.heap.size + 1 + 1 ≤ v1.heap.size := X10.out.lt
  replace X5 : Hid (Bx w9 w.heap.size (.slice a1 ss.length c1) (.slice a2 ps.length c2)) := X5.out.keep hb9 X5.out.lt
  replace X10 : Hid (Bx w9 (w.heap.size + 1) (.slice none 0 0) (.slice none 0 0)) := X10.out.keep hb9 X10.out.lt
  replace DA : Hid (DOwn w9 B0 a1 c1 a2 c2 ss ps) := DA.out.below hb9
  replace KA : Hid (KRow w9 ak ks) := KA.out.below hb9
  replace b0 : Hid (Below w.heap.size w w9) := b0.out.trans (hb9.mono b0.out.size)
  replace D1 : Hid (DOwn w9 (w.heap.size + 1 + 1) y1 y2 y3 y4 ss ps) := D1.out.below hb9
  replace X11 : Hid (Bx w9 B11 (.slice y1 ss.length y2) (.slice y3 ps.length y4)) := X11.out.keep hb9 X11.out.lt
  have D9 : Hid (DOwn w9 (w.heap.size + 1 + 1) u1 u2 u3 u4 ss ps) := hd9.mono hz9
  clear hd9 hb9 g0 g1
  have r0 := X10.out.c0
  have r1 := X10.out.c1
  have rf := X10.out.fz
  have V9 : Hid (Bx ((w9.setCell ⟨w.heap.size + 1, 0, none⟩ (.slice u1 ss.length u2)).setCell ⟨w.heap.size + 1, 1, none⟩ (.slice u3 ps.length u4)) (w.heap.size + 1) (.slice u1 ss.length u2) (.slice u3 ps.length u4)) := (X10.out.set0 _).set1 _
  have q0 := V9.out.c0
  have q1 := V9.out.c1
  go_wp2
  refine bodyPost_ret (v := .agg #[.slice u1 ss.length u2, .slice u3 ps.length u4]) (by simp [results, Tryz.results11, go_sem, q0, q1]) rfl ⟨u1, u2, u3, u4, rfl, ⟨?_, ?_⟩, ?_⟩
  ·exact ((D9.out.s.set (by show w.heap.size + 1 < _; omega) _).set (by show w.heap.size + 1 < _; omega) _).mono (by omega)
  ·exact ((D9.out.p.set (by show w.heap.size + 1 < _; omega) _).set (by show w.heap.size + 1 < _; omega) _).mono (by omega)
  ·exact (b0.out.setCell (by show _ ≤ w.heap.size + 1; omega) _).setCell (by show _ ≤ w.heap.size + 1; omega) _
 | true =>
  have hlog : logB ss ps = true := by
   unfold prB at hB
   exact (Bool.and_eq_true_iff.1 hB).1
  have hrec : recB ss ps (act ss ps) t = true := by
   unfold prB at hB
   exact (Bool.and_eq_true_iff.1 hB).2
  have hlp := logB_parts hlog
  have hpt := recB_parts hrec
  have hpp : prS ss ps (act ss ps) t = putS ss ps (act ss ps) t := if_pos hB
  have hA : isA (act ss ps) = true := act_01 ss ps
  have hok := okB_iff.1 hlp.1
  have hcb := cnt_le ss ps (act ss ps)
  obtain ⟨cn, hcn⟩ := Int.eq_ofNat_of_zero_le hcb.1
  have hcn255 : cn < 255 := by have := hpt.2.2.1; omega
  obtain ⟨ac, hac⟩ : ∃ ac, ac = act ss ps := ⟨_, rfl⟩
  obtain ⟨RW, hRW⟩ : ∃ RW, RW = recW ss ps ac t := ⟨_, rfl⟩
  obtain ⟨S1, hS1⟩ : ∃ S1, S1 = flS ss RW := ⟨_, rfl⟩
  obtain ⟨WB, hWB⟩ : ∃ WB, WB = wb S1 (af ac).toNat 0 [UInt8.ofNat (cn + 1)] := ⟨_, rfl⟩
  obtain ⟨PT, hPT⟩ : ∃ PT, PT = putS ss ps ac t := ⟨_, rfl⟩
  have hs100 : ss.length ≤ 100 := hok.2.1
  have hpl : ps.length ≤ 60 := hok.2.2.1
  rw [← hac] at hrec hpp hA hcn hB HAP
  rw [hB, hpp, ← hPT] at HAP
  have HAC : Hid (∀ (B : Nat) (W : World) (z1 : Option Addr) (z2 : Nat) (z3 : Option Addr) (z4 : Nat), DOwn W B z1 z2 z3 z4 ss ps → Calls Tryz.prog 36 #[.agg #[.slice z1 ss.length z2, .slice z3 ps.length z4]] W fun e w' => e = .returned (.int .i64 ac) ∧ Below W.heap.size W w') := fun B W z1 z2 z3 z4 h => by
   rw [hac]
   exact sac25 ss ps z1 z3 z2 z4 (by omega) (by omega) W h.s.srow h.p.prow
  have HBE : Hid (∀ (B : Nat) (W : World) (z1 : Option Addr) (z2 : Nat) (z3 : Option Addr) (z4 : Nat), DOwn W B z1 z2 z3 z4 ss ps → Calls Tryz.prog 37 #[.agg #[.slice z1 ss.length z2, .slice z3 ps.length z4], .int .i64 ac, .string t] W fun e w' => ∃ f1 f2 f3 f4, e = .returned (.tuple #[.agg #[.slice f1 ss.length f2, .slice f3 RW.length f4], .bool true]) ∧ DOwn w' W.heap.size f1 f2 f3 f4 ss RW ∧ okB ss RW = true ∧ Below W.heap.size W w') := fun B W z1 z2 z3 z4 h => by
   have q := sbeg95 ss ps ac t z1 z3 z2 z4 B hA hlp.1 hlp.2.2 hlp.2.1 htz W h
   rw [hrec, ← hRW] at q
   exact q
  rcases Classical.em (st = 0) with rfl | h0
  ·skip
   obtain ⟨CR, hCR⟩ : ∃ CR, CR = crS ss RW ks tr := ⟨_, rfl⟩
   have hR : caS ss ps t 0 ks tr = CR := by rw [caS_0 (by rw [← hac]; exact hB), hCR, hRW, hac]
   rw [hR]
   have HCR : Hid (okB ss RW = true → ∀ (B : Nat) (W : World) (z1 : Option Addr) (z2 : Nat) (z3 : Option Addr) (z4 : Nat), DOwn W B z1 z2 z3 z4 ss RW → KRow W ak ks → Calls Tryz.prog 38 #[.agg #[.slice z1 ss.length z2, .slice z3 RW.length z4], .slice ak ks.length ck, .int .i64 tr] W fun e w' => ∃ f1 f2 f3 f4, e = .returned (.agg #[.slice f1 CR.length f2, .slice f3 ps.length f4]) ∧ DOwn w' W.heap.size f1 f2 f3 f4 CR ps ∧ Below W.heap.size W w') := fun hk2 B W z1 z2 z3 z4 h hkr => by
    have ho := okB_iff.1 hk2
    have q := scrash44 ss RW ks tr z1 z3 ak z2 z4 ck B (by have := ho.2.1; omega) (by have := ho.2.2.1; omega) hkl W h hkr
    rw [flP_yes hk2, ← hlp.2.2, ← hCR] at q
    exact q
   have b0 : Hid (Below w.heap.size w ((w.alloc (.cells #[.slice a1 ss.length c1, .slice a2 ps.length c2] 27)).alloc (.cells #[.slice none 0 0, .slice none 0 0] 27))) := ((belowRefl w).alloc (Nat.le_refl _) _).alloc (by simp) _
   have hzz : w.heap.size + 1 + 1 = ((w.alloc (.cells #[.slice a1 ss.length c1, .slice a2 ps.length c2] 27)).alloc (.cells #[.slice none 0 0, .slice none 0 0] 27)).heap.size := by simp
   have X5 : Hid (Bx ((w.alloc (.cells #[.slice a1 ss.length c1, .slice a2 ps.length c2] 27)).alloc (.cells #[.slice none 0 0, .slice none 0 0] 27)) w.heap.size (.slice a1 ss.length c1) (.slice a2 ps.length c2)) := (Bx.new w _ _ _).alloc _
   have X10 : Hid (Bx ((w.alloc (.cells #[.slice a1 ss.length c1, .slice a2 ps.length c2] 27)).alloc (.cells #[.slice none 0 0, .slice none 0 0] 27)) (w.heap.size + 1) (.slice none 0 0) (.slice none 0 0)) := by
    have h := Bx.new (w.alloc (.cells #[.slice a1 ss.length c1, .slice a2 ps.length c2] 27)) (.slice none 0 0) (.slice none 0 0) 27
    rw [World.size_alloc] at h
    exact h
   have DA : Hid (DOwn ((w.alloc (.cells #[.slice a1 ss.length c1, .slice a2 ps.length c2] 27)).alloc (.cells #[.slice none 0 0, .slice none 0 0] 27)) B0 a1 c1 a2 c2 ss ps) := hd.below b0.out
   have HK0 : Hid (KRow w ak ks) := hk
   have KA : Hid (KRow ((w.alloc (.cells #[.slice a1 ss.length c1, .slice a2 ps.length c2] 27)).alloc (.cells #[.slice none 0 0, .slice none 0 0] 27)) ak ks) := hk.below b0.out
   replace b0 := b0
   clear hs hp hB hlog hrec hlp hpt hpp hA hok hcb hcn hac hRW hS1 hWB hPT hd hk hR hCR
   have g0 := X5.out.c0
   have g1 := X5.out.c1
   go_enter Tryz.func11, Tryz.ntmps11
   go_wp2_with fail
   generalize ((w.alloc (.cells #[.slice a1 ss.length c1, .slice a2 ps.length c2] 27)).alloc (.cells #[.slice none 0 0, .slice none 0 0] 27)) = v0 at *
   refine (HAP.out _ _ _ _ _ _ DA.out).mono ?_
   rintro e w1 ⟨y1, y2, y3, y4, rfl, hd1, hb1⟩
   replace X5 : Hid (Bx w1 w.heap.size (.slice a1 ss.length c1) (.slice a2 ps.length c2)) := X5.out.keep hb1 X5.out.lt
   replace X10 : Hid (Bx w1 (w.heap.size + 1) (.slice none 0 0) (.slice none 0 0)) := X10.out.keep hb1 X10.out.lt
   replace DA : Hid (DOwn w1 B0 a1 c1 a2 c2 ss ps) := DA.out.below hb1
   replace KA : Hid (KRow w1 ak ks) := KA.out.below hb1
   replace b0 : Hid (Below w.heap.size w w1) := b0.out.trans (hb1.mono b0.out.size)
   have D1 : Hid (DOwn w1 (w.heap.size + 1 + 1) y1 y2 y3 y4 PT ps) := by rw [hzz]; exact hd1
   clear hd1 hb1 g0 g1
   have hba : Below w1.heap.size w1 (w1.alloc (.cells #[.slice y1 PT.length y2, .slice y3 ps.length y4] 27)) := (belowRefl w1).alloc (Nat.le_refl _) _
   replace X5 : Hid (Bx (w1.alloc (.cells #[.slice y1 PT.length y2, .slice y3 ps.length y4] 27)) w.heap.size (.slice a1 ss.length c1) (.slice a2 ps.length c2)) := X5.out.keep hba X5.out.lt
   replace X10 : Hid (Bx (w1.alloc (.cells #[.slice y1 PT.length y2, .slice y3 ps.length y4] 27)) (w.heap.size + 1) (.slice none 0 0) (.slice none 0 0)) := X10.out.keep hba X10.out.lt
   replace DA : Hid (DOwn (w1.alloc (.cells #[.slice y1 PT.length y2, .slice y3 ps.length y4] 27)) B0 a1 c1 a2 c2 ss ps) := DA.out.below hba
   replace KA : Hid (KRow (w1.alloc (.cells #[.slice y1 PT.length y2, .slice y3 ps.length y4] 27)) ak ks) := KA.out.below hba
   replace b0 : Hid (Below w.heap.size w (w1.alloc (.cells #[.slice y1 PT.length y2, .slice y3 ps.length y4] 27))) := b0.out.trans (hba.mono b0.out.size)
   replace D1 : Hid (DOwn (w1.alloc (.cells #[.slice y1 PT.length y2, .slice y3 ps.length y4] 27)) (w.heap.size + 1 + 1) y1 y2 y3 y4 PT ps) := D1.out.below hba
   have X11 : Hid (Bx (w1.alloc (.cells #[.slice y1 PT.length y2, .slice y3 ps.length y4] 27)) w1.heap.size (.slice y1 PT.length y2) (.slice y3 ps.length y4)) := Bx.new w1 _ _ 27
   clear hba
   have g0 := X5.out.c0
   have g1 := X5.out.c1
   go_wp2_with fail
   generalize (w1.alloc (.cells #[.slice y1 PT.length y2, .slice y3 ps.length y4] 27)) = v1 at *
   generalize w1.heap.size = B11 at *
   refine (HAC.out _ _ _ _ _ _ DA.out).mono ?_
   rintro e w2 ⟨rfl, hb2⟩
   replace X5 : Hid (Bx w2 w.heap.size (.slice a1 ss.length c1) (.slice a2 ps.length c2)) := X5.out.keep hb2 X5.out.lt
   replace X10 : Hid (Bx w2 (w.heap.size + 1) (.slice none 0 0) (.slice none 0 0)) := X10.out.keep hb2 X10.out.lt
   replace DA : Hid (DOwn w2 B0 a1 c1 a2 c2 ss ps) := DA.out.below hb2
   replace KA : Hid (KRow w2 ak ks) := KA.out.below hb2
   replace b0 : Hid (Below w.heap.size w w2) := b0.out.trans (hb2.mono b0.out.size)
   replace D1 : Hid (DOwn w2 (w.heap.size + 1 + 1) y1 y2 y3 y4 PT ps) := D1.out.below hb2
   replace X11 : Hid (Bx w2 B11 (.slice y1 PT.length y2) (.slice y3 ps.length y4)) := X11.out.keep hb2 X11.out.lt
   clear hb2 g0 g1
   have g0 := X5.out.c0
   have g1 := X5.out.c1
   go_wp2_with fail
   refine (HBE.out _ _ _ _ _ _ DA.out).mono ?_
   rintro e w3 ⟨x1, x2, x3, x4, rfl, hd3, hk3, hb3⟩
   have hz3 : w.heap.size + 1 + 1 ≤ w2.heap.size := X10.out.lt
   replace X5 : Hid (Bx w3 w.heap.size (.slice a1 ss.length c1) (.slice a2 ps.length c2)) := X5.out.keep hb3 X5.out.lt
   replace X10 : Hid (Bx w3 (w.heap.size + 1) (.slice none 0 0) (.slice none 0 0)) := X10.out.keep hb3 X10.out.lt
   replace DA : Hid (DOwn w3 B0 a1 c1 a2 c2 ss ps) := DA.out.below hb3
   replace KA : Hid (KRow w3 ak ks) := KA.out.below hb3
   replace b0 : Hid (Below w.heap.size w w3) := b0.out.trans (hb3.mono b0.out.size)
   replace D1 : Hid (DOwn w3 (w.heap.size + 1 + 1) y1 y2 y3 y4 PT ps) := D1.out.below hb3
   replace X11 : Hid (Bx w3 B11 (.slice y1 PT.length y2) (.slice y3 ps.length y4)) := X11.out.keep hb3 X11.out.lt
   have D3 : Hid (DOwn w3 (w.heap.size + 1 + 1) x1 x2 x3 x4 ss RW) := hd3.mono hz3
   have hneq : Hid (w.heap.size + 1 < w3.heap.size) := X10.out.lt
   clear hd3 hb3 g0 g1
   have hba : Below w3.heap.size w3 (w3.alloc (.cells #[.slice x1 ss.length x2, .slice x3 RW.length x4] 27)) := (belowRefl w3).alloc (Nat.le_refl _) _
   replace X5 : Hid (Bx (w3.alloc (.cells #[.slice x1 ss.length x2, .slice x3 RW.length x4] 27)) w.heap.size (.slice a1 ss.length c1) (.slice a2 ps.length c2)) := X5.out.keep hba X5.out.lt
   replace X10 : Hid (Bx (w3.alloc (.cells #[.slice x1 ss.length x2, .slice x3 RW.length x4] 27)) (w.heap.size + 1) (.slice none 0 0) (.slice none 0 0)) := X10.out.keep hba X10.out.lt
   replace DA : Hid (DOwn (w3.alloc (.cells #[.slice x1 ss.length x2, .slice x3 RW.length x4] 27)) B0 a1 c1 a2 c2 ss ps) := DA.out.below hba
   replace KA : Hid (KRow (w3.alloc (.cells #[.slice x1 ss.length x2, .slice x3 RW.length x4] 27)) ak ks) := KA.out.below hba
   replace b0 : Hid (Below w.heap.size w (w3.alloc (.cells #[.slice x1 ss.length x2, .slice x3 RW.length x4] 27))) := b0.out.trans (hba.mono b0.out.size)
   replace D1 : Hid (DOwn (w3.alloc (.cells #[.slice x1 ss.length x2, .slice x3 RW.length x4] 27)) (w.heap.size + 1 + 1) y1 y2 y3 y4 PT ps) := D1.out.below hba
   replace X11 : Hid (Bx (w3.alloc (.cells #[.slice x1 ss.length x2, .slice x3 RW.length x4] 27)) B11 (.slice y1 PT.length y2) (.slice y3 ps.length y4)) := X11.out.keep hba X11.out.lt
   replace D3 : Hid (DOwn (w3.alloc (.cells #[.slice x1 ss.length x2, .slice x3 RW.length x4] 27)) (w.heap.size + 1 + 1) x1 x2 x3 x4 ss RW) := D3.out.below hba
   have X14 : Hid (Bx (w3.alloc (.cells #[.slice x1 ss.length x2, .slice x3 RW.length x4] 27)) w3.heap.size (.slice x1 ss.length x2) (.slice x3 RW.length x4)) := Bx.new w3 _ _ 27
   clear hba
   have g0 := X14.out.c0
   have g1 := X14.out.c1
   go_wp2_with fail
   generalize (w3.alloc (.cells #[.slice x1 ss.length x2, .slice x3 RW.length x4] 27)) = v3 at *
   generalize w3.heap.size = B14 at *
   refine (HCR.out hk3 _ _ _ _ _ _ D3.out KA.out).mono ?_
   rintro e w9 ⟨u1, u2, u3, u4, rfl, hd9, hb9⟩
   have hz9 : w.heap.size + 1 + 1 ≤ v3.heap.size := X10.out.lt
   replace X5 : Hid (Bx w9 w.heap.size (.slice a1 ss.length c1) (.slice a2 ps.length c2)) := X5.out.keep hb9 X5.out.lt
   replace X10 : Hid (Bx w9 (w.heap.size + 1) (.slice none 0 0) (.slice none 0 0)) := X10.out.keep hb9 X10.out.lt
   replace DA : Hid (DOwn w9 B0 a1 c1 a2 c2 ss ps) := DA.out.below hb9
   replace KA : Hid (KRow w9 ak ks) := KA.out.below hb9
   replace b0 : Hid (Below w.heap.size w w9) := b0.out.trans (hb9.mono b0.out.size)
   replace D1 : Hid (DOwn w9 (w.heap.size + 1 + 1) y1 y2 y3 y4 PT ps) := D1.out.below hb9
   replace X11 : Hid (Bx w9 B11 (.slice y1 PT.length y2) (.slice y3 ps.length y4)) := X11.out.keep hb9 X11.out.lt
   replace D3 : Hid (DOwn w9 (w.heap.size + 1 + 1) x1 x2 x3 x4 ss RW) := D3.out.below hb9
   replace X14 : Hid (Bx w9 B14 (.slice x1 ss.length x2) (.slice x3 RW.length x4)) := X14.out.keep hb9 X14.out.lt
   have D9 : Hid (DOwn w9 (w.heap.size + 1 + 1) u1 u2 u3 u4 CR ps) := hd9.mono hz9
   clear hd9 hb9 g0 g1
   have r0 := X10.out.c0
   have r1 := X10.out.c1
   have rf := X10.out.fz
   have V9 : Hid (Bx ((w9.setCell ⟨w.heap.size + 1, 0, none⟩ (.slice u1 CR.length u2)).setCell ⟨w.heap.size + 1, 1, none⟩ (.slice u3 ps.length u4)) (w.heap.size + 1) (.slice u1 CR.length u2) (.slice u3 ps.length u4)) := (X10.out.set0 _).set1 _
   have q0 := V9.out.c0
   have q1 := V9.out.c1
   go_wp2
   refine bodyPost_ret (v := .agg #[.slice u1 CR.length u2, .slice u3 ps.length u4]) (by simp [results, Tryz.results11, go_sem, q0, q1]) rfl ⟨u1, u2, u3, u4, rfl, ⟨?_, ?_⟩, ?_⟩
   ·exact ((D9.out.s.set (by show w.heap.size + 1 < _; omega) _).set (by show w.heap.size + 1 < _; omega) _).mono (by omega)
   ·exact ((D9.out.p.set (by show w.heap.size + 1 < _; omega) _).set (by show w.heap.size + 1 < _; omega) _).mono (by omega)
   ·exact (b0.out.setCell (by show _ ≤ w.heap.size + 1; omega) _).setCell (by show _ ≤ w.heap.size + 1; omega) _
  rcases Classical.em (st = 1) with rfl | h1
  ·skip
   obtain ⟨CR, hCR⟩ : ∃ CR, CR = crS S1 WB ks tr := ⟨_, rfl⟩
   have hR : caS ss ps t 1 ks tr = CR := by rw [caS_1 (by rw [← hac]; exact hB), ← hac, ← hRW, ← hS1, hCR, hWB, hcn]; rfl
   rw [hR]
   have HRWK : Hid (okB ss RW = true → okB S1 ps = true ∧ S1.length = 97 ∧ flP ss RW = ps) := fun h => by
    have h2 := okB_flush h
    rw [← hS1, flP_yes h] at h2
    rw [← hlp.2.2] at h2
    exact ⟨h2, by rw [hS1, flS_length h, hlp.2.1], by rw [flP_yes h, hlp.2.2]⟩
   have HFL : Hid (okB ss RW = true → ∀ (B : Nat) (W : World) (z1 : Option Addr) (z2 : Nat) (z3 : Option Addr) (z4 : Nat), DOwn W B z1 z2 z3 z4 ss RW → Calls Tryz.prog 40 #[.agg #[.slice z1 ss.length z2, .slice z3 RW.length z4]] W fun e w' => ∃ f1 f2 f3 f4, e = .returned (.agg #[.slice f1 S1.length f2, .slice f3 ps.length f4]) ∧ DOwn w' W.heap.size f1 f2 f3 f4 S1 ps ∧ Below W.heap.size W w') := fun hk2 B W z1 z2 z3 z4 h => by
    have ho := okB_iff.1 hk2
    have q := sflush38 ss RW z1 z3 z2 z4 B (by omega) (by have := ho.2.2.1; omega) W h
    rw [← hS1, (HRWK.out hk2).2.2] at q
    exact q
   have HCN : Hid (∀ (B : Nat) (W : World) (z1 : Option Addr) (z2 : Nat) (z3 : Option Addr) (z4 : Nat), DOwn W B z1 z2 z3 z4 ss ps → Calls Tryz.prog 41 #[.agg #[.slice z1 ss.length z2, .slice z3 ps.length z4], .int .i64 ac] W fun e w' => e = .returned (.int .i64 (cn : Int)) ∧ Below W.heap.size W w') := fun B W z1 z2 z3 z4 h => by
    have q := scn27 ss ps ac z1 z3 z2 z4 (by omega) (by omega) W h.s.srow h.p.prow
    rw [hcn] at q
    exact q
   have HCO : Hid (okB ss RW = true → ∀ (B : Nat) (W : World) (z1 : Option Addr) (z2 : Nat) (z3 : Option Addr) (z4 : Nat), DOwn W B z1 z2 z3 z4 S1 ps → Calls Tryz.prog 39 #[.agg #[.slice z1 S1.length z2, .slice z3 ps.length z4], .int .i64 ac, .int .i64 ((cn : Int) + 1)] W fun e w' => ∃ f1 f2 f3 f4, e = .returned (.tuple #[.agg #[.slice f1 S1.length f2, .slice f3 WB.length f4], .bool true]) ∧ DOwn w' W.heap.size f1 f2 f3 f4 S1 WB ∧ okB S1 WB = true ∧ Below W.heap.size W w') := fun hk2 B W z1 z2 z3 z4 h => by
    have q := scount96 S1 ps ac (cn + 1) z1 z3 z2 z4 B hA (HRWK.out hk2).1 hlp.2.2 (HRWK.out hk2).2.1 (by omega) W h
    rw [← hWB, show ((cn + 1 : Nat) : Int) = (cn : Int) + 1 by omega] at q
    exact q
   have HCR : Hid (okB S1 WB = true → ∀ (B : Nat) (W : World) (z1 : Option Addr) (z2 : Nat) (z3 : Option Addr) (z4 : Nat), DOwn W B z1 z2 z3 z4 S1 WB → KRow W ak ks → Calls Tryz.prog 38 #[.agg #[.slice z1 S1.length z2, .slice z3 WB.length z4], .slice ak ks.length ck, .int .i64 tr] W fun e w' => ∃ f1 f2 f3 f4, e = .returned (.agg #[.slice f1 CR.length f2, .slice f3 ps.length f4]) ∧ DOwn w' W.heap.size f1 f2 f3 f4 CR ps ∧ Below W.heap.size W w') := fun hk2 B W z1 z2 z3 z4 h hkr => by
    have ho := okB_iff.1 hk2
    have q := scrash44 S1 WB ks tr z1 z3 ak z2 z4 ck B (by have := ho.2.1; omega) (by have := ho.2.2.1; omega) hkl W h hkr
    rw [flP_yes hk2, ← hlp.2.2, ← hCR] at q
    exact q
   have b0 : Hid (Below w.heap.size w ((w.alloc (.cells #[.slice a1 ss.length c1, .slice a2 ps.length c2] 27)).alloc (.cells #[.slice none 0 0, .slice none 0 0] 27))) := ((belowRefl w).alloc (Nat.le_refl _) _).alloc (by simp) _
   have hzz : w.heap.size + 1 + 1 = ((w.alloc (.cells #[.slice a1 ss.length c1, .slice a2 ps.length c2] 27)).alloc (.cells #[.slice none 0 0, .slice none 0 0] 27)).heap.size := by simp
   have X5 : Hid (Bx ((w.alloc (.cells #[.slice a1 ss.length c1, .slice a2 ps.length c2] 27)).alloc (.cells #[.slice none 0 0, .slice none 0 0] 27)) w.heap.size (.slice a1 ss.length c1) (.slice a2 ps.length c2)) := (Bx.new w _ _ _).alloc _
   have X10 : Hid (Bx ((w.alloc (.cells #[.slice a1 ss.length c1, .slice a2 ps.length c2] 27)).alloc (.cells #[.slice none 0 0, .slice none 0 0] 27)) (w.heap.size + 1) (.slice none 0 0) (.slice none 0 0)) := by
    have h := Bx.new (w.alloc (.cells #[.slice a1 ss.length c1, .slice a2 ps.length c2] 27)) (.slice none 0 0) (.slice none 0 0) 27
    rw [World.size_alloc] at h
    exact h
   have DA : Hid (DOwn ((w.alloc (.cells #[.slice a1 ss.length c1, .slice a2 ps.length c2] 27)).alloc (.cells #[.slice none 0 0, .slice none 0 0] 27)) B0 a1 c1 a2 c2 ss ps) := hd.below b0.out
   have HK0 : Hid (KRow w ak ks) := hk
   have KA : Hid (KRow ((w.alloc (.cells #[.slice a1 ss.length c1, .slice a2 ps.length c2] 27)).alloc (.cells #[.slice none 0 0, .slice none 0 0] 27)) ak ks) := hk.below b0.out
   replace b0 := b0
   clear hs hp hB hlog hrec hlp hpt hpp hA hok hcb hcn hac hRW hS1 hWB hPT hd hk hR hCR HRWK
   have g0 := X5.out.c0
   have g1 := X5.out.c1
   go_enter Tryz.func11, Tryz.ntmps11
   go_wp2_with fail
   generalize ((w.alloc (.cells #[.slice a1 ss.length c1, .slice a2 ps.length c2] 27)).alloc (.cells #[.slice none 0 0, .slice none 0 0] 27)) = v0 at *
   refine (HAP.out _ _ _ _ _ _ DA.out).mono ?_
   rintro e w1 ⟨y1, y2, y3, y4, rfl, hd1, hb1⟩
   replace X5 : Hid (Bx w1 w.heap.size (.slice a1 ss.length c1) (.slice a2 ps.length c2)) := X5.out.keep hb1 X5.out.lt
   replace X10 : Hid (Bx w1 (w.heap.size + 1) (.slice none 0 0) (.slice none 0 0)) := X10.out.keep hb1 X10.out.lt
   replace DA : Hid (DOwn w1 B0 a1 c1 a2 c2 ss ps) := DA.out.below hb1
   replace KA : Hid (KRow w1 ak ks) := KA.out.below hb1
   replace b0 : Hid (Below w.heap.size w w1) := b0.out.trans (hb1.mono b0.out.size)
   have D1 : Hid (DOwn w1 (w.heap.size + 1 + 1) y1 y2 y3 y4 PT ps) := by rw [hzz]; exact hd1
   clear hd1 hb1 g0 g1
   have hba : Below w1.heap.size w1 (w1.alloc (.cells #[.slice y1 PT.length y2, .slice y3 ps.length y4] 27)) := (belowRefl w1).alloc (Nat.le_refl _) _
   replace X5 : Hid (Bx (w1.alloc (.cells #[.slice y1 PT.length y2, .slice y3 ps.length y4] 27)) w.heap.size (.slice a1 ss.length c1) (.slice a2 ps.length c2)) := X5.out.keep hba X5.out.lt
   replace X10 : Hid (Bx (w1.alloc (.cells #[.slice y1 PT.length y2, .slice y3 ps.length y4] 27)) (w.heap.size + 1) (.slice none 0 0) (.slice none 0 0)) := X10.out.keep hba X10.out.lt
   replace DA : Hid (DOwn (w1.alloc (.cells #[.slice y1 PT.length y2, .slice y3 ps.length y4] 27)) B0 a1 c1 a2 c2 ss ps) := DA.out.below hba
   replace KA : Hid (KRow (w1.alloc (.cells #[.slice y1 PT.length y2, .slice y3 ps.length y4] 27)) ak ks) := KA.out.below hba
   replace b0 : Hid (Below w.heap.size w (w1.alloc (.cells #[.slice y1 PT.length y2, .slice y3 ps.length y4] 27))) := b0.out.trans (hba.mono b0.out.size)
   replace D1 : Hid (DOwn (w1.alloc (.cells #[.slice y1 PT.length y2, .slice y3 ps.length y4] 27)) (w.heap.size + 1 + 1) y1 y2 y3 y4 PT ps) := D1.out.below hba
   have X11 : Hid (Bx (w1.alloc (.cells #[.slice y1 PT.length y2, .slice y3 ps.length y4] 27)) w1.heap.size (.slice y1 PT.length y2) (.slice y3 ps.length y4)) := Bx.new w1 _ _ 27
   clear hba
   have g0 := X5.out.c0
   have g1 := X5.out.c1
   go_wp2_with fail
   generalize (w1.alloc (.cells #[.slice y1 PT.length y2, .slice y3 ps.length y4] 27)) = v1 at *
   generalize w1.heap.size = B11 at *
   refine (HAC.out _ _ _ _ _ _ DA.out).mono ?_
   rintro e w2 ⟨rfl, hb2⟩
   replace X5 : Hid (Bx w2 w.heap.size (.slice a1 ss.length c1) (.slice a2 ps.length c2)) := X5.out.keep hb2 X5.out.lt
   replace X10 : Hid (Bx w2 (w.heap.size + 1) (.slice none 0 0) (.slice none 0 0)) := X10.out.keep hb2 X10.out.lt
   replace DA : Hid (DOwn w2 B0 a1 c1 a2 c2 ss ps) := DA.out.below hb2
   replace KA : Hid (KRow w2 ak ks) := KA.out.below hb2
   replace b0 : Hid (Below w.heap.size w w2) := b0.out.trans (hb2.mono b0.out.size)
   replace D1 : Hid (DOwn w2 (w.heap.size + 1 + 1) y1 y2 y3 y4 PT ps) := D1.out.below hb2
   replace X11 : Hid (Bx w2 B11 (.slice y1 PT.length y2) (.slice y3 ps.length y4)) := X11.out.keep hb2 X11.out.lt
   clear hb2 g0 g1
   have g0 := X5.out.c0
   have g1 := X5.out.c1
   go_wp2_with fail
   refine (HBE.out _ _ _ _ _ _ DA.out).mono ?_
   rintro e w3 ⟨x1, x2, x3, x4, rfl, hd3, hk3, hb3⟩
   have hz3 : w.heap.size + 1 + 1 ≤ w2.heap.size := X10.out.lt
   replace X5 : Hid (Bx w3 w.heap.size (.slice a1 ss.length c1) (.slice a2 ps.length c2)) := X5.out.keep hb3 X5.out.lt
   replace X10 : Hid (Bx w3 (w.heap.size + 1) (.slice none 0 0) (.slice none 0 0)) := X10.out.keep hb3 X10.out.lt
   replace DA : Hid (DOwn w3 B0 a1 c1 a2 c2 ss ps) := DA.out.below hb3
   replace KA : Hid (KRow w3 ak ks) := KA.out.below hb3
   replace b0 : Hid (Below w.heap.size w w3) := b0.out.trans (hb3.mono b0.out.size)
   replace D1 : Hid (DOwn w3 (w.heap.size + 1 + 1) y1 y2 y3 y4 PT ps) := D1.out.below hb3
   replace X11 : Hid (Bx w3 B11 (.slice y1 PT.length y2) (.slice y3 ps.length y4)) := X11.out.keep hb3 X11.out.lt
   have D3 : Hid (DOwn w3 (w.heap.size + 1 + 1) x1 x2 x3 x4 ss RW) := hd3.mono hz3
   have hneq : Hid (w.heap.size + 1 < w3.heap.size) := X10.out.lt
   clear hd3 hb3 g0 g1
   have hba : Below w3.heap.size w3 (w3.alloc (.cells #[.slice x1 ss.length x2, .slice x3 RW.length x4] 27)) := (belowRefl w3).alloc (Nat.le_refl _) _
   replace X5 : Hid (Bx (w3.alloc (.cells #[.slice x1 ss.length x2, .slice x3 RW.length x4] 27)) w.heap.size (.slice a1 ss.length c1) (.slice a2 ps.length c2)) := X5.out.keep hba X5.out.lt
   replace X10 : Hid (Bx (w3.alloc (.cells #[.slice x1 ss.length x2, .slice x3 RW.length x4] 27)) (w.heap.size + 1) (.slice none 0 0) (.slice none 0 0)) := X10.out.keep hba X10.out.lt
   replace DA : Hid (DOwn (w3.alloc (.cells #[.slice x1 ss.length x2, .slice x3 RW.length x4] 27)) B0 a1 c1 a2 c2 ss ps) := DA.out.below hba
   replace KA : Hid (KRow (w3.alloc (.cells #[.slice x1 ss.length x2, .slice x3 RW.length x4] 27)) ak ks) := KA.out.below hba
   replace b0 : Hid (Below w.heap.size w (w3.alloc (.cells #[.slice x1 ss.length x2, .slice x3 RW.length x4] 27))) := b0.out.trans (hba.mono b0.out.size)
   replace D1 : Hid (DOwn (w3.alloc (.cells #[.slice x1 ss.length x2, .slice x3 RW.length x4] 27)) (w.heap.size + 1 + 1) y1 y2 y3 y4 PT ps) := D1.out.below hba
   replace X11 : Hid (Bx (w3.alloc (.cells #[.slice x1 ss.length x2, .slice x3 RW.length x4] 27)) B11 (.slice y1 PT.length y2) (.slice y3 ps.length y4)) := X11.out.keep hba X11.out.lt
   replace D3 : Hid (DOwn (w3.alloc (.cells #[.slice x1 ss.length x2, .slice x3 RW.length x4] 27)) (w.heap.size + 1 + 1) x1 x2 x3 x4 ss RW) := D3.out.below hba
   have X14 : Hid (Bx (w3.alloc (.cells #[.slice x1 ss.length x2, .slice x3 RW.length x4] 27)) w3.heap.size (.slice x1 ss.length x2) (.slice x3 RW.length x4)) := Bx.new w3 _ _ 27
   clear hba
   have HFL' : Hid (∀ (B : Nat) (W : World) (z1 : Option Addr) (z2 : Nat) (z3 : Option Addr) (z4 : Nat), DOwn W B z1 z2 z3 z4 ss RW → Calls Tryz.prog 40 #[.agg #[.slice z1 ss.length z2, .slice z3 RW.length z4]] W fun e w' => ∃ f1 f2 f3 f4, e = .returned (.agg #[.slice f1 S1.length f2, .slice f3 ps.length f4]) ∧ DOwn w' W.heap.size f1 f2 f3 f4 S1 ps ∧ Below W.heap.size W w') := HFL.out hk3
   have HCO' : Hid (∀ (B : Nat) (W : World) (z1 : Option Addr) (z2 : Nat) (z3 : Option Addr) (z4 : Nat), DOwn W B z1 z2 z3 z4 S1 ps → Calls Tryz.prog 39 #[.agg #[.slice z1 S1.length z2, .slice z3 ps.length z4], .int .i64 ac, .int .i64 ((cn : Int) + 1)] W fun e w' => ∃ f1 f2 f3 f4, e = .returned (.tuple #[.agg #[.slice f1 S1.length f2, .slice f3 WB.length f4], .bool true]) ∧ DOwn w' W.heap.size f1 f2 f3 f4 S1 WB ∧ okB S1 WB = true ∧ Below W.heap.size W w') := HCO.out hk3
   clear HFL HCO
   go_upto_region 10 with fail
   generalize (w3.alloc (.cells #[.slice x1 ss.length x2, .slice x3 RW.length x4] 27)) = v3 at *
   generalize w3.heap.size = B14 at *
   have l0 : w.heap.size < v3.heap.size := X5.out.lt
   have l2 : B14 < v3.heap.size := X14.out.lt
   have RS0 : Hid (RS2 v3 w.heap.size B14 (.slice a1 ss.length c1) (.slice a2 ps.length c2) (.slice x1 ss.length x2) (.slice x3 RW.length x4) v3.drew) := ⟨X5.out.c0, X5.out.c1, X14.out.c0, X14.out.c1, (belowRefl v3).drew⟩
   have hcw : IntKind.i64.wrap ((cn : Int) + 1) = (cn : Int) + 1 := by rw [IntKind.wrap_i64]; omega
   go_region_held3 (fun w' => w'.cell? ⟨w.heap.size, 0, none⟩ = some (.slice a1 ss.length c1) ∧ w'.cell? ⟨w.heap.size, 1, none⟩ = some (.slice a2 ps.length c2) ∧ w'.cell? ⟨B14, 0, none⟩ = some (.slice x1 ss.length x2) ∧ w'.cell? ⟨B14, 1, none⟩ = some (.slice x3 RW.length x4) ∧ Below v3.heap.size v3 w')
    (first | exact RS0.out | exact t5.out | exact t6.out | exact t8.out | exact RS2.alloc (by assumption) _ l0 l2 | exact RS2.set (RS2.set (by assumption) _ _ (by first | exact hz8 | exact Nat.le_refl _ | exact hz5 | exact hz6) l0 l2) _ _ (by first | exact hz8 | exact Nat.le_refl _ | exact hz5 | exact hz6) l0 l2)
    ((first
     | (go_at_call 40
        refine (HFL'.out _ _ _ _ _ _ (D3.out.below (RS2.b (b := w.heap.size) (c := B14) (x := .slice a1 ss.length c1) (y := .slice a2 ps.length c2) (z := .slice x1 ss.length x2) (u := .slice x3 RW.length x4) (by assumption)))).mono ?_
        rintro e w5 ⟨z1, z2, z3, z4, rfl, hd5, hb5⟩
        have t5 : Hid (RS2 v3 w.heap.size B14 (.slice a1 ss.length c1) (.slice a2 ps.length c2) (.slice x1 ss.length x2) (.slice x3 RW.length x4) w5) := RS2.call (by assumption) hb5 l0 l2
        have hz5 : v3.heap.size ≤ w5.heap.size := (RS2.b t5.out).size
        try have Q5 : Hid (Bx w5 _ (.slice none 0 0) (.slice none 0 0)) := (Bx.new _ _ _ 27).keep hb5 (Bx.new _ (.slice none 0 0) (.slice none 0 0) 27).lt
        try have Q5 : Hid (Bx w5 _ (.slice none 0 0) (.slice none 0 0)) := (Bx.new _ _ _ 27).drew.keep hb5 (Bx.new _ (.slice none 0 0) (.slice none 0 0) 27).drew.lt
        try have Q5 : Hid (Bx w5 _ (.slice none 0 0) (.slice none 0 0)) := Q6.out.keep hb5 Q6.out.lt)
     | (go_at_call 41
        refine (HCN.out _ _ _ _ _ _ (DA.out.below (RS2.b (b := w.heap.size) (c := B14) (x := .slice a1 ss.length c1) (y := .slice a2 ps.length c2) (z := .slice x1 ss.length x2) (u := .slice x3 RW.length x4) (by assumption)))).mono ?_
        rintro e w6 ⟨rfl, hb6⟩
        have t6 : Hid (RS2 v3 w.heap.size B14 (.slice a1 ss.length c1) (.slice a2 ps.length c2) (.slice x1 ss.length x2) (.slice x3 RW.length x4) w6) := RS2.call (by assumption) hb6 l0 l2
        have hz6 : v3.heap.size ≤ w6.heap.size := (RS2.b t6.out).size
        try have Q6 : Hid (Bx w6 _ (.slice none 0 0) (.slice none 0 0)) := (Bx.new _ _ _ 27).keep hb6 (Bx.new _ (.slice none 0 0) (.slice none 0 0) 27).lt
        try have Q6 : Hid (Bx w6 _ (.slice none 0 0) (.slice none 0 0)) := (Bx.new _ _ _ 27).drew.keep hb6 (Bx.new _ (.slice none 0 0) (.slice none 0 0) 27).drew.lt
        try have Q6 : Hid (Bx w6 _ (.slice none 0 0) (.slice none 0 0)) := Q5.out.keep hb6 Q5.out.lt)
     | (go_at_call 39
        refine (HCO'.out _ _ _ _ _ _ (by first | exact hd5 | exact hd5.below hb6 | exact hd5.below ((belowRefl _).alloc (Nat.le_refl _) _) | exact (hd5.below hb6).below ((belowRefl _).alloc (Nat.le_refl _) _) | exact (hd5.below ((belowRefl _).alloc (Nat.le_refl _) _)).below hb6)).mono ?_
        rintro e w8 ⟨u1, u2, u3, u4, rfl, hd8, hk8, hb8⟩
        have t8 : Hid (RS2 v3 w.heap.size B14 (.slice a1 ss.length c1) (.slice a2 ps.length c2) (.slice x1 ss.length x2) (.slice x3 RW.length x4) w8) := RS2.call (by assumption) hb8 l0 l2
        have hz8 : v3.heap.size ≤ w8.heap.size := (RS2.b t8.out).size
        try have Q8 : Hid (Bx w8 _ (.slice none 0 0) (.slice none 0 0)) := (Bx.new _ _ _ 27).keep hb8 (Bx.new _ (.slice none 0 0) (.slice none 0 0) 27).lt
        try have Q8 : Hid (Bx w8 _ (.slice none 0 0) (.slice none 0 0)) := (Bx.new _ _ _ 27).drew.keep hb8 (Bx.new _ (.slice none 0 0) (.slice none 0 0) 27).drew.lt
        try have Q8 : Hid (Bx w8 _ (.slice none 0 0) (.slice none 0 0)) := Q5.out.keep hb8 Q5.out.lt
        try have Q8 : Hid (Bx w8 _ (.slice none 0 0) (.slice none 0 0)) := Q6.out.keep hb8 Q6.out.lt
        try have r0 := Q8.out.c0
        try have r1 := Q8.out.c1
        try have rf := Q8.out.fz)))
   all_goals
    have hz6' : v3.heap.size ≤ w6.heap.size := (RS2.b t6.out).size
    have hz5' : v3.heap.size ≤ w5.heap.size := (RS2.b t5.out).size
    have h0w : w.heap.size + 1 + 1 ≤ v3.heap.size := X10.out.lt
    have HB8 : Hid (Below w.heap.size w w8) := b0.out.trans ((RS2.b t8.out).mono b0.out.size)
    have Y18 : Hid (Bx w8 (w.heap.size + 1) (.slice none 0 0) (.slice none 0 0)) := X10.out.keep (RS2.b t8.out) X10.out.lt
    have HK8 : Hid (KRow w8 ak ks) := KA.out.below (RS2.b t8.out)
   ·skip
    have V : Hid (Bx (w8.alloc (.cells #[.slice u1 S1.length u2, .slice u3 WB.length u4] 27)) w8.heap.size (.slice u1 S1.length u2) (.slice u3 WB.length u4)) := Bx.new w8 _ _ _
    have DU : Hid (DOwn (w8.alloc (.cells #[.slice u1 S1.length u2, .slice u3 WB.length u4] 27)) (w.heap.size + 1 + 1) u1 u2 u3 u4 S1 WB) := ⟨(hd8.s.alloc _).mono (by omega), (hd8.p.alloc _).mono (by omega)⟩
    have Xr : Hid (Bx (w8.alloc (.cells #[.slice u1 S1.length u2, .slice u3 WB.length u4] 27)) (w.heap.size + 1) (.slice none 0 0) (.slice none 0 0)) := Y18.out.alloc _
    have Bf : Hid (Below w.heap.size w (w8.alloc (.cells #[.slice u1 S1.length u2, .slice u3 WB.length u4] 27))) := HB8.out.alloc HB8.out.size _
    have Kf : Hid (KRow (w8.alloc (.cells #[.slice u1 S1.length u2, .slice u3 WB.length u4] 27)) ak ks) := HK8.out.below ((belowRefl w8).alloc (Nat.le_refl _) _)
    clear hd8 hb8 hb6 hd5 hb5 t5 t6 t8 RS0 X10 b0 KA HK8
    have g0 := V.out.c0
    have g1 := V.out.c1
    go_wp2_with fail
    refine (HCR.out hk8 _ _ _ _ _ _ DU.out Kf.out).mono ?_
    rintro e w10 ⟨v1, v2, v3, v4, rfl, hd10, hb10⟩
    have X10 : Hid (Bx w10 (w.heap.size + 1) (.slice none 0 0) (.slice none 0 0)) := Xr.out.keep hb10 Xr.out.lt
    have b0 : Hid (Below w.heap.size w w10) := Bf.out.trans (hb10.mono Bf.out.size)
    have D9 : Hid (DOwn w10 (w.heap.size + 1 + 1) v1 v2 v3 v4 CR ps) := hd10.mono Xr.out.lt
    clear hd10 hb10
    have r0 := X10.out.c0
    have r1 := X10.out.c1
    have rf := X10.out.fz
    have V9 : Hid (Bx ((w10.setCell ⟨w.heap.size + 1, 0, none⟩ (.slice v1 CR.length v2)).setCell ⟨w.heap.size + 1, 1, none⟩ (.slice v3 ps.length v4)) (w.heap.size + 1) (.slice v1 CR.length v2) (.slice v3 ps.length v4)) := (X10.out.set0 _).set1 _
    have q0 := V9.out.c0
    have q1 := V9.out.c1
    go_wp2
    refine bodyPost_ret (v := .agg #[.slice v1 CR.length v2, .slice v3 ps.length v4]) (by simp [results, Tryz.results11, go_sem, q0, q1]) rfl ⟨v1, v2, v3, v4, rfl, ⟨?_, ?_⟩, ?_⟩
    ·exact ((D9.out.s.set (by show w.heap.size + 1 < _; omega) _).set (by show w.heap.size + 1 < _; omega) _).mono (by omega)
    ·exact ((D9.out.p.set (by show w.heap.size + 1 < _; omega) _).set (by show w.heap.size + 1 < _; omega) _).mono (by omega)
    ·exact (b0.out.setCell (by show _ ≤ w.heap.size + 1; omega) _).setCell (by show _ ≤ w.heap.size + 1; omega) _
   ·skip
    have V : Hid (Bx ((w8.setCell ⟨w6.heap.size, 0, none⟩ (.slice u1 S1.length u2)).setCell ⟨w6.heap.size, 1, none⟩ (.slice u3 WB.length u4)) w6.heap.size (.slice u1 S1.length u2) (.slice u3 WB.length u4)) := (Q8.out.set0 _).set1 _
    have DU : Hid (DOwn ((w8.setCell ⟨w6.heap.size, 0, none⟩ (.slice u1 S1.length u2)).setCell ⟨w6.heap.size, 1, none⟩ (.slice u3 WB.length u4)) (w.heap.size + 1 + 1) u1 u2 u3 u4 S1 WB) := ⟨((hd8.s.set (by show w6.heap.size < (w6.alloc _).heap.size; simp) _).set (by show w6.heap.size < (w6.alloc _).heap.size; simp) _).mono (by first | omega | (simp; omega)), ((hd8.p.set (by show w6.heap.size < (w6.alloc _).heap.size; simp) _).set (by show w6.heap.size < (w6.alloc _).heap.size; simp) _).mono (by first | omega | (simp; omega))⟩
    have Xr : Hid (Bx ((w8.setCell ⟨w6.heap.size, 0, none⟩ (.slice u1 S1.length u2)).setCell ⟨w6.heap.size, 1, none⟩ (.slice u3 WB.length u4)) (w.heap.size + 1) (.slice none 0 0) (.slice none 0 0)) := (Y18.out.setO (by show w6.heap.size ≠ _; omega) _).setO (by show w6.heap.size ≠ _; omega) _
    have Bf : Hid (Below w.heap.size w ((w8.setCell ⟨w6.heap.size, 0, none⟩ (.slice u1 S1.length u2)).setCell ⟨w6.heap.size, 1, none⟩ (.slice u3 WB.length u4))) := (HB8.out.setCell (by show _ ≤ w6.heap.size; omega) _).setCell (by show _ ≤ w6.heap.size; omega) _
    have Kf : Hid (KRow ((w8.setCell ⟨w6.heap.size, 0, none⟩ (.slice u1 S1.length u2)).setCell ⟨w6.heap.size, 1, none⟩ (.slice u3 WB.length u4)) ak ks) := KA.out.below (((RS2.b t8.out).setCell (by show v3.heap.size ≤ w6.heap.size; omega) _).setCell (by show v3.heap.size ≤ w6.heap.size; omega) _)
    clear hd8 hb8 hb6 hd5 hb5 t5 t6 t8 RS0 X10 b0 KA HK8
    have g0 := V.out.c0
    have g1 := V.out.c1
    go_wp2_with fail
    refine (HCR.out hk8 _ _ _ _ _ _ DU.out Kf.out).mono ?_
    rintro e w10 ⟨v1, v2, v3, v4, rfl, hd10, hb10⟩
    have X10 : Hid (Bx w10 (w.heap.size + 1) (.slice none 0 0) (.slice none 0 0)) := Xr.out.keep hb10 Xr.out.lt
    have b0 : Hid (Below w.heap.size w w10) := Bf.out.trans (hb10.mono Bf.out.size)
    have D9 : Hid (DOwn w10 (w.heap.size + 1 + 1) v1 v2 v3 v4 CR ps) := hd10.mono Xr.out.lt
    clear hd10 hb10
    have r0 := X10.out.c0
    have r1 := X10.out.c1
    have rf := X10.out.fz
    have V9 : Hid (Bx ((w10.setCell ⟨w.heap.size + 1, 0, none⟩ (.slice v1 CR.length v2)).setCell ⟨w.heap.size + 1, 1, none⟩ (.slice v3 ps.length v4)) (w.heap.size + 1) (.slice v1 CR.length v2) (.slice v3 ps.length v4)) := (X10.out.set0 _).set1 _
    have q0 := V9.out.c0
    have q1 := V9.out.c1
    go_wp2
    refine bodyPost_ret (v := .agg #[.slice v1 CR.length v2, .slice v3 ps.length v4]) (by simp [results, Tryz.results11, go_sem, q0, q1]) rfl ⟨v1, v2, v3, v4, rfl, ⟨?_, ?_⟩, ?_⟩
    ·exact ((D9.out.s.set (by show w.heap.size + 1 < _; omega) _).set (by show w.heap.size + 1 < _; omega) _).mono (by omega)
    ·exact ((D9.out.p.set (by show w.heap.size + 1 < _; omega) _).set (by show w.heap.size + 1 < _; omega) _).mono (by omega)
    ·exact (b0.out.setCell (by show _ ≤ w.heap.size + 1; omega) _).setCell (by show _ ≤ w.heap.size + 1; omega) _
   ·skip
    have V : Hid (Bx ((w8.setCell ⟨w5.heap.size, 0, none⟩ (.slice u1 S1.length u2)).setCell ⟨w5.heap.size, 1, none⟩ (.slice u3 WB.length u4)) w5.heap.size (.slice u1 S1.length u2) (.slice u3 WB.length u4)) := (Q8.out.set0 _).set1 _
    have DU : Hid (DOwn ((w8.setCell ⟨w5.heap.size, 0, none⟩ (.slice u1 S1.length u2)).setCell ⟨w5.heap.size, 1, none⟩ (.slice u3 WB.length u4)) (w.heap.size + 1 + 1) u1 u2 u3 u4 S1 WB) := ⟨((hd8.s.set (by show w5.heap.size < w6.heap.size; have := hb6.size; simp at this; omega) _).set (by show w5.heap.size < w6.heap.size; have := hb6.size; simp at this; omega) _).mono (by first | omega | (simp; omega)), ((hd8.p.set (by show w5.heap.size < w6.heap.size; have := hb6.size; simp at this; omega) _).set (by show w5.heap.size < w6.heap.size; have := hb6.size; simp at this; omega) _).mono (by first | omega | (simp; omega))⟩
    have Xr : Hid (Bx ((w8.setCell ⟨w5.heap.size, 0, none⟩ (.slice u1 S1.length u2)).setCell ⟨w5.heap.size, 1, none⟩ (.slice u3 WB.length u4)) (w.heap.size + 1) (.slice none 0 0) (.slice none 0 0)) := (Y18.out.setO (by show w5.heap.size ≠ _; omega) _).setO (by show w5.heap.size ≠ _; omega) _
    have Bf : Hid (Below w.heap.size w ((w8.setCell ⟨w5.heap.size, 0, none⟩ (.slice u1 S1.length u2)).setCell ⟨w5.heap.size, 1, none⟩ (.slice u3 WB.length u4))) := (HB8.out.setCell (by show _ ≤ w5.heap.size; omega) _).setCell (by show _ ≤ w5.heap.size; omega) _
    have Kf : Hid (KRow ((w8.setCell ⟨w5.heap.size, 0, none⟩ (.slice u1 S1.length u2)).setCell ⟨w5.heap.size, 1, none⟩ (.slice u3 WB.length u4)) ak ks) := KA.out.below (((RS2.b t8.out).setCell (by show v3.heap.size ≤ w5.heap.size; omega) _).setCell (by show v3.heap.size ≤ w5.heap.size; omega) _)
    clear hd8 hb8 hb6 hd5 hb5 t5 t6 t8 RS0 X10 b0 KA HK8
    have g0 := V.out.c0
    have g1 := V.out.c1
    go_wp2_with fail
    refine (HCR.out hk8 _ _ _ _ _ _ DU.out Kf.out).mono ?_
    rintro e w10 ⟨v1, v2, v3, v4, rfl, hd10, hb10⟩
    have X10 : Hid (Bx w10 (w.heap.size + 1) (.slice none 0 0) (.slice none 0 0)) := Xr.out.keep hb10 Xr.out.lt
    have b0 : Hid (Below w.heap.size w w10) := Bf.out.trans (hb10.mono Bf.out.size)
    have D9 : Hid (DOwn w10 (w.heap.size + 1 + 1) v1 v2 v3 v4 CR ps) := hd10.mono Xr.out.lt
    clear hd10 hb10
    have r0 := X10.out.c0
    have r1 := X10.out.c1
    have rf := X10.out.fz
    have V9 : Hid (Bx ((w10.setCell ⟨w.heap.size + 1, 0, none⟩ (.slice v1 CR.length v2)).setCell ⟨w.heap.size + 1, 1, none⟩ (.slice v3 ps.length v4)) (w.heap.size + 1) (.slice v1 CR.length v2) (.slice v3 ps.length v4)) := (X10.out.set0 _).set1 _
    have q0 := V9.out.c0
    have q1 := V9.out.c1
    go_wp2
    refine bodyPost_ret (v := .agg #[.slice v1 CR.length v2, .slice v3 ps.length v4]) (by simp [results, Tryz.results11, go_sem, q0, q1]) rfl ⟨v1, v2, v3, v4, rfl, ⟨?_, ?_⟩, ?_⟩
    ·exact ((D9.out.s.set (by show w.heap.size + 1 < _; omega) _).set (by show w.heap.size + 1 < _; omega) _).mono (by omega)
    ·exact ((D9.out.p.set (by show w.heap.size + 1 < _; omega) _).set (by show w.heap.size + 1 < _; omega) _).mono (by omega)
    ·exact (b0.out.setCell (by show _ ≤ w.heap.size + 1; omega) _).setCell (by show _ ≤ w.heap.size + 1; omega) _
   ·skip
    have V : Hid (Bx ((w8.setCell ⟨v3.heap.size, 0, none⟩ (.slice u1 S1.length u2)).setCell ⟨v3.heap.size, 1, none⟩ (.slice u3 WB.length u4)) v3.heap.size (.slice u1 S1.length u2) (.slice u3 WB.length u4)) := (Q8.out.set0 _).set1 _
    have DU : Hid (DOwn ((w8.setCell ⟨v3.heap.size, 0, none⟩ (.slice u1 S1.length u2)).setCell ⟨v3.heap.size, 1, none⟩ (.slice u3 WB.length u4)) (w.heap.size + 1 + 1) u1 u2 u3 u4 S1 WB) := ⟨((hd8.s.set (by show v3.heap.size < w6.heap.size; have h5 : (v3.alloc _).heap.size ≤ w5.heap.size := hb5.size; have h6 := hb6.size; rw [World.size_alloc] at h5; omega) _).set (by show v3.heap.size < w6.heap.size; have h5 : (v3.alloc _).heap.size ≤ w5.heap.size := hb5.size; have h6 := hb6.size; rw [World.size_alloc] at h5; omega) _).mono (by first | omega | (simp; omega)), ((hd8.p.set (by show v3.heap.size < w6.heap.size; have h5 : (v3.alloc _).heap.size ≤ w5.heap.size := hb5.size; have h6 := hb6.size; rw [World.size_alloc] at h5; omega) _).set (by show v3.heap.size < w6.heap.size; have h5 : (v3.alloc _).heap.size ≤ w5.heap.size := hb5.size; have h6 := hb6.size; rw [World.size_alloc] at h5; omega) _).mono (by first | omega | (simp; omega))⟩
    have Xr : Hid (Bx ((w8.setCell ⟨v3.heap.size, 0, none⟩ (.slice u1 S1.length u2)).setCell ⟨v3.heap.size, 1, none⟩ (.slice u3 WB.length u4)) (w.heap.size + 1) (.slice none 0 0) (.slice none 0 0)) := (Y18.out.setO (by show v3.heap.size ≠ _; omega) _).setO (by show v3.heap.size ≠ _; omega) _
    have Bf : Hid (Below w.heap.size w ((w8.setCell ⟨v3.heap.size, 0, none⟩ (.slice u1 S1.length u2)).setCell ⟨v3.heap.size, 1, none⟩ (.slice u3 WB.length u4))) := (HB8.out.setCell (by show _ ≤ v3.heap.size; omega) _).setCell (by show _ ≤ v3.heap.size; omega) _
    have Kf : Hid (KRow ((w8.setCell ⟨v3.heap.size, 0, none⟩ (.slice u1 S1.length u2)).setCell ⟨v3.heap.size, 1, none⟩ (.slice u3 WB.length u4)) ak ks) := KA.out.below (((RS2.b t8.out).setCell (by show v3.heap.size ≤ v3.heap.size; omega) _).setCell (by show v3.heap.size ≤ v3.heap.size; omega) _)
    clear hd8 hb8 hb6 hd5 hb5 t5 t6 t8 RS0 X10 b0 KA HK8
    have g0 := V.out.c0
    have g1 := V.out.c1
    go_wp2_with fail
    refine (HCR.out hk8 _ _ _ _ _ _ DU.out Kf.out).mono ?_
    rintro e w10 ⟨v1, v2, v3, v4, rfl, hd10, hb10⟩
    have X10 : Hid (Bx w10 (w.heap.size + 1) (.slice none 0 0) (.slice none 0 0)) := Xr.out.keep hb10 Xr.out.lt
    have b0 : Hid (Below w.heap.size w w10) := Bf.out.trans (hb10.mono Bf.out.size)
    have D9 : Hid (DOwn w10 (w.heap.size + 1 + 1) v1 v2 v3 v4 CR ps) := hd10.mono Xr.out.lt
    clear hd10 hb10
    have r0 := X10.out.c0
    have r1 := X10.out.c1
    have rf := X10.out.fz
    have V9 : Hid (Bx ((w10.setCell ⟨w.heap.size + 1, 0, none⟩ (.slice v1 CR.length v2)).setCell ⟨w.heap.size + 1, 1, none⟩ (.slice v3 ps.length v4)) (w.heap.size + 1) (.slice v1 CR.length v2) (.slice v3 ps.length v4)) := (X10.out.set0 _).set1 _
    have q0 := V9.out.c0
    have q1 := V9.out.c1
    go_wp2
    refine bodyPost_ret (v := .agg #[.slice v1 CR.length v2, .slice v3 ps.length v4]) (by simp [results, Tryz.results11, go_sem, q0, q1]) rfl ⟨v1, v2, v3, v4, rfl, ⟨?_, ?_⟩, ?_⟩
    ·exact ((D9.out.s.set (by show w.heap.size + 1 < _; omega) _).set (by show w.heap.size + 1 < _; omega) _).mono (by omega)
    ·exact ((D9.out.p.set (by show w.heap.size + 1 < _; omega) _).set (by show w.heap.size + 1 < _; omega) _).mono (by omega)
    ·exact (b0.out.setCell (by show _ ≤ w.heap.size + 1; omega) _).setCell (by show _ ≤ w.heap.size + 1; omega) _
  ·skip
   have hR : caS ss ps t st ks tr = PT := by rw [caS_2 (by rw [← hac]; exact hB) h0 h1, hPT, hac]
   rw [hR]
   have e0 : (st == 0) = false := by simp [h0]
   have e1 : (st == 1) = false := by simp [h1]
   have b0 : Hid (Below w.heap.size w ((w.alloc (.cells #[.slice a1 ss.length c1, .slice a2 ps.length c2] 27)).alloc (.cells #[.slice none 0 0, .slice none 0 0] 27))) := ((belowRefl w).alloc (Nat.le_refl _) _).alloc (by simp) _
   have hzz : w.heap.size + 1 + 1 = ((w.alloc (.cells #[.slice a1 ss.length c1, .slice a2 ps.length c2] 27)).alloc (.cells #[.slice none 0 0, .slice none 0 0] 27)).heap.size := by simp
   have X5 : Hid (Bx ((w.alloc (.cells #[.slice a1 ss.length c1, .slice a2 ps.length c2] 27)).alloc (.cells #[.slice none 0 0, .slice none 0 0] 27)) w.heap.size (.slice a1 ss.length c1) (.slice a2 ps.length c2)) := (Bx.new w _ _ _).alloc _
   have X10 : Hid (Bx ((w.alloc (.cells #[.slice a1 ss.length c1, .slice a2 ps.length c2] 27)).alloc (.cells #[.slice none 0 0, .slice none 0 0] 27)) (w.heap.size + 1) (.slice none 0 0) (.slice none 0 0)) := by
    have h := Bx.new (w.alloc (.cells #[.slice a1 ss.length c1, .slice a2 ps.length c2] 27)) (.slice none 0 0) (.slice none 0 0) 27
    rw [World.size_alloc] at h
    exact h
   have DA : Hid (DOwn ((w.alloc (.cells #[.slice a1 ss.length c1, .slice a2 ps.length c2] 27)).alloc (.cells #[.slice none 0 0, .slice none 0 0] 27)) B0 a1 c1 a2 c2 ss ps) := hd.below b0.out
   have HK0 : Hid (KRow w ak ks) := hk
   have KA : Hid (KRow ((w.alloc (.cells #[.slice a1 ss.length c1, .slice a2 ps.length c2] 27)).alloc (.cells #[.slice none 0 0, .slice none 0 0] 27)) ak ks) := hk.below b0.out
   replace b0 := b0
   clear hs hp hB hlog hrec hlp hpt hpp hA hok hcb hcn hac hRW hS1 hWB hPT hd hk hR
   have g0 := X5.out.c0
   have g1 := X5.out.c1
   go_enter Tryz.func11, Tryz.ntmps11
   go_wp2_with fail
   generalize ((w.alloc (.cells #[.slice a1 ss.length c1, .slice a2 ps.length c2] 27)).alloc (.cells #[.slice none 0 0, .slice none 0 0] 27)) = v0 at *
   refine (HAP.out _ _ _ _ _ _ DA.out).mono ?_
   rintro e w1 ⟨y1, y2, y3, y4, rfl, hd1, hb1⟩
   replace X5 : Hid (Bx w1 w.heap.size (.slice a1 ss.length c1) (.slice a2 ps.length c2)) := X5.out.keep hb1 X5.out.lt
   replace X10 : Hid (Bx w1 (w.heap.size + 1) (.slice none 0 0) (.slice none 0 0)) := X10.out.keep hb1 X10.out.lt
   replace DA : Hid (DOwn w1 B0 a1 c1 a2 c2 ss ps) := DA.out.below hb1
   replace KA : Hid (KRow w1 ak ks) := KA.out.below hb1
   replace b0 : Hid (Below w.heap.size w w1) := b0.out.trans (hb1.mono b0.out.size)
   have D1 : Hid (DOwn w1 (w.heap.size + 1 + 1) y1 y2 y3 y4 PT ps) := by rw [hzz]; exact hd1
   clear hd1 hb1 g0 g1
   have hba : Below w1.heap.size w1 (w1.alloc (.cells #[.slice y1 PT.length y2, .slice y3 ps.length y4] 27)) := (belowRefl w1).alloc (Nat.le_refl _) _
   replace X5 : Hid (Bx (w1.alloc (.cells #[.slice y1 PT.length y2, .slice y3 ps.length y4] 27)) w.heap.size (.slice a1 ss.length c1) (.slice a2 ps.length c2)) := X5.out.keep hba X5.out.lt
   replace X10 : Hid (Bx (w1.alloc (.cells #[.slice y1 PT.length y2, .slice y3 ps.length y4] 27)) (w.heap.size + 1) (.slice none 0 0) (.slice none 0 0)) := X10.out.keep hba X10.out.lt
   replace DA : Hid (DOwn (w1.alloc (.cells #[.slice y1 PT.length y2, .slice y3 ps.length y4] 27)) B0 a1 c1 a2 c2 ss ps) := DA.out.below hba
   replace KA : Hid (KRow (w1.alloc (.cells #[.slice y1 PT.length y2, .slice y3 ps.length y4] 27)) ak ks) := KA.out.below hba
   replace b0 : Hid (Below w.heap.size w (w1.alloc (.cells #[.slice y1 PT.length y2, .slice y3 ps.length y4] 27))) := b0.out.trans (hba.mono b0.out.size)
   replace D1 : Hid (DOwn (w1.alloc (.cells #[.slice y1 PT.length y2, .slice y3 ps.length y4] 27)) (w.heap.size + 1 + 1) y1 y2 y3 y4 PT ps) := D1.out.below hba
   have X11 : Hid (Bx (w1.alloc (.cells #[.slice y1 PT.length y2, .slice y3 ps.length y4] 27)) w1.heap.size (.slice y1 PT.length y2) (.slice y3 ps.length y4)) := Bx.new w1 _ _ 27
   clear hba
   have g0 := X5.out.c0
   have g1 := X5.out.c1
   go_wp2_with fail
   generalize (w1.alloc (.cells #[.slice y1 PT.length y2, .slice y3 ps.length y4] 27)) = v1 at *
   generalize w1.heap.size = B11 at *
   refine (HAC.out _ _ _ _ _ _ DA.out).mono ?_
   rintro e w2 ⟨rfl, hb2⟩
   replace X5 : Hid (Bx w2 w.heap.size (.slice a1 ss.length c1) (.slice a2 ps.length c2)) := X5.out.keep hb2 X5.out.lt
   replace X10 : Hid (Bx w2 (w.heap.size + 1) (.slice none 0 0) (.slice none 0 0)) := X10.out.keep hb2 X10.out.lt
   replace DA : Hid (DOwn w2 B0 a1 c1 a2 c2 ss ps) := DA.out.below hb2
   replace KA : Hid (KRow w2 ak ks) := KA.out.below hb2
   replace b0 : Hid (Below w.heap.size w w2) := b0.out.trans (hb2.mono b0.out.size)
   replace D1 : Hid (DOwn w2 (w.heap.size + 1 + 1) y1 y2 y3 y4 PT ps) := D1.out.below hb2
   replace X11 : Hid (Bx w2 B11 (.slice y1 PT.length y2) (.slice y3 ps.length y4)) := X11.out.keep hb2 X11.out.lt
   clear hb2 g0 g1
   have g0 := X5.out.c0
   have g1 := X5.out.c1
   go_wp2_with fail
   refine (HBE.out _ _ _ _ _ _ DA.out).mono ?_
   rintro e w3 ⟨x1, x2, x3, x4, rfl, hd3, hk3, hb3⟩
   have hz3 : w.heap.size + 1 + 1 ≤ w2.heap.size := X10.out.lt
   replace X5 : Hid (Bx w3 w.heap.size (.slice a1 ss.length c1) (.slice a2 ps.length c2)) := X5.out.keep hb3 X5.out.lt
   replace X10 : Hid (Bx w3 (w.heap.size + 1) (.slice none 0 0) (.slice none 0 0)) := X10.out.keep hb3 X10.out.lt
   replace DA : Hid (DOwn w3 B0 a1 c1 a2 c2 ss ps) := DA.out.below hb3
   replace KA : Hid (KRow w3 ak ks) := KA.out.below hb3
   replace b0 : Hid (Below w.heap.size w w3) := b0.out.trans (hb3.mono b0.out.size)
   replace D1 : Hid (DOwn w3 (w.heap.size + 1 + 1) y1 y2 y3 y4 PT ps) := D1.out.below hb3
   replace X11 : Hid (Bx w3 B11 (.slice y1 PT.length y2) (.slice y3 ps.length y4)) := X11.out.keep hb3 X11.out.lt
   have D3 : Hid (DOwn w3 (w.heap.size + 1 + 1) x1 x2 x3 x4 ss RW) := hd3.mono hz3
   have hneq : Hid (w.heap.size + 1 < w3.heap.size) := X10.out.lt
   clear hd3 hb3 g0 g1
   have hba : Below w3.heap.size w3 (w3.alloc (.cells #[.slice x1 ss.length x2, .slice x3 RW.length x4] 27)) := (belowRefl w3).alloc (Nat.le_refl _) _
   replace X5 : Hid (Bx (w3.alloc (.cells #[.slice x1 ss.length x2, .slice x3 RW.length x4] 27)) w.heap.size (.slice a1 ss.length c1) (.slice a2 ps.length c2)) := X5.out.keep hba X5.out.lt
   replace X10 : Hid (Bx (w3.alloc (.cells #[.slice x1 ss.length x2, .slice x3 RW.length x4] 27)) (w.heap.size + 1) (.slice none 0 0) (.slice none 0 0)) := X10.out.keep hba X10.out.lt
   replace DA : Hid (DOwn (w3.alloc (.cells #[.slice x1 ss.length x2, .slice x3 RW.length x4] 27)) B0 a1 c1 a2 c2 ss ps) := DA.out.below hba
   replace KA : Hid (KRow (w3.alloc (.cells #[.slice x1 ss.length x2, .slice x3 RW.length x4] 27)) ak ks) := KA.out.below hba
   replace b0 : Hid (Below w.heap.size w (w3.alloc (.cells #[.slice x1 ss.length x2, .slice x3 RW.length x4] 27))) := b0.out.trans (hba.mono b0.out.size)
   replace D1 : Hid (DOwn (w3.alloc (.cells #[.slice x1 ss.length x2, .slice x3 RW.length x4] 27)) (w.heap.size + 1 + 1) y1 y2 y3 y4 PT ps) := D1.out.below hba
   replace X11 : Hid (Bx (w3.alloc (.cells #[.slice x1 ss.length x2, .slice x3 RW.length x4] 27)) B11 (.slice y1 PT.length y2) (.slice y3 ps.length y4)) := X11.out.keep hba X11.out.lt
   replace D3 : Hid (DOwn (w3.alloc (.cells #[.slice x1 ss.length x2, .slice x3 RW.length x4] 27)) (w.heap.size + 1 + 1) x1 x2 x3 x4 ss RW) := D3.out.below hba
   have X14 : Hid (Bx (w3.alloc (.cells #[.slice x1 ss.length x2, .slice x3 RW.length x4] 27)) w3.heap.size (.slice x1 ss.length x2) (.slice x3 RW.length x4)) := Bx.new w3 _ _ 27
   clear hba
   have g0 := X11.out.c0
   have g1 := X11.out.c1
   have r0 := X10.out.c0
   have r1 := X10.out.c1
   have rf := X10.out.fz
   have V9 : Hid (Bx (((w3.alloc (.cells #[.slice x1 ss.length x2, .slice x3 RW.length x4] 27)).setCell ⟨w.heap.size + 1, 0, none⟩ (.slice y1 PT.length y2)).setCell ⟨w.heap.size + 1, 1, none⟩ (.slice y3 ps.length y4)) (w.heap.size + 1) (.slice y1 PT.length y2) (.slice y3 ps.length y4)) := (X10.out.set0 _).set1 _
   have q0 := V9.out.c0
   have q1 := V9.out.c1
   go_wp2
   refine bodyPost_ret (v := .agg #[.slice y1 PT.length y2, .slice y3 ps.length y4]) (by simp [results, Tryz.results11, go_sem, q0, q1]) rfl ⟨y1, y2, y3, y4, rfl, ⟨?_, ?_⟩, ?_⟩
   ·exact ((D1.out.s.set (by show w.heap.size + 1 < _; omega) _).set (by show w.heap.size + 1 < _; omega) _).mono (by omega)
   ·exact ((D1.out.p.set (by show w.heap.size + 1 < _; omega) _).set (by show w.heap.size + 1 < _; omega) _).mono (by omega)
   ·exact (b0.out.setCell (by show _ ≤ w.heap.size + 1; omega) _).setCell (by show _ ≤ w.heap.size + 1; omega) _

end Go.Proofs.YtekjpoenbcnhdaaGreat

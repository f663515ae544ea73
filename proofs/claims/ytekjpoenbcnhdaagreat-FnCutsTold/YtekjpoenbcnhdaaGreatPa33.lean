/- What impl.CutAppend returns. -/
import Derived.Test.YtekjpoenbcnhdaaGreatPa01
import Derived.Test.YtekjpoenbcnhdaaGreatPa28
import Derived.Test.YtekjpoenbcnhdaaGreatPa26
import Derived.Deep.Cut
import Derived.Deep.CutRange
import Derived.Deep.RegionHeld3
import Derived.Test.YtekjpoenbcnhdaaGreatPa22
namespace Go.Proofs.YtekjpoenbcnhdaaGreat
open Go.RowKit
open DM
attribute [local go_sem ↓] Go.wp_at_zero Go.wp_at_succ

set_option maxRecDepth 100000 in
set_option maxHeartbeats 8000000 in
theorem icutA (ss : List ByteArray) (ps : List Wr) (t : ByteArray) (st : Int) (ks : List Int) (tr : Int) (a1 a2 ak : Option Addr) (c1 c2 ck : Nat) (hn : ss.length ≤ 1048576) (hm : ps.length ≤ 1048576) (hs : ∀ s ∈ ss, s.size ≤ 1048576) (hp : ∀ p ∈ ps, p.2.size ≤ 1048576) (htz : t.size ≤ 1048576) (hkl : ks.length ≤ 9223372036854775807) (w : World) (hsr : SRow w a1 ss) (hpr : PRow w a2 ps) (hk : KRow w ak ks) :
  Calls Tryz.prog 10 #[.agg #[.slice a1 ss.length c1, .slice a2 ps.length c2], .string t, .int .i64 st, .slice ak ks.length ck, .int .i64 tr] w fun e w' => ∃ b1 d1 b2 d2, e = .returned (.agg #[.slice b1 (caS ss ps t st ks tr).length d1, .slice b2 ps.length d2]) ∧ DOwn w' w.heap.size b1 d1 b2 d2 (caS ss ps t st ks tr) ps ∧ Below w.heap.size w w' := by
 have HAP : Hid (∀ (W : World) (z1 : Option Addr) (z2 : Nat) (z3 : Option Addr) (z4 : Nat), SRow W z1 ss → PRow W z3 ps → Calls Tryz.prog 29 #[.agg #[.slice z1 ss.length z2, .slice z3 ps.length z4], .string t] W fun e w' => ∃ f1 f2 f3 f4, e = .returned (.tuple #[.agg #[.slice f1 (prS ss ps (act ss ps) t).length f2, .slice f3 ps.length f4], .bool (prB ss ps (act ss ps) t)]) ∧ DOwn w' W.heap.size f1 f2 f3 f4 (prS ss ps (act ss ps) t) ps ∧ Below W.heap.size W w') := fun W z1 z2 z3 z4 h h2 => iapp39 ss ps t z1 z3 z2 z4 hn hm hs hp htz W h h2
 cases hB : prB ss ps (act ss ps) t with
 | false =>
  rw [caS_no hB]
  have hpn : prS ss ps (act ss ps) t = ss := if_neg (by simp [hB])
  rw [hB, hpn] at HAP
  have b0 : Hid (Below w.heap.size w ((w.alloc (.cells #[.slice a1 ss.length c1, .slice a2 ps.length c2] 27)).alloc (.cells #[.slice none 0 0, .slice none 0 0] 27))) := ((belowRefl w).alloc (Nat.le_refl _) _).alloc (by simp) _
  have hzz : w.heap.size + 1 + 1 = ((w.alloc (.cells #[.slice a1 ss.length c1, .slice a2 ps.length c2] 27)).alloc (.cells #[.slice none 0 0, .slice none 0 0] 27)).heap.size := by simp
  have X5 : Hid (Bx ((w.alloc (.cells #[.slice a1 ss.length c1, .slice a2 ps.length c2] 27)).alloc (.cells #[.slice none 0 0, .slice none 0 0] 27)) w.heap.size (.slice a1 ss.length c1) (.slice a2 ps.length c2)) := (Bx.new w _ _ _).alloc _
  have X10 : Hid (Bx ((w.alloc (.cells #[.slice a1 ss.length c1, .slice a2 ps.length c2] 27)).alloc (.cells #[.slice none 0 0, .slice none 0 0] 27)) (w.heap.size + 1) (.slice none 0 0) (.slice none 0 0)) := by
   have h := Bx.new (w.alloc (.cells #[.slice a1 ss.length c1, .slice a2 ps.length c2] 27)) (.slice none 0 0) (.slice none 0 0) 27
   rw [World.size_alloc] at h
   exact h
  have SA : Hid (SRow ((w.alloc (.cells #[.slice a1 ss.length c1, .slice a2 ps.length c2] 27)).alloc (.cells #[.slice none 0 0, .slice none 0 0] 27)) a1 ss) := hsr.below b0.out
  have PA : Hid (PRow ((w.alloc (.cells #[.slice a1 ss.length c1, .slice a2 ps.length c2] 27)).alloc (.cells #[.slice none 0 0, .slice none 0 0] 27)) a2 ps) := hpr.below b0.out
  have HK0 : Hid (KRow w ak ks) := hk
  have KA : Hid (KRow ((w.alloc (.cells #[.slice a1 ss.length c1, .slice a2 ps.length c2] 27)).alloc (.cells #[.slice none 0 0, .slice none 0 0] 27)) ak ks) := hk.below b0.out
  replace b0 := b0
  clear hs hp hB hpn hsr hpr hk
  have g0 := X5.out.c0
  have g1 := X5.out.c1
  go_enter Tryz.func10, Tryz.ntmps10
  go_wp2_with fail
  generalize ((w.alloc (.cells #[.slice a1 ss.length c1, .slice a2 ps.length c2] 27)).alloc (.cells #[.slice none 0 0, .slice none 0 0] 27)) = v0 at *
  refine (HAP.out _ _ _ _ _ SA.out PA.out).mono ?_
  rintro e w1 ⟨y1, y2, y3, y4, rfl, hd1, hb1⟩
  replace X5 : Hid (Bx w1 w.heap.size (.slice a1 ss.length c1) (.slice a2 ps.length c2)) := X5.out.keep hb1 X5.out.lt
  replace X10 : Hid (Bx w1 (w.heap.size + 1) (.slice none 0 0) (.slice none 0 0)) := X10.out.keep hb1 X10.out.lt
  replace SA : Hid (SRow w1 a1 ss) := SA.out.below hb1
  replace PA : Hid (PRow w1 a2 ps) := PA.out.below hb1
  replace KA : Hid (KRow w1 ak ks) := KA.out.below hb1
  replace b0 : Hid (Below w.heap.size w w1) := b0.out.trans (hb1.mono b0.out.size)
  have D1 : Hid (DOwn w1 (w.heap.size + 1 + 1) y1 y2 y3 y4 ss ps) := by rw [hzz]; exact hd1
  clear hd1 hb1 g0 g1
  have hba : Below w1.heap.size w1 (w1.alloc (.cells #[.slice y1 ss.length y2, .slice y3 ps.length y4] 27)) := (belowRefl w1).alloc (Nat.le_refl _) _
  replace X5 : Hid (Bx (w1.alloc (.cells #[.slice y1 ss.length y2, .slice y3 ps.length y4] 27)) w.heap.size (.slice a1 ss.length c1) (.slice a2 ps.length c2)) := X5.out.keep hba X5.out.lt
  replace X10 : Hid (Bx (w1.alloc (.cells #[.slice y1 ss.length y2, .slice y3 ps.length y4] 27)) (w.heap.size + 1) (.slice none 0 0) (.slice none 0 0)) := X10.out.keep hba X10.out.lt
  replace SA : Hid (SRow (w1.alloc (.cells #[.slice y1 ss.length y2, .slice y3 ps.length y4] 27)) a1 ss) := SA.out.below hba
  replace PA : Hid (PRow (w1.alloc (.cells #[.slice y1 ss.length y2, .slice y3 ps.length y4] 27)) a2 ps) := PA.out.below hba
  replace KA : Hid (KRow (w1.alloc (.cells #[.slice y1 ss.length y2, .slice y3 ps.length y4] 27)) ak ks) := KA.out.below hba
  replace b0 : Hid (Below w.heap.size w (w1.alloc (.cells #[.slice y1 ss.length y2, .slice y3 ps.length y4] 27))) := b0.out.trans (hba.mono b0.out.size)
  replace D1 : Hid (DOwn (w1.alloc (.cells #[.slice y1 ss.length y2, .slice y3 ps.length y4] 27)) (w.heap.size + 1 + 1) y1 y2 y3 y4 ss ps) := D1.out.below hba
  have X11 : Hid (Bx (w1.alloc (.cells #[.slice y1 ss.length y2, .slice y3 ps.length y4] 27)) w1.heap.size (.slice y1 ss.length y2) (.slice y3 ps.length y4)) := Bx.new w1 _ _ 27
  clear hba
  have g0 := X5.out.c0
  have g1 := X5.out.c1
  have k0 := X11.out.c0
  have k1 := X11.out.c1
  have r0 := X10.out.c0
  have r1 := X10.out.c1
  have rf := X10.out.fz
  have V9 : Hid (Bx (((w1.alloc (.cells #[.slice y1 ss.length y2, .slice y3 ps.length y4] 27)).setCell ⟨w.heap.size + 1, 0, none⟩ (.slice y1 ss.length y2)).setCell ⟨w.heap.size + 1, 1, none⟩ (.slice y3 ps.length y4)) (w.heap.size + 1) (.slice y1 ss.length y2) (.slice y3 ps.length y4)) := (X10.out.set0 _).set1 _
  have q0 := V9.out.c0
  have q1 := V9.out.c1
  go_wp2
  refine bodyPost_ret (v := .agg #[.slice y1 ss.length y2, .slice y3 ps.length y4]) (by simp [results, Tryz.results10, go_sem, q0, q1]) rfl ⟨y1, y2, y3, y4, rfl, ⟨?_, ?_⟩, ?_⟩
  ·exact ((D1.out.s.set (by show w.heap.size + 1 < _; omega) _).set (by show w.heap.size + 1 < _; omega) _).mono (by omega)
  ·exact ((D1.out.p.set (by show w.heap.size + 1 < _; omega) _).set (by show w.heap.size + 1 < _; omega) _).mono (by omega)
  ·exact (b0.out.setCell (by show _ ≤ w.heap.size + 1; omega) _).setCell (by show _ ≤ w.heap.size + 1; omega) _
 | true =>
  have hlog : logB ss ps = true := by
   unfold prB at hB
   exact (Bool.and_eq_true_iff.1 hB).1
  have hrec : recB ss ps (act ss ps) t = true := by
   unfold prB at hB
   exact (Bool.and_eq_true_iff.1 hB).2
  have hlp := logB_parts hlog
  have hpt := recB_parts hrec
  have hpp : prS ss ps (act ss ps) t = putS ss ps (act ss ps) t := if_pos hB
  have hA : isA (act ss ps) = true := act_01 ss ps
  have hok := okB_iff.1 hlp.1
  have hcb := cnt_le ss ps (act ss ps)
  obtain ⟨cn, hcn⟩ := Int.eq_ofNat_of_zero_le hcb.1
  have hcn255 : cn < 255 := by have := hpt.2.2.1; omega
  obtain ⟨ac, hac⟩ : ∃ ac, ac = act ss ps := ⟨_, rfl⟩
  obtain ⟨RW, hRW⟩ : ∃ RW, RW = recW ss ps ac t := ⟨_, rfl⟩
  obtain ⟨S1, hS1⟩ : ∃ S1, S1 = flS ss RW := ⟨_, rfl⟩
  obtain ⟨WB, hWB⟩ : ∃ WB, WB = wb S1 (af ac).toNat 0 [UInt8.ofNat (cn + 1)] := ⟨_, rfl⟩
  obtain ⟨PT, hPT⟩ : ∃ PT, PT = putS ss ps ac t := ⟨_, rfl⟩
  have hs100 : ss.length ≤ 100 := hok.2.1
  have hpl : ps.length ≤ 60 := hok.2.2.1
  rw [← hac] at hrec hpp hA hcn hB HAP
  rw [hB, hpp, ← hPT] at HAP
  have HAC : Hid (∀ (W : World) (z1 : Option Addr) (z2 : Nat) (z3 : Option Addr) (z4 : Nat), SRow W z1 ss → PRow W z3 ps → Calls Tryz.prog 30 #[.agg #[.slice z1 ss.length z2, .slice z3 ps.length z4]] W fun e w' => e = .returned (.int .i64 ac) ∧ Below W.heap.size W w') := fun W z1 z2 z3 z4 h h2 => by
   rw [hac]
   exact iac26 ss ps z1 z3 z2 z4 (by omega) (by omega) (fun s h => Nat.le_trans (hs s h) (by omega)) (fun p h => Nat.le_trans (hp p h) (by omega)) W h h2
  have HBE : Hid (∀ (W : World) (z1 : Option Addr) (z2 : Nat) (z3 : Option Addr) (z4 : Nat), SRow W z1 ss → PRow W z3 ps → Calls Tryz.prog 31 #[.agg #[.slice z1 ss.length z2, .slice z3 ps.length z4], .int .i64 ac, .string t] W fun e w' => ∃ f1 f2 f3 f4, e = .returned (.tuple #[.agg #[.slice f1 ss.length f2, .slice f3 RW.length f4], .bool true]) ∧ DOwn w' W.heap.size f1 f2 f3 f4 ss RW ∧ okB ss RW = true ∧ Below W.heap.size W w') := fun W z1 z2 z3 z4 h h2 => by
   refine (irw71 ss ps ac t z1 z3 z2 z4 hlp.1 hlp.2.2 hlp.2.1 htz W h h2).mono ?_
   rw [hrec, ← hRW]
   rintro e w' (⟨_, q⟩ | ⟨q, _⟩)
   ·exact q
   ·cases q
  rcases Classical.em (st = 0) with rfl | h0
  ·skip
   obtain ⟨CR, hCR⟩ : ∃ CR, CR = crS ss RW ks tr := ⟨_, rfl⟩
   have hR : caS ss ps t 0 ks tr = CR := by rw [caS_0 (by rw [← hac]; exact hB), hCR, hRW, hac]
   rw [hR]
   have HCR : Hid (okB ss RW = true → ∀ (W : World) (z1 : Option Addr) (z2 : Nat) (z3 : Option Addr) (z4 : Nat), SRow W z1 ss → PRow W z3 RW → KRow W ak ks → Calls Tryz.prog 35 #[.agg #[.slice z1 ss.length z2, .slice z3 RW.length z4], .slice ak ks.length ck, .int .i64 tr] W fun e w' => ∃ f1 f2 f3 f4, e = .returned (.agg #[.slice f1 CR.length f2, .slice f3 ps.length f4]) ∧ DOwn w' W.heap.size f1 f2 f3 f4 CR ps ∧ Below W.heap.size W w') := fun hk2 W z1 z2 z3 z4 h h2 hkr => by
    have ho := okB_iff.1 hk2
    have q := icrash23 ss RW ks tr z1 z3 ak z2 z4 ck (by have := ho.2.1; omega) (by have := ho.2.2.1; omega) hkl (fun s h => by have := ho.2.2.2.1 s h; omega) (fun p h => by have := (ho.2.2.2.2 p h).2.2; omega) W h h2 hkr
    rw [flP_yes hk2, ← hlp.2.2, ← hCR] at q
    exact q
   have b0 : Hid (Below w.heap.size w ((w.alloc (.cells #[.slice a1 ss.length c1, .slice a2 ps.length c2] 27)).alloc (.cells #[.slice none 0 0, .slice none 0 0] 27))) := ((belowRefl w).alloc (Nat.le_refl _) _).alloc (by simp) _
   have hzz : w.heap.size + 1 + 1 = ((w.alloc (.cells #[.slice a1 ss.length c1, .slice a2 ps.length c2] 27)).alloc (.cells #[.slice none 0 0, .slice none 0 0] 27)).heap.size := by simp
   have X5 : Hid (Bx ((w.alloc (.cells #[.slice a1 ss.length c1, .slice a2 ps.length c2] 27)).alloc (.cells #[.slice none 0 0, .slice none 0 0] 27)) w.heap.size (.slice a1 ss.length c1) (.slice a2 ps.length c2)) := (Bx.new w _ _ _).alloc _
   have X10 : Hid (Bx ((w.alloc (.cells #[.slice a1 ss.length c1, .slice a2 ps.length c2] 27)).alloc (.cells #[.slice none 0 0, .slice none 0 0] 27)) (w.heap.size + 1) (.slice none 0 0) (.slice none 0 0)) := by
    have h := Bx.new (w.alloc (.cells #[.slice a1 ss.length c1, .slice a2 ps.length c2] 27)) (.slice none 0 0) (.slice none 0 0) 27
    rw [World.size_alloc] at h
    exact h
   have SA : Hid (SRow ((w.alloc (.cells #[.slice a1 ss.length c1, .slice a2 ps.length c2] 27)).alloc (.cells #[.slice none 0 0, .slice none 0 0] 27)) a1 ss) := hsr.below b0.out
   have PA : Hid (PRow ((w.alloc (.cells #[.slice a1 ss.length c1, .slice a2 ps.length c2] 27)).alloc (.cells #[.slice none 0 0, .slice none 0 0] 27)) a2 ps) := hpr.below b0.out
   have HK0 : Hid (KRow w ak ks) := hk
   have KA : Hid (KRow ((w.alloc (.cells #[.slice a1 ss.length c1, .slice a2 ps.length c2] 27)).alloc (.cells #[.slice none 0 0, .slice none 0 0] 27)) ak ks) := hk.below b0.out
   replace b0 := b0
   clear hs hp hB hlog hrec hlp hpt hpp hA hok hcb hcn hac hRW hS1 hWB hPT hsr hpr hk hR hCR
   have g0 := X5.out.c0
   have g1 := X5.out.c1
   go_enter Tryz.func10, Tryz.ntmps10
   go_wp2_with fail
   generalize ((w.alloc (.cells #[.slice a1 ss.length c1, .slice a2 ps.length c2] 27)).alloc (.cells #[.slice none 0 0, .slice none 0 0] 27)) = v0 at *
   refine (HAP.out _ _ _ _ _ SA.out PA.out).mono ?_
   rintro e w1 ⟨y1, y2, y3, y4, rfl, hd1, hb1⟩
   replace X5 : Hid (Bx w1 w.heap.size (.slice a1 ss.length c1) (.slice a2 ps.length c2)) := X5.out.keep hb1 X5.out.lt
   replace X10 : Hid (Bx w1 (w.heap.size + 1) (.slice none 0 0) (.slice none 0 0)) := X10.out.keep hb1 X10.out.lt
   replace SA : Hid (SRow w1 a1 ss) := SA.out.below hb1
   replace PA : Hid (PRow w1 a2 ps) := PA.out.below hb1
   replace KA : Hid (KRow w1 ak ks) := KA.out.below hb1
   replace b0 : Hid (Below w.heap.size w w1) := b0.out.trans (hb1.mono b0.out.size)
   have D1 : Hid (DOwn w1 (w.heap.size + 1 + 1) y1 y2 y3 y4 PT ps) := by rw [hzz]; exact hd1
   clear hd1 hb1 g0 g1
   have hba : Below w1.heap.size w1 (w1.alloc (.cells #[.slice y1 PT.length y2, .slice y3 ps.length y4] 27)) := (belowRefl w1).alloc (Nat.le_refl _) _
   replace X5 : Hid (Bx (w1.alloc (.cells #[.slice y1 PT.length y2, .slice y3 ps.length y4] 27)) w.heap.size (.slice a1 ss.length c1) (.slice a2 ps.length c2)) := X5.out.keep hba X5.out.lt
   replace X10 : Hid (Bx (w1.alloc (.cells #[.slice y1 PT.length y2, .slice y3 ps.length y4] 27)) (w.heap.size + 1) (.slice none 0 0) (.slice none 0 0)) := X10.out.keep hba X10.out.lt
   replace SA : Hid (SRow (w1.alloc (.cells #[.slice y1 PT.length y2, .slice y3 ps.length y4] 27)) a1 ss) := SA.out.below hba
   replace PA : Hid (PRow (w1.alloc (.cells #[.slice y1 PT.length y2, .slice y3 ps.length y4] 27)) a2 ps) := PA.out.below hba
   replace KA : Hid (KRow (w1.alloc (.cells #[.slice y1 PT.length y2, .slice y3 ps.length y4] 27)) ak ks) := KA.out.below hba
   replace b0 : Hid (Below w.heap.size w (w1.alloc (.cells #[.slice y1 PT.length y2, .slice y3 ps.length y4] 27))) := b0.out.trans (hba.mono b0.out.size)
   replace D1 : Hid (DOwn (w1.alloc (.cells #[.slice y1 PT.length y2, .slice y3 ps.length y4] 27)) (w.heap.size + 1 + 1) y1 y2 y3 y4 PT ps) := D1.out.below hba
   have X11 : Hid (Bx (w1.alloc (.cells #[.slice y1 PT.length y2, .slice y3 ps.length y4] 27)) w1.heap.size (.slice y1 PT.length y2) (.slice y3 ps.length y4)) := Bx.new w1 _ _ 27
   clear hba
   have g0 := X5.out.c0
   have g1 := X5.out.c1
   go_wp2_with fail
   generalize (w1.alloc (.cells #[.slice y1 PT.length y2, .slice y3 ps.length y4] 27)) = v1 at *
   generalize w1.heap.size = B11 at *
   refine (HAC.out _ _ _ _ _ SA.out PA.out).mono ?_
   rintro e w2 ⟨rfl, hb2⟩
   replace X5 : Hid (Bx w2 w.heap.size (.slice a1 ss.length c1) (.slice a2 ps.length c2)) := X5.out.keep hb2 X5.out.lt
   replace X10 : Hid (Bx w2 (w.heap.size + 1) (.slice none 0 0) (.slice none 0 0)) := X10.out.keep hb2 X10.out.lt
   replace SA : Hid (SRow w2 a1 ss) := SA.out.below hb2
   replace PA : Hid (PRow w2 a2 ps) := PA.out.below hb2
   replace KA : Hid (KRow w2 ak ks) := KA.out.below hb2
   replace b0 : Hid (Below w.heap.size w w2) := b0.out.trans (hb2.mono b0.out.size)
   replace D1 : Hid (DOwn w2 (w.heap.size + 1 + 1) y1 y2 y3 y4 PT ps) := D1.out.below hb2
   replace X11 : Hid (Bx w2 B11 (.slice y1 PT.length y2) (.slice y3 ps.length y4)) := X11.out.keep hb2 X11.out.lt
   clear hb2 g0 g1
   have g0 := X5.out.c0
   have g1 := X5.out.c1
   go_wp2_with fail
   refine (HBE.out _ _ _ _ _ SA.out PA.out).mono ?_
   rintro e w3 ⟨x1, x2, x3, x4, rfl, hd3, hk3, hb3⟩
   have hz3 : w.heap.size + 1 + 1 ≤ w2.heap.size := X10.out.lt
   replace X5 : Hid (Bx w3 w.heap.size (.slice a1 ss.length c1) (.slice a2 ps.length c2)) := X5.out.keep hb3 X5.out.lt
   replace X10 : Hid (Bx w3 (w.heap.size + 1) (.slice none 0 0) (.slice none 0 0)) := X10.out.keep hb3 X10.out.lt
   replace SA : Hid (SRow w3 a1 ss) := SA.out.below hb3
   replace PA : Hid (PRow w3 a2 ps) := PA.out.below hb3
   replace KA : Hid (KRow w3 ak ks) := KA.out.below hb3
   replace b0 : Hid (Below w.heap.size w w3) := b0.out.trans (hb3.mono b0.out.size)
   replace D1 : Hid (DOwn w3 (w.heap.size + 1 + 1) y1 y2 y3 y4 PT ps) := D1.out.below hb3
   replace X11 : Hid (Bx w3 B11 (.slice y1 PT.length y2) (.slice y3 ps.length y4)) := X11.out.keep hb3 X11.out.lt
   have D3 : Hid (DOwn w3 (w.heap.size + 1 + 1) x1 x2 x3 x4 ss RW) := hd3.mono hz3
   have hneq : Hid (w.heap.size + 1 < w3.heap.size) := X10.out.lt
   clear hd3 hb3 g0 g1
   have hba : Below w3.heap.size w3 (w3.alloc (.cells #[.slice x1 ss.length x2, .slice x3 RW.length x4] 27)) := (belowRefl w3).alloc (Nat.le_refl _) _
   replace X5 : Hid (Bx (w3.alloc (.cells #[.slice x1 ss.length x2, .slice x3 RW.length x4] 27)) w.heap.size (.slice a1 ss.length c1) (.slice a2 ps.length c2)) := X5.out.keep hba X5.out.lt
   replace X10 : Hid (Bx (w3.alloc (.cells #[.slice x1 ss.length x2, .slice x3 RW.length x4] 27)) (w.heap.size + 1) (.slice none 0 0) (.slice none 0 0)) := X10.out.keep hba X10.out.lt
   replace SA : Hid (SRow (w3.alloc (.cells #[.slice x1 ss.length x2, .slice x3 RW.length x4] 27)) a1 ss) := SA.out.below hba
   replace PA : Hid (PRow (w3.alloc (.cells #[.slice x1 ss.length x2, .slice x3 RW.length x4] 27)) a2 ps) := PA.out.below hba
   replace KA : Hid (KRow (w3.alloc (.cells #[.slice x1 ss.length x2, .slice x3 RW.length x4] 27)) ak ks) := KA.out.below hba
   replace b0 : Hid (Below w.heap.size w (w3.alloc (.cells #[.slice x1 ss.length x2, .slice x3 RW.length x4] 27))) := b0.out.trans (hba.mono b0.out.size)
   replace D1 : Hid (DOwn (w3.alloc (.cells #[.slice x1 ss.length x2, .slice x3 RW.length x4] 27)) (w.heap.size + 1 + 1) y1 y2 y3 y4 PT ps) := D1.out.below hba
   replace X11 : Hid (Bx (w3.alloc (.cells #[.slice x1 ss.length x2, .slice x3 RW.length x4] 27)) B11 (.slice y1 PT.length y2) (.slice y3 ps.length y4)) := X11.out.keep hba X11.out.lt
   replace D3 : Hid (DOwn (w3.alloc (.cells #[.slice x1 ss.length x2, .slice x3 RW.length x4] 27)) (w.heap.size + 1 + 1) x1 x2 x3 x4 ss RW) := D3.out.below hba
   have X14 : Hid (Bx (w3.alloc (.cells #[.slice x1 ss.length x2, .slice x3 RW.length x4] 27)) w3.heap.size (.slice x1 ss.length x2) (.slice x3 RW.length x4)) := Bx.new w3 _ _ 27
   clear hba
   have g0 := X14.out.c0
   have g1 := X14.out.c1
   go_wp2_with fail
   generalize (w3.alloc (.cells #[.slice x1 ss.length x2, .slice x3 RW.length x4] 27)) = v3 at *
   generalize w3.heap.size = B14 at *
   refine (HCR.out hk3 _ _ _ _ _ D3.out.s.srow D3.out.p.prow KA.out).mono ?_
   rintro e w9 ⟨u1, u2, u3, u4, rfl, hd9, hb9⟩
   have hz9 : w.heap.size + 1 + 1 ≤ v3.heap.size := X10.out.lt
   replace X5 : Hid (Bx w9 w.heap.size (.slice a1 ss.length c1) (.slice a2 ps.length c2)) := X5.out.keep hb9 X5.out.lt
   replace X10 : Hid (Bx w9 (w.heap.size + 1) (.slice none 0 0) (.slice none 0 0)) := X10.out.keep hb9 X10.out.lt
   replace SA : Hid (SRow w9 a1 ss) := SA.out.below hb9
   replace PA : Hid (PRow w9 a2 ps) := PA.out.below hb9
   replace KA : Hid (KRow w9 ak ks) := KA.out.below hb9
   replace b0 : Hid (Below w.heap.size w w9) := b0.out.trans (hb9.mono b0.out.size)
   replace D1 : Hid (DOwn w9 (w.heap.size + 1 + 1) y1 y2 y3 y4 PT ps) := D1.out.below hb9
   replace X11 : Hid (Bx w9 B11 (.slice y1 PT.length y2) (.slice y3 ps.length y4)) := X11.out.keep hb9 X11.out.lt
   replace D3 : Hid (DOwn w9 (w.heap.size + 1 + 1) x1 x2 x3 x4 ss RW) := D3.out.below hb9
   replace X14 : Hid (Bx w9 B14 (.slice x1 ss.length x2) (.slice x3 RW.length x4)) := X14.out.keep hb9 X14.out.lt
   have D9 : Hid (DOwn w9 (w.heap.size + 1 + 1) u1 u2 u3 u4 CR ps) := hd9.mono hz9
   clear hd9 hb9 g0 g1
   have r0 := X10.out.c0
   have r1 := X10.out.c1
   have rf := X10.out.fz
   have V9 : Hid (Bx ((w9.setCell ⟨w.heap.size + 1, 0, none⟩ (.slice u1 CR.length u2)).setCell ⟨w.heap.size + 1, 1, none⟩ (.slice u3 ps.length u4)) (w.heap.size + 1) (.slice u1 CR.length u2) (.slice u3 ps.length u4)) := (X10.out.set0 _).set1 _
   have q0 := V9.out.c0
   have q1 := V9.out.c1
   go_wp2
   refine bodyPost_ret (v := .agg #[.slice u1 CR.length u2, .slice u3 ps.length u4]) (by simp [results, Tryz.results10, go_sem, q0, q1]) rfl ⟨u1, u2, u3, u4, rfl, ⟨?_, ?_⟩, ?_⟩
   ·exact ((D9.out.s.set (by show w.heap.size + 1 < _; omega) _).set (by show w.heap.size + 1 < _; omega) _).mono (by omega)
   ·exact ((D9.out.p.set (by show w.heap.size + 1 < _; omega) _).set (by show w.heap.size + 1 < _; omega) _).mono (by omega)
   ·exact (b0.out.setCell (by show _ ≤ w.heap.size + 1; omega) _).setCell (by show _ ≤ w.heap.size + 1; omega) _
  rcases Classical.em (st = 1) with rfl | h1
  ·skip
   obtain ⟨CR, hCR⟩ : ∃ CR, CR = crS S1 WB ks tr := ⟨_, rfl⟩
   have hR : caS ss ps t 1 ks tr = CR := by rw [caS_1 (by rw [← hac]; exact hB), ← hac, ← hRW, ← hS1, hCR, hWB, hcn]; rfl
   rw [hR]
   have HRWK : Hid (okB ss RW = true → okB S1 ps = true ∧ S1.length = 97 ∧ flP ss RW = ps) := fun h => by
    have h2 := okB_flush h
    rw [← hS1, flP_yes h] at h2
    rw [← hlp.2.2] at h2
    exact ⟨h2, by rw [hS1, flS_length h, hlp.2.1], by rw [flP_yes h, hlp.2.2]⟩
   have HFL : Hid (okB ss RW = true → ∀ (W : World) (z1 : Option Addr) (z2 : Nat) (z3 : Option Addr) (z4 : Nat), SRow W z1 ss → PRow W z3 RW → Calls Tryz.prog 33 #[.agg #[.slice z1 ss.length z2, .slice z3 RW.length z4]] W fun e w' => ∃ f1 f2 f3 f4, e = .returned (.agg #[.slice f1 S1.length f2, .slice f3 ps.length f4]) ∧ DOwn w' W.heap.size f1 f2 f3 f4 S1 ps ∧ Below W.heap.size W w') := fun hk2 W z1 z2 z3 z4 h h2 => by
    have ho := okB_iff.1 hk2
    have q := iflush19 ss RW z1 z3 z2 z4 (by omega) (by have := ho.2.2.1; omega) (fun s h => by have := ho.2.2.2.1 s h; omega) (fun p h => by have := (ho.2.2.2.2 p h).2.2; omega) W h h2
    rw [← hS1, (HRWK.out hk2).2.2] at q
    exact q
   have HCN : Hid (∀ (W : World) (z1 : Option Addr) (z2 : Nat) (z3 : Option Addr) (z4 : Nat), SRow W z1 ss → PRow W z3 ps → Calls Tryz.prog 34 #[.agg #[.slice z1 ss.length z2, .slice z3 ps.length z4], .int .i64 ac] W fun e w' => e = .returned (.int .i64 (cn : Int)) ∧ Below W.heap.size W w') := fun W z1 z2 z3 z4 h h2 => by
    have q := icn28 ss ps ac z1 z3 z2 z4 (by omega) (by omega) (fun s h => Nat.le_trans (hs s h) (by omega)) (fun p h => Nat.le_trans (hp p h) (by omega)) W h h2
    rw [hcn] at q
    exact q
   have HCO : Hid (okB ss RW = true → ∀ (W : World) (z1 : Option Addr) (z2 : Nat) (z3 : Option Addr) (z4 : Nat), SRow W z1 S1 → PRow W z3 ps → Calls Tryz.prog 32 #[.agg #[.slice z1 S1.length z2, .slice z3 ps.length z4], .int .i64 ac, .int .i64 ((cn : Int) + 1)] W fun e w' => ∃ f1 f2 f3 f4, e = .returned (.agg #[.slice f1 S1.length f2, .slice f3 WB.length f4]) ∧ DOwn w' W.heap.size f1 f2 f3 f4 S1 WB ∧ okB S1 WB = true ∧ Below W.heap.size W w') := fun hk2 W z1 z2 z3 z4 h h2 => by
    have q := icw73 S1 ps ac (cn + 1) z1 z3 z2 z4 hA (HRWK.out hk2).1 hlp.2.2 (HRWK.out hk2).2.1 (by omega) W h h2
    rw [← hWB, show ((cn + 1 : Nat) : Int) = (cn : Int) + 1 by omega] at q
    exact q
   have HCR : Hid (okB S1 WB = true → ∀ (W : World) (z1 : Option Addr) (z2 : Nat) (z3 : Option Addr) (z4 : Nat), SRow W z1 S1 → PRow W z3 WB → KRow W ak ks → Calls Tryz.prog 35 #[.agg #[.slice z1 S1.length z2, .slice z3 WB.length z4], .slice ak ks.length ck, .int .i64 tr] W fun e w' => ∃ f1 f2 f3 f4, e = .returned (.agg #[.slice f1 CR.length f2, .slice f3 ps.length f4]) ∧ DOwn w' W.heap.size f1 f2 f3 f4 CR ps ∧ Below W.heap.size W w') := fun hk2 W z1 z2 z3 z4 h h2 hkr => by
    have ho := okB_iff.1 hk2
    have q := icrash23 S1 WB ks tr z1 z3 ak z2 z4 ck (by have := ho.2.1; omega) (by have := ho.2.2.1; omega) hkl (fun s h => by have := ho.2.2.2.1 s h; omega) (fun p h => by have := (ho.2.2.2.2 p h).2.2; omega) W h h2 hkr
    rw [flP_yes hk2, ← hlp.2.2, ← hCR] at q
    exact q
   have b0 : Hid (Below w.heap.size w ((w.alloc (.cells #[.slice a1 ss.length c1, .slice a2 ps.length c2] 27)).alloc (.cells #[.slice none 0 0, .slice none 0 0] 27))) := ((belowRefl w).alloc (Nat.le_refl _) _).alloc (by simp) _
   have hzz : w.heap.size + 1 + 1 = ((w.alloc (.cells #[.slice a1 ss.length c1, .slice a2 ps.length c2] 27)).alloc (.cells #[.slice none 0 0, .slice none 0 0] 27)).heap.size := by simp
   have X5 : Hid (Bx ((w.alloc (.cells #[.slice a1 ss.length c1, .slice a2 ps.length c2] 27)).alloc (.cells #[.slice none 0 0, .slice none 0 0] 27)) w.heap.size (.slice a1 ss.length c1) (.slice a2 ps.length c2)) := (Bx.new w _ _ _).alloc _
   have X10 : Hid (Bx ((w.alloc (.cells #[.slice a1 ss.length c1, .slice a2 ps.length c2] 27)).alloc (.cells #[.slice none 0 0, .slice none 0 0] 27)) (w.heap.size + 1) (.slice none 0 0) (.slice none 0 0)) := by
    have h := Bx.new (w.alloc (.cells #[.slice a1 ss.length c1, .slice a2 ps.length c2] 27)) (.slice none 0 0) (.slice none 0 0) 27
    rw [World.size_alloc] at h
    exact h
   have SA : Hid (SRow ((w.alloc (.cells #[.slice a1 ss.length c1, .slice a2 ps.length c2] 27)).alloc (.cells #[.slice none 0 0, .slice none 0 0] 27)) a1 ss) := hsr.below b0.out
   have PA : Hid (PRow ((w.alloc (.cells #[.slice a1 ss.length c1, .slice a2 ps.length c2] 27)).alloc (.cells #[.slice none 0 0, .slice none 0 0] 27)) a2 ps) := hpr.below b0.out
   have HK0 : Hid (KRow w ak ks) := hk
   have KA : Hid (KRow ((w.alloc (.cells #[.slice a1 ss.length c1, .slice a2 ps.length c2] 27)).alloc (.cells #[.slice none 0 0, .slice none 0 0] 27)) ak ks) := hk.below b0.out
   replace b0 := b0
   clear hs hp hB hlog hrec hlp hpt hpp hA hok hcb hcn hac hRW hS1 hWB hPT hsr hpr hk hR hCR HRWK
   have g0 := X5.out.c0
   have g1 := X5.out.c1
   go_enter Tryz.func10, Tryz.ntmps10
   go_wp2_with fail
   generalize ((w.alloc (.cells #[.slice a1 ss.length c1, .slice a2 ps.length c2] 27)).alloc (.cells #[.slice none 0 0, .slice none 0 0] 27)) = v0 at *
   refine (HAP.out _ _ _ _ _ SA.out PA.out).mono ?_
   rintro e w1 ⟨y1, y2, y3, y4, rfl, hd1, hb1⟩
   replace X5 : Hid (Bx w1 w.heap.size (.slice a1 ss.length c1) (.slice a2 ps.length c2)) := X5.out.keep hb1 X5.out.lt
   replace X10 : Hid (Bx w1 (w.heap.size + 1) (.slice none 0 0) (.slice none 0 0)) := X10.out.keep hb1 X10.out.lt
   replace SA : Hid (SRow w1 a1 ss) := SA.out.below hb1
   replace PA : Hid (PRow w1 a2 ps) := PA.out.below hb1
   replace KA : Hid (KRow w1 ak ks) := KA.out.below hb1
   replace b0 : Hid (Below w.heap.size w w1) := b0.out.trans (hb1.mono b0.out.size)
   have D1 : Hid (DOwn w1 (w.heap.size + 1 + 1) y1 y2 y3 y4 PT ps) := by rw [hzz]; exact hd1
   clear hd1 hb1 g0 g1
   have hba : Below w1.heap.size w1 (w1.alloc (.cells #[.slice y1 PT.length y2, .slice y3 ps.length y4] 27)) := (belowRefl w1).alloc (Nat.le_refl _) _
   replace X5 : Hid (Bx (w1.alloc (.cells #[.slice y1 PT.length y2, .slice y3 ps.length y4] 27)) w.heap.size (.slice a1 ss.length c1) (.slice a2 ps.length c2)) := X5.out.keep hba X5.out.lt
   replace X10 : Hid (Bx (w1.alloc (.cells #[.slice y1 PT.length y2, .slice y3 ps.length y4] 27)) (w.heap.size + 1) (.slice none 0 0) (.slice none 0 0)) := X10.out.keep hba X10.out.lt
   replace SA : Hid (SRow (w1.alloc (.cells #[.slice y1 PT.length y2, .slice y3 ps.length y4] 27)) a1 ss) := SA.out.below hba
   replace PA : Hid (PRow (w1.alloc (.cells #[.slice y1 PT.length y2, .slice y3 ps.length y4] 27)) a2 ps) := PA.out.below hba
   replace KA : Hid (KRow (w1.alloc (.cells #[.slice y1 PT.length y2, .slice y3 ps.length y4] 27)) ak ks) := KA.out.below hba
   replace b0 : Hid (Below w.heap.size w (w1.alloc (.cells #[.slice y1 PT.length y2, .slice y3 ps.length y4] 27))) := b0.out.trans (hba.mono b0.out.size)
   replace D1 : Hid (DOwn (w1.alloc (.cells #[.slice y1 PT.length y2, .slice y3 ps.length y4] 27)) (w.heap.size + 1 + 1) y1 y2 y3 y4 PT ps) := D1.out.below hba
   have X11 : Hid (Bx (w1.alloc (.cells #[.slice y1 PT.length y2, .slice y3 ps.length y4] 27)) w1.heap.size (.slice y1 PT.length y2) (.slice y3 ps.length y4)) := Bx.new w1 _ _ 27
   clear hba
   have g0 := X5.out.c0
   have g1 := X5.out.c1
   go_wp2_with fail
   generalize (w1.alloc (.cells #[.slice y1 PT.length y2, .slice y3 ps.length y4] 27)) = v1 at *
   generalize w1.heap.size = B11 at *
   refine (HAC.out _ _ _ _ _ SA.out PA.out).mono ?_
   rintro e w2 ⟨rfl, hb2⟩
   replace X5 : Hid (Bx w2 w.heap.size (.slice a1 ss.length c1) (.slice a2 ps.length c2)) := X5.out.keep hb2 X5.out.lt
   replace X10 : Hid (Bx w2 (w.heap.size + 1) (.slice none 0 0) (.slice none 0 0)) := X10.out.keep hb2 X10.out.lt
   replace SA : Hid (SRow w2 a1 ss) := SA.out.below hb2
   replace PA : Hid (PRow w2 a2 ps) := PA.out.below hb2
   replace KA : Hid (KRow w2 ak ks) := KA.out.below hb2
   replace b0 : Hid (Below w.heap.size w w2) := b0.out.trans (hb2.mono b0.out.size)
   replace D1 : Hid (DOwn w2 (w.heap.size + 1 + 1) y1 y2 y3 y4 PT ps) := D1.out.below hb2
   replace X11 : Hid (Bx w2 B11 (.slice y1 PT.length y2) (.slice y3 ps.length y4)) := X11.out.keep hb2 X11.out.lt
   clear hb2 g0 g1
   have g0 := X5.out.c0
   have g1 := X5.out.c1
   go_wp2_with fail
   refine (HBE.out _ _ _ _ _ SA.out PA.out).mono ?_
   rintro e w3 ⟨x1, x2, x3, x4, rfl, hd3, hk3, hb3⟩
   have hz3 : w.heap.size + 1 + 1 ≤ w2.heap.size := X10.out.lt
   replace X5 : Hid (Bx w3 w.heap.size (.slice a1 ss.length c1) (.slice a2 ps.length c2)) := X5.out.keep hb3 X5.out.lt
   replace X10 : Hid (Bx w3 (w.heap.size + 1) (.slice none 0 0) (.slice none 0 0)) := X10.out.keep hb3 X10.out.lt
   replace SA : Hid (SRow w3 a1 ss) := SA.out.below hb3
   replace PA : Hid (PRow w3 a2 ps) := PA.out.below hb3
   replace KA : Hid (KRow w3 ak ks) := KA.out.below hb3
   replace b0 : Hid (Below w.heap.size w w3) := b0.out.trans (hb3.mono b0.out.size)
   replace D1 : Hid (DOwn w3 (w.heap.size + 1 + 1) y1 y2 y3 y4 PT ps) := D1.out.below hb3
   replace X11 : Hid (Bx w3 B11 (.slice y1 PT.length y2) (.slice y3 ps.length y4)) := X11.out.keep hb3 X11.out.lt
   have D3 : Hid (DOwn w3 (w.heap.size + 1 + 1) x1 x2 x3 x4 ss RW) := hd3.mono hz3
   have hneq : Hid (w.heap.size + 1 < w3.heap.size) := X10.out.lt
   clear hd3 hb3 g0 g1
   have hba : Below w3.heap.size w3 (w3.alloc (.cells #[.slice x1 ss.length x2, .slice x3 RW.length x4] 27)) := (belowRefl w3).alloc (Nat.le_refl _) _
   replace X5 : Hid (Bx (w3.alloc (.cells #[.slice x1 ss.length x2, .slice x3 RW.length x4] 27)) w.heap.size (.slice a1 ss.length c1) (.slice a2 ps.length c2)) := X5.out.keep hba X5.out.lt
   replace X10 : Hid (Bx (w3.alloc (.cells #[.slice x1 ss.length x2, .slice x3 RW.length x4] 27)) (w.heap.size + 1) (.slice none 0 0) (.slice none 0 0)) := X10.out.keep hba X10.out.lt
   replace SA : Hid (SRow (w3.alloc (.cells #[.slice x1 ss.length x2, .slice x3 RW.length x4] 27)) a1 ss) := SA.out.below hba
   replace PA : Hid (PRow (w3.alloc (.cells #[.slice x1 ss.length x2, .slice x3 RW.length x4] 27)) a2 ps) := PA.out.below hba
   replace KA : Hid (KRow (w3.alloc (.cells #[.slice x1 ss.length x2, .slice x3 RW.length x4] 27)) ak ks) := KA.out.below hba
   replace b0 : Hid (Below w.heap.size w (w3.alloc (.cells #[.slice x1 ss.length x2, .slice x3 RW.length x4] 27))) := b0.out.trans (hba.mono b0.out.size)
   replace D1 : Hid (DOwn (w3.alloc (.cells #[.slice x1 ss.length x2, .slice x3 RW.length x4] 27)) (w.heap.size + 1 + 1) y1 y2 y3 y4 PT ps) := D1.out.below hba
   replace X11 : Hid (Bx (w3.alloc (.cells #[.slice x1 ss.length x2, .slice x3 RW.length x4] 27)) B11 (.slice y1 PT.length y2) (.slice y3 ps.length y4)) := X11.out.keep hba X11.out.lt
   replace D3 : Hid (DOwn (w3.alloc (.cells #[.slice x1 ss.length x2, .slice x3 RW.length x4] 27)) (w.heap.size + 1 + 1) x1 x2 x3 x4 ss RW) := D3.out.below hba
   have X14 : Hid (Bx (w3.alloc (.cells #[.slice x1 ss.length x2, .slice x3 RW.length x4] 27)) w3.heap.size (.slice x1 ss.length x2) (.slice x3 RW.length x4)) := Bx.new w3 _ _ 27
   clear hba
   have HFL' : Hid (∀ (W : World) (z1 : Option Addr) (z2 : Nat) (z3 : Option Addr) (z4 : Nat), SRow W z1 ss → PRow W z3 RW → Calls Tryz.prog 33 #[.agg #[.slice z1 ss.length z2, .slice z3 RW.length z4]] W fun e w' => ∃ f1 f2 f3 f4, e = .returned (.agg #[.slice f1 S1.length f2, .slice f3 ps.length f4]) ∧ DOwn w' W.heap.size f1 f2 f3 f4 S1 ps ∧ Below W.heap.size W w') := HFL.out hk3
   have HCO' : Hid (∀ (W : World) (z1 : Option Addr) (z2 : Nat) (z3 : Option Addr) (z4 : Nat), SRow W z1 S1 → PRow W z3 ps → Calls Tryz.prog 32 #[.agg #[.slice z1 S1.length z2, .slice z3 ps.length z4], .int .i64 ac, .int .i64 ((cn : Int) + 1)] W fun e w' => ∃ f1 f2 f3 f4, e = .returned (.agg #[.slice f1 S1.length f2, .slice f3 WB.length f4]) ∧ DOwn w' W.heap.size f1 f2 f3 f4 S1 WB ∧ okB S1 WB = true ∧ Below W.heap.size W w') := HCO.out hk3
   clear HFL HCO
   go_upto_region 9 with fail
   generalize (w3.alloc (.cells #[.slice x1 ss.length x2, .slice x3 RW.length x4] 27)) = v3 at *
   generalize w3.heap.size = B14 at *
   have l0 : w.heap.size < v3.heap.size := X5.out.lt
   have l2 : B14 < v3.heap.size := X14.out.lt
   have RS0 : Hid (RS2 v3 w.heap.size B14 (.slice a1 ss.length c1) (.slice a2 ps.length c2) (.slice x1 ss.length x2) (.slice x3 RW.length x4) v3.drew) := ⟨X5.out.c0, X5.out.c1, X14.out.c0, X14.out.c1, (belowRefl v3).drew⟩
   have hcw : IntKind.i64.wrap ((cn : Int) + 1) = (cn : Int) + 1 := by rw [IntKind.wrap_i64]; omega
   refine wp_region_held_drew (S := fun w' => w'.cell? ⟨w.heap.size, 0, none⟩ = some (.slice a1 ss.length c1) ∧ w'.cell? ⟨w.heap.size, 1, none⟩ = some (.slice a2 ps.length c2)) (by kernel_rfl) ⟨X5.out.c0, X5.out.c1⟩ (fun hHeld => ?_)
   have HW : Hid (Below v3.heap.size v3 v3.drew) := (belowRefl v3).drew
   have HX5 : Hid (∀ W, Below v3.heap.size v3 W → W.cell? ⟨w.heap.size, 0, none⟩ = some (.slice a1 ss.length c1) ∧ W.cell? ⟨w.heap.size, 1, none⟩ = some (.slice a2 ps.length c2)) := fun W h => ⟨(X5.out.keep h X5.out.lt).c0, (X5.out.keep h X5.out.lt).c1⟩
   (refine tk 2 ?_ rfl (Or.inl ⟨by rfl, ?_⟩) ?_; rotate_left; (focus (intro w h; (try dsimp only at h); go_simp; (try with_reducible rfl))); simp only [Act.put, tA, tB, tC, tD, tE, tF])
   (refine tk 3 ?_ rfl (Or.inl ⟨by rfl, ?_⟩) ?_; rotate_left; (focus (intro w h; (try dsimp only at h); go_simp; (try with_reducible rfl))); simp only [Act.put, tA, tB, tC, tD, tE, tF])
   (refine tk 4 ?_ rfl (Or.inl ⟨by rfl, ?_⟩) ?_; rotate_left; (focus (intro w h; (try dsimp only at h); go_simp; (try with_reducible rfl))); simp only [Act.put, tA, tB, tC, tD, tE, tF])
   refine wpAnyH_ready (rs := [0]) (by kernel_rfl) (by simp) ?_
   refine (AllReadyH.cons rfl (fun K hK => ?_) AllReadyH.nil)
   have k0 := (X14.out.keep HW.out X14.out.lt).c0
   have k1 := (X14.out.keep HW.out X14.out.lt).c1
   go_simp
   clear k0 k1
   refine hK.out _ _ (HX5.out _ HW.out) (fun _ => ?_)
   clear hK K
   refine wpAnyH_ready (rs := [1]) (by kernel_rfl) (by simp) ?_
   refine (AllReadyH.cons rfl (fun K hK => ?_) AllReadyH.nil)
   go_simp
   go_wp2_with fail
   refine (HFL'.out _ _ _ _ _ (D3.out.s.srow.below HW.out) (D3.out.p.prow.below HW.out)).mono ?_
   rintro e w5 ⟨z1, z2, z3, z4, rfl, hd5, hb5⟩
   have hz5 : v3.heap.size ≤ w5.heap.size := Nat.le_trans HW.out.size hb5.size
   have hzz5 := HW.out.size
   replace HW : Hid (Below v3.heap.size v3 w5) := HW.out.trans (hb5.mono HW.out.size)
   have H5 := hide0 hd5
   clear hd5
   go_wp2_with fail
   refine hK.out _ _ (HX5.out _ HW.out) (fun _ => ?_)
   clear hK K
   refine wpAnyH_ready (rs := [5]) (by kernel_rfl) (by simp) ?_
   refine (AllReadyH.cons rfl (fun K hK => ?_) AllReadyH.nil)
   go_simp
   go_wp2_with fail
   refine (HCN.out _ _ _ _ _ (SA.out.below HW.out) (PA.out.below HW.out)).mono ?_
   rintro e w6 ⟨rfl, hb6⟩
   replace HW : Hid (Below v3.heap.size v3 w6) := HW.out.trans (hb6.mono HW.out.size)
   try replace H5 := hide0 (H5.out.below hb6)
   go_wp2_with fail
   refine hK.out _ _ (HX5.out _ HW.out) (fun _ => ?_)
   clear hK K
   (refine tk 6 ?_ rfl (Or.inl ⟨by rfl, ?_⟩) ?_; rotate_left; (focus (intro w h; (try dsimp only at h); go_simp; (try with_reducible rfl))); simp only [Act.put, tA, tB, tC, tD, tE, tF])
   refine wpAnyH_ready (rs := [7]) (by kernel_rfl) (by simp) ?_
   refine (AllReadyH.cons rfl (fun K hK => ?_) AllReadyH.nil)
   go_simp
   go_wp2_with fail
   refine (HCO'.out _ _ _ _ _ H5.out.s.srow H5.out.p.prow).mono ?_
   rintro e w8 ⟨u1, u2, u3, u4, rfl, hd8, hk8, hb8⟩
   have hz8 := HW.out.size
   replace HW : Hid (Below v3.heap.size v3 w8) := HW.out.trans (hb8.mono HW.out.size)
   go_wp2_with fail
   refine hK.out _ _ (HX5.out _ HW.out) (fun _ => ?_)
   clear hK K
   refine wpAnyH_ready (rs := [8]) (by kernel_rfl) (by simp) ?_
   refine (AllReadyH.cons rfl (fun K hK => ?_) AllReadyH.nil)
   have Q8 : Hid (Bx w8 B14 (.slice x1 ss.length x2) (.slice x3 RW.length x4)) := X14.out.keep HW.out X14.out.lt
   have r0 := Q8.out.c0
   have r1 := Q8.out.c1
   have rf := Q8.out.fz
   go_simp
   clear r0 r1
   have h0w : w.heap.size + 1 + 1 ≤ v3.heap.size := X10.out.lt
   have hn2 := hneq.out
   have hne : B14 ≠ w.heap.size + 1 := by omega
   have hne5 : B14 ≠ w.heap.size := by omega
   have Y5 : Hid (Bx w8 w.heap.size (.slice a1 ss.length c1) (.slice a2 ps.length c2)) := X5.out.keep HW.out X5.out.lt
   refine hK.out _ _ ⟨((Y5.out.setO (by show B14 ≠ _; exact hne5) _).setO (by show B14 ≠ _; exact hne5) _).c0, ((Y5.out.setO (by show B14 ≠ _; exact hne5) _).setO (by show B14 ≠ _; exact hne5) _).c1⟩ (fun _ => ?_)
   clear hK K
   have V : Hid (Bx ((w8.setCell ⟨B14, 0, none⟩ (.slice u1 S1.length u2)).setCell ⟨B14, 1, none⟩ (.slice u3 WB.length u4)) B14 (.slice u1 S1.length u2) (.slice u3 WB.length u4)) := (Q8.out.set0 _).set1 _
   have DU : Hid (DOwn ((w8.setCell ⟨B14, 0, none⟩ (.slice u1 S1.length u2)).setCell ⟨B14, 1, none⟩ (.slice u3 WB.length u4)) (w.heap.size + 1 + 1) u1 u2 u3 u4 S1 WB) := ⟨((hd8.s.set (by show B14 < _; omega) _).set (by show B14 < _; omega) _).mono (by omega), ((hd8.p.set (by show B14 < _; omega) _).set (by show B14 < _; omega) _).mono (by omega)⟩
   have Y18 : Hid (Bx w8 (w.heap.size + 1) (.slice none 0 0) (.slice none 0 0)) := X10.out.keep HW.out X10.out.lt
   have Xr : Hid (Bx ((w8.setCell ⟨B14, 0, none⟩ (.slice u1 S1.length u2)).setCell ⟨B14, 1, none⟩ (.slice u3 WB.length u4)) (w.heap.size + 1) (.slice none 0 0) (.slice none 0 0)) := (Y18.out.setO (by show B14 ≠ _; exact hne) _).setO (by show B14 ≠ _; exact hne) _
   have HB8 : Hid (Below w.heap.size w w8) := b0.out.trans (HW.out.mono b0.out.size)
   have Bf : Hid (Below w.heap.size w ((w8.setCell ⟨B14, 0, none⟩ (.slice u1 S1.length u2)).setCell ⟨B14, 1, none⟩ (.slice u3 WB.length u4))) := (HB8.out.setCell (by show _ ≤ B14; omega) _).setCell (by show _ ≤ B14; omega) _
   have Kf : Hid (KRow ((w8.setCell ⟨B14, 0, none⟩ (.slice u1 S1.length u2)).setCell ⟨B14, 1, none⟩ (.slice u3 WB.length u4)) ak ks) := HK0.out.below Bf.out
   clear hd8 hb8 X10 b0 KA HW HX5 rf
   refine wpAnyH_done (by kernel_rfl) ?_ _
   have g0 := V.out.c0
   have g1 := V.out.c1
   go_wp2_with fail
   refine (HCR.out hk8 _ _ _ _ _ DU.out.s.srow DU.out.p.prow Kf.out).mono ?_
   rintro e w10 ⟨v1, v2, v3, v4, rfl, hd10, hb10⟩
   have X10 : Hid (Bx w10 (w.heap.size + 1) (.slice none 0 0) (.slice none 0 0)) := Xr.out.keep hb10 Xr.out.lt
   have b0 : Hid (Below w.heap.size w w10) := Bf.out.trans (hb10.mono Bf.out.size)
   have D9 : Hid (DOwn w10 (w.heap.size + 1 + 1) v1 v2 v3 v4 CR ps) := hd10.mono Xr.out.lt
   clear hd10 hb10
   have r0 := X10.out.c0
   have r1 := X10.out.c1
   have rf := X10.out.fz
   have V9 : Hid (Bx ((w10.setCell ⟨w.heap.size + 1, 0, none⟩ (.slice v1 CR.length v2)).setCell ⟨w.heap.size + 1, 1, none⟩ (.slice v3 ps.length v4)) (w.heap.size + 1) (.slice v1 CR.length v2) (.slice v3 ps.length v4)) := (X10.out.set0 _).set1 _
   have q0 := V9.out.c0
   have q1 := V9.out.c1
   go_wp2
   refine bodyPost_ret (v := .agg #[.slice v1 CR.length v2, .slice v3 ps.length v4]) (by simp [results, Tryz.results10, go_sem, q0, q1]) rfl ⟨v1, v2, v3, v4, rfl, ⟨?_, ?_⟩, ?_⟩
   ·exact ((D9.out.s.set (by show w.heap.size + 1 < _; omega) _).set (by show w.heap.size + 1 < _; omega) _).mono (by omega)
   ·exact ((D9.out.p.set (by show w.heap.size + 1 < _; omega) _).set (by show w.heap.size + 1 < _; omega) _).mono (by omega)
   ·exact (b0.out.setCell (by show _ ≤ w.heap.size + 1; omega) _).setCell (by show _ ≤ w.heap.size + 1; omega) _
  ·skip
   have hR : caS ss ps t st ks tr = PT := by rw [caS_2 (by rw [← hac]; exact hB) h0 h1, hPT, hac]
   rw [hR]
   have e0 : (st == 0) = false := by simp [h0]
   have e1 : (st == 1) = false := by simp [h1]
   have b0 : Hid (Below w.heap.size w ((w.alloc (.cells #[.slice a1 ss.length c1, .slice a2 ps.length c2] 27)).alloc (.cells #[.slice none 0 0, .slice none 0 0] 27))) := ((belowRefl w).alloc (Nat.le_refl _) _).alloc (by simp) _
   have hzz : w.heap.size + 1 + 1 = ((w.alloc (.cells #[.slice a1 ss.length c1, .slice a2 ps.length c2] 27)).alloc (.cells #[.slice none 0 0, .slice none 0 0] 27)).heap.size := by simp
   have X5 : Hid (Bx ((w.alloc (.cells #[.slice a1 ss.length c1, .slice a2 ps.length c2] 27)).alloc (.cells #[.slice none 0 0, .slice none 0 0] 27)) w.heap.size (.slice a1 ss.length c1) (.slice a2 ps.length c2)) := (Bx.new w _ _ _).alloc _
   have X10 : Hid (Bx ((w.alloc (.cells #[.slice a1 ss.length c1, .slice a2 ps.length c2] 27)).alloc (.cells #[.slice none 0 0, .slice none 0 0] 27)) (w.heap.size + 1) (.slice none 0 0) (.slice none 0 0)) := by
    have h := Bx.new (w.alloc (.cells #[.slice a1 ss.length c1, .slice a2 ps.length c2] 27)) (.slice none 0 0) (.slice none 0 0) 27
    rw [World.size_alloc] at h
    exact h
   have SA : Hid (SRow ((w.alloc (.cells #[.slice a1 ss.length c1, .slice a2 ps.length c2] 27)).alloc (.cells #[.slice none 0 0, .slice none 0 0] 27)) a1 ss) := hsr.below b0.out
   have PA : Hid (PRow ((w.alloc (.cells #[.slice a1 ss.length c1, .slice a2 ps.length c2] 27)).alloc (.cells #[.slice none 0 0, .slice none 0 0] 27)) a2 ps) := hpr.below b0.out
   have HK0 : Hid (KRow w ak ks) := hk
   have KA : Hid (KRow ((w.alloc (.cells #[.slice a1 ss.length c1, .slice a2 ps.length c2] 27)).alloc (.cells #[.slice none 0 0, .slice none 0 0] 27)) ak ks) := hk.below b0.out
   replace b0 := b0
   clear hs hp hB hlog hrec hlp hpt hpp hA hok hcb hcn hac hRW hS1 hWB hPT hsr hpr hk hR
   have g0 := X5.out.c0
   have g1 := X5.out.c1
   go_enter Tryz.func10, Tryz.ntmps10
   go_wp2_with fail
   generalize ((w.alloc (.cells #[.slice a1 ss.length c1, .slice a2 ps.length c2] 27)).alloc (.cells #[.slice none 0 0, .slice none 0 0] 27)) = v0 at *
   refine (HAP.out _ _ _ _ _ SA.out PA.out).mono ?_
   rintro e w1 ⟨y1, y2, y3, y4, rfl, hd1, hb1⟩
   replace X5 : Hid (Bx w1 w.heap.size (.slice a1 ss.length c1) (.slice a2 ps.length c2)) := X5.out.keep hb1 X5.out.lt
   replace X10 : Hid (Bx w1 (w.heap.size + 1) (.slice none 0 0) (.slice none 0 0)) := X10.out.keep hb1 X10.out.lt
   replace SA : Hid (SRow w1 a1 ss) := SA.out.below hb1
   replace PA : Hid (PRow w1 a2 ps) := PA.out.below hb1
   replace KA : Hid (KRow w1 ak ks) := KA.out.below hb1
   replace b0 : Hid (Below w.heap.size w w1) := b0.out.trans (hb1.mono b0.out.size)
   have D1 : Hid (DOwn w1 (w.heap.size + 1 + 1) y1 y2 y3 y4 PT ps) := by rw [hzz]; exact hd1
   clear hd1 hb1 g0 g1
   have hba : Below w1.heap.size w1 (w1.alloc (.cells #[.slice y1 PT.length y2, .slice y3 ps.length y4] 27)) := (belowRefl w1).alloc (Nat.le_refl _) _
   replace X5 : Hid (Bx (w1.alloc (.cells #[.slice y1 PT.length y2, .slice y3 ps.length y4] 27)) w.heap.size (.slice a1 ss.length c1) (.slice a2 ps.length c2)) := X5.out.keep hba X5.out.lt
   replace X10 : Hid (Bx (w1.alloc (.cells #[.slice y1 PT.length y2, .slice y3 ps.length y4] 27)) (w.heap.size + 1) (.slice none 0 0) (.slice none 0 0)) := X10.out.keep hba X10.out.lt
   replace SA : Hid (SRow (w1.alloc (.cells #[.slice y1 PT.length y2, .slice y3 ps.length y4] 27)) a1 ss) := SA.out.below hba
   replace PA : Hid (PRow (w1.alloc (.cells #[.slice y1 PT.length y2, .slice y3 ps.length y4] 27)) a2 ps) := PA.out.below hba
   replace KA : Hid (KRow (w1.alloc (.cells #[.slice y1 PT.length y2, .slice y3 ps.length y4] 27)) ak ks) := KA.out.below hba
   replace b0 : Hid (Below w.heap.size w (w1.alloc (.cells #[.slice y1 PT.length y2, .slice y3 ps.length y4] 27))) := b0.out.trans (hba.mono b0.out.size)
   replace D1 : Hid (DOwn (w1.alloc (.cells #[.slice y1 PT.length y2, .slice y3 ps.length y4] 27)) (w.heap.size + 1 + 1) y1 y2 y3 y4 PT ps) := D1.out.below hba
   have X11 : Hid (Bx (w1.alloc (.cells #[.slice y1 PT.length y2, .slice y3 ps.length y4] 27)) w1.heap.size (.slice y1 PT.length y2) (.slice y3 ps.length y4)) := Bx.new w1 _ _ 27
   clear hba
   have g0 := X5.out.c0
   have g1 := X5.out.c1
   go_wp2_with fail
   generalize (w1.alloc (.cells #[.slice y1 PT.length y2, .slice y3 ps.length y4] 27)) = v1 at *
   generalize w1.heap.size = B11 at *
   refine (HAC.out _ _ _ _ _ SA.out PA.out).mono ?_
   rintro e w2 ⟨rfl, hb2⟩
   replace X5 : Hid (Bx w2 w.heap.size (.slice a1 ss.length c1) (.slice a2 ps.length c2)) := X5.out.keep hb2 X5.out.lt
   replace X10 : Hid (Bx w2 (w.heap.size + 1) (.slice none 0 0) (.slice none 0 0)) := X10.out.keep hb2 X10.out.lt
   replace SA : Hid (SRow w2 a1 ss) := SA.out.below hb2
   replace PA : Hid (PRow w2 a2 ps) := PA.out.below hb2
   replace KA : Hid (KRow w2 ak ks) := KA.out.below hb2
   replace b0 : Hid (Below w.heap.size w w2) := b0.out.trans (hb2.mono b0.out.size)
   replace D1 : Hid (DOwn w2 (w.heap.size + 1 + 1) y1 y2 y3 y4 PT ps) := D1.out.below hb2
   replace X11 : Hid (Bx w2 B11 (.slice y1 PT.length y2) (.slice y3 ps.length y4)) := X11.out.keep hb2 X11.out.lt
   clear hb2 g0 g1
   have g0 := X5.out.c0
   have g1 := X5.out.c1
   go_wp2_with fail
   refine (HBE.out _ _ _ _ _ SA.out PA.out).mono ?_
   rintro e w3 ⟨x1, x2, x3, x4, rfl, hd3, hk3, hb3⟩
   have hz3 : w.heap.size + 1 + 1 ≤ w2.heap.size := X10.out.lt
   replace X5 : Hid (Bx w3 w.heap.size (.slice a1 ss.length c1) (.slice a2 ps.length c2)) := X5.out.keep hb3 X5.out.lt
   replace X10 : Hid (Bx w3 (w.heap.size + 1) (.slice none 0 0) (.slice none 0 0)) := X10.out.keep hb3 X10.out.lt
   replace SA : Hid (SRow w3 a1 ss) := SA.out.below hb3
   replace PA : Hid (PRow w3 a2 ps) := PA.out.below hb3
   replace KA : Hid (KRow w3 ak ks) := KA.out.below hb3
   replace b0 : Hid (Below w.heap.size w w3) := b0.out.trans (hb3.mono b0.out.size)
   replace D1 : Hid (DOwn w3 (w.heap.size + 1 + 1) y1 y2 y3 y4 PT ps) := D1.out.below hb3
   replace X11 : Hid (Bx w3 B11 (.slice y1 PT.length y2) (.slice y3 ps.length y4)) := X11.out.keep hb3 X11.out.lt
   have D3 : Hid (DOwn w3 (w.heap.size + 1 + 1) x1 x2 x3 x4 ss RW) := hd3.mono hz3
   have hneq : Hid (w.heap.size + 1 < w3.heap.size) := X10.out.lt
   clear hd3 hb3 g0 g1
   have hba : Below w3.heap.size w3 (w3.alloc (.cells #[.slice x1 ss.length x2, .slice x3 RW.length x4] 27)) := (belowRefl w3).alloc (Nat.le_refl _) _
   replace X5 : Hid (Bx (w3.alloc (.cells #[.slice x1 ss.length x2, .slice x3 RW.length x4] 27)) w.heap.size (.slice a1 ss.length c1) (.slice a2 ps.length c2)) := X5.out.keep hba X5.out.lt
   replace X10 : Hid (Bx (w3.alloc (.cells #[.slice x1 ss.length x2, .slice x3 RW.length x4] 27)) (w.heap.size + 1) (.slice none 0 0) (.slice none 0 0)) := X10.out.keep hba X10.out.lt
   replace SA : Hid (SRow (w3.alloc (.cells #[.slice x1 ss.length x2, .slice x3 RW.length x4] 27)) a1 ss) := SA.out.below hba
   replace PA : Hid (PRow (w3.alloc (.cells #[.slice x1 ss.length x2, .slice x3 RW.length x4] 27)) a2 ps) := PA.out.below hba
   replace KA : Hid (KRow (w3.alloc (.cells #[.slice x1 ss.length x2, .slice x3 RW.length x4] 27)) ak ks) := KA.out.below hba
   replace b0 : Hid (Below w.heap.size w (w3.alloc (.cells #[.slice x1 ss.length x2, .slice x3 RW.length x4] 27))) := b0.out.trans (hba.mono b0.out.size)
   replace D1 : Hid (DOwn (w3.alloc (.cells #[.slice x1 ss.length x2, .slice x3 RW.length x4] 27)) (w.heap.size + 1 + 1) y1 y2 y3 y4 PT ps) := D1.out.below hba
   replace X11 : Hid (Bx (w3.alloc (.cells #[.slice x1 ss.length x2, .slice x3 RW.length x4] 27)) B11 (.slice y1 PT.length y2) (.slice y3 ps.length y4)) := X11.out.keep hba X11.out.lt
   replace D3 : Hid (DOwn (w3.alloc (.cells #[.slice x1 ss.length x2, .slice x3 RW.length x4] 27)) (w.heap.size + 1 + 1) x1 x2 x3 x4 ss RW) := D3.out.below hba
   have X14 : Hid (Bx (w3.alloc (.cells #[.slice x1 ss.length x2, .slice x3 RW.length x4] 27)) w3.heap.size (.slice x1 ss.length x2) (.slice x3 RW.length x4)) := Bx.new w3 _ _ 27
   clear hba
   have g0 := X11.out.c0
   have g1 := X11.out.c1
   have r0 := X10.out.c0
   have r1 := X10.out.c1
   have rf := X10.out.fz
   have V9 : Hid (Bx (((w3.alloc (.cells #[.slice x1 ss.length x2, .slice x3 RW.length x4] 27)).setCell ⟨w.heap.size + 1, 0, none⟩ (.slice y1 PT.length y2)).setCell ⟨w.heap.size + 1, 1, none⟩ (.slice y3 ps.length y4)) (w.heap.size + 1) (.slice y1 PT.length y2) (.slice y3 ps.length y4)) := (X10.out.set0 _).set1 _
   have q0 := V9.out.c0
   have q1 := V9.out.c1
   go_wp2
   refine bodyPost_ret (v := .agg #[.slice y1 PT.length y2, .slice y3 ps.length y4]) (by simp [results, Tryz.results10, go_sem, q0, q1]) rfl ⟨y1, y2, y3, y4, rfl, ⟨?_, ?_⟩, ?_⟩
   ·exact ((D1.out.s.set (by show w.heap.size + 1 < _; omega) _).set (by show w.heap.size + 1 < _; omega) _).mono (by omega)
   ·exact ((D1.out.p.set (by show w.heap.size + 1 < _; omega) _).set (by show w.heap.size + 1 < _; omega) _).mono (by omega)
   ·exact (b0.out.setCell (by show _ ≤ w.heap.size + 1; omega) _).setCell (by show _ ≤ w.heap.size + 1; omega) _

end Go.Proofs.YtekjpoenbcnhdaaGreat

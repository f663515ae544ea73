/- What spec.CutSwitch returns. -/
import Derived.Test.YtekjpoenbcnhdaaGreatPa18
import Derived.Test.YtekjpoenbcnhdaaGreatPa27
import Derived.Test.YtekjpoenbcnhdaaGreatPa12
import Derived.Deep.Cut
import Derived.Deep.CutRange
import Derived.Deep.RegionHeld3
namespace Go.Proofs.YtekjpoenbcnhdaaGreat
open Go.RowKit
open DM
attribute [local go_sem ↓] Go.wp_at_zero Go.wp_at_succ

def csS (ss : List ByteArray) (ps : List Wr) (ts : List ByteArray) (st : Int) (ks : List Int) (tr : Int) : List ByteArray :=
 if swB ss ps ts = true then
  (if st = 0 then crS ss (wb ss (af (1 - act ss ps)).toNat 0 [UInt8.ofNat 0]) ks tr
   else if st = 1 then (fillO (1 - act ss ps) (zrS ss (1 - act ss ps)) ts).1
   else if st = 2 then crS (fillO (1 - act ss ps) (zrS ss (1 - act ss ps)) ts).1 (tuW (fillO (1 - act ss ps) (zrS ss (1 - act ss ps)) ts).1 ps) ks tr
   else swS ss ps ts)
 else ss
theorem csS_no {ss : List ByteArray} {ps : List Wr} {ts : List ByteArray} {st : Int} {ks : List Int} {tr : Int} (h : swB ss ps ts = false) : csS ss ps ts st ks tr = ss := if_neg (by simp [h])
theorem csS_0 {ss : List ByteArray} {ps : List Wr} {ts : List ByteArray} {ks : List Int} {tr : Int} (h : swB ss ps ts = true) : csS ss ps ts 0 ks tr = crS ss (wb ss (af (1 - act ss ps)).toNat 0 [UInt8.ofNat 0]) ks tr := by
 unfold csS
 rw [if_pos h, if_pos rfl]
theorem csS_1 {ss : List ByteArray} {ps : List Wr} {ts : List ByteArray} {ks : List Int} {tr : Int} (h : swB ss ps ts = true) : csS ss ps ts 1 ks tr = (fillO (1 - act ss ps) (zrS ss (1 - act ss ps)) ts).1 := by
 unfold csS
 rw [if_pos h, if_neg (by decide), if_pos rfl]
theorem csS_2 {ss : List ByteArray} {ps : List Wr} {ts : List ByteArray} {ks : List Int} {tr : Int} (h : swB ss ps ts = true) : csS ss ps ts 2 ks tr = crS (fillO (1 - act ss ps) (zrS ss (1 - act ss ps)) ts).1 (tuW (fillO (1 - act ss ps) (zrS ss (1 - act ss ps)) ts).1 ps) ks tr := by
 unfold csS
 rw [if_pos h, if_neg (by decide), if_neg (by decide), if_pos rfl]
theorem csS_3 {ss : List ByteArray} {ps : List Wr} {ts : List ByteArray} {st : Int} {ks : List Int} {tr : Int} (h : swB ss ps ts = true) (h0 : st ≠ 0) (h1 : st ≠ 1) (h2 : st ≠ 2) : csS ss ps ts st ks tr = swS ss ps ts := by
 unfold csS
 rw [if_pos h, if_neg h0, if_neg h1, if_neg h2]
theorem crS_nil {ss : List ByteArray} {ps : List Wr} {ks : List Int} {t : Int} (hps : ps = []) (h : okB ss ps = true) : crS ss ps ks t = ss := by
 subst hps
 rw [crS_yes h]
 exact txs_bys ss

set_option maxRecDepth 100000 in
set_option maxHeartbeats 8000000 in
theorem scutS (ss : List ByteArray) (ps : List Wr) (ts : List ByteArray) (st : Int) (ks : List Int) (tr : Int) (a1 a2 al ak : Option Addr) (c1 c2 cl ck B0 : Nat) (hn : ss.length ≤ 1048576) (hm : ps.length ≤ 1048576) (hs : ∀ s ∈ ss, s.size ≤ 1048576) (hp : ∀ p ∈ ps, p.2.size ≤ 1048576) (htn : ts.length ≤ 1048576) (hts : ∀ t ∈ ts, t.size ≤ 1048576) (hkl : ks.length ≤ 9223372036854775807) (w : World) (hd : DOwn w B0 a1 c1 a2 c2 ss ps) (hl : SRow w al ts) (hk : KRow w ak ks) :
  Calls Tryz.prog 13 #[.agg #[.slice a1 ss.length c1, .slice a2 ps.length c2], .slice al ts.length cl, .int .i64 st, .slice ak ks.length ck, .int .i64 tr] w fun e w' => ∃ b1 d1 b2 d2, e = .returned (.agg #[.slice b1 (csS ss ps ts st ks tr).length d1, .slice b2 ps.length d2]) ∧ DOwn w' w.heap.size b1 d1 b2 d2 (csS ss ps ts st ks tr) ps ∧ Below w.heap.size w w' := by
 have HSW : Hid (∀ (B : Nat) (W : World) (z1 : Option Addr) (z2 : Nat) (z3 : Option Addr) (z4 : Nat), DOwn W B z1 z2 z3 z4 ss ps → SRow W al ts → Calls Tryz.prog 46 #[.agg #[.slice z1 ss.length z2, .slice z3 ps.length z4], .slice al ts.length cl] W fun e w' => ∃ f1 f2 f3 f4, e = .returned (.tuple #[.agg #[.slice f1 (swS ss ps ts).length f2, .slice f3 ps.length f4], .bool (swB ss ps ts)]) ∧ DOwn w' W.heap.size f1 f2 f3 f4 (swS ss ps ts) ps ∧ Below W.heap.size W w') := fun B W z1 z2 z3 z4 h hl => ssw41 ss ps ts z1 z3 al z2 z4 cl B hn hm hs hp htn hts W h hl
 have HCP : Hid (∀ (B : Nat) (W : World) (z1 : Option Addr) (z2 : Nat) (z3 : Option Addr) (z4 : Nat), DOwn W B z1 z2 z3 z4 ss ps → Calls Tryz.prog 25 #[.agg #[.slice z1 ss.length z2, .slice z3 ps.length z4]] W fun e w' => ∃ f1 f2 f3 f4, e = .returned (.agg #[.slice f1 ss.length f2, .slice f3 ps.length f4]) ∧ DOwn w' W.heap.size f1 f2 f3 f4 ss ps ∧ Below W.heap.size W w') := fun B W z1 z2 z3 z4 h => copy64 ss ps z1 z3 z2 z4 B (by omega) (by omega) W h
 cases hB : swB ss ps ts with
 | false =>
  rw [csS_no hB]
  have hpn : swS ss ps ts = ss := if_neg (by simp [hB])
  rw [hB, hpn] at HSW
  have b0 : Hid (Below w.heap.size w ((w.alloc (.cells #[.slice a1 ss.length c1, .slice a2 ps.length c2] 27)).alloc (.cells #[.slice none 0 0, .slice none 0 0] 27))) := ((belowRefl w).alloc (Nat.le_refl _) _).alloc (by simp) _
  have hzz : w.heap.size + 1 + 1 = ((w.alloc (.cells #[.slice a1 ss.length c1, .slice a2 ps.length c2] 27)).alloc (.cells #[.slice none 0 0, .slice none 0 0] 27)).heap.size := by simp
  have X5 : Hid (Bx ((w.alloc (.cells #[.slice a1 ss.length c1, .slice a2 ps.length c2] 27)).alloc (.cells #[.slice none 0 0, .slice none 0 0] 27)) w.heap.size (.slice a1 ss.length c1) (.slice a2 ps.length c2)) := (Bx.new w _ _ _).alloc _
  have X10 : Hid (Bx ((w.alloc (.cells #[.slice a1 ss.length c1, .slice a2 ps.length c2] 27)).alloc (.cells #[.slice none 0 0, .slice none 0 0] 27)) (w.heap.size + 1) (.slice none 0 0) (.slice none 0 0)) := by
   have h := Bx.new (w.alloc (.cells #[.slice a1 ss.length c1, .slice a2 ps.length c2] 27)) (.slice none 0 0) (.slice none 0 0) 27
   rw [World.size_alloc] at h
   exact h
  have DA : Hid (DOwn ((w.alloc (.cells #[.slice a1 ss.length c1, .slice a2 ps.length c2] 27)).alloc (.cells #[.slice none 0 0, .slice none 0 0] 27)) B0 a1 c1 a2 c2 ss ps) := hd.below b0.out
  have HK0 : Hid (KRow w ak ks) := hk
  have KA : Hid (KRow ((w.alloc (.cells #[.slice a1 ss.length c1, .slice a2 ps.length c2] 27)).alloc (.cells #[.slice none 0 0, .slice none 0 0] 27)) ak ks) := hk.below b0.out
  replace b0 := b0
  have HL0 : Hid (SRow w al ts) := hl
  have LA : Hid (SRow ((w.alloc (.cells #[.slice a1 ss.length c1, .slice a2 ps.length c2] 27)).alloc (.cells #[.slice none 0 0, .slice none 0 0] 27)) al ts) := hl.below b0.out
  clear hs hp hB hpn hts hd hk hl
  have g0 := X5.out.c0
  have g1 := X5.out.c1
  go_enter Tryz.func13, Tryz.ntmps13
  go_wp2_with fail
  generalize ((w.alloc (.cells #[.slice a1 ss.length c1, .slice a2 ps.length c2] 27)).alloc (.cells #[.slice none 0 0, .slice none 0 0] 27)) = v0 at *
  refine (HSW.out _ _ _ _ _ _ DA.out LA.out).mono ?_
  rintro e w1 ⟨y1, y2, y3, y4, rfl, hd1, hb1⟩
  replace X5 : Hid (Bx w1 w.heap.size (.slice a1 ss.length c1) (.slice a2 ps.length c2)) := X5.out.keep hb1 X5.out.lt
  replace X10 : Hid (Bx w1 (w.heap.size + 1) (.slice none 0 0) (.slice none 0 0)) := X10.out.keep hb1 X10.out.lt
  replace DA : Hid (DOwn w1 B0 a1 c1 a2 c2 ss ps) := DA.out.below hb1
  replace KA : Hid (KRow w1 ak ks) := KA.out.below hb1
  replace b0 : Hid (Below w.heap.size w w1) := b0.out.trans (hb1.mono b0.out.size)
  replace LA : Hid (SRow w1 al ts) := LA.out.below hb1
  have D1 : Hid (DOwn w1 (w.heap.size + 1 + 1) y1 y2 y3 y4 ss ps) := by rw [hzz]; exact hd1
  clear hd1 hb1 g0 g1
  have hba : Below w1.heap.size w1 (w1.alloc (.cells #[.slice y1 ss.length y2, .slice y3 ps.length y4] 27)) := (belowRefl w1).alloc (Nat.le_refl _) _
  replace X5 : Hid (Bx (w1.alloc (.cells #[.slice y1 ss.length y2, .slice y3 ps.length y4] 27)) w.heap.size (.slice a1 ss.length c1) (.slice a2 ps.length c2)) := X5.out.keep hba X5.out.lt
  replace X10 : Hid (Bx (w1.alloc (.cells #[.slice y1 ss.length y2, .slice y3 ps.length y4] 27)) (w.heap.size + 1) (.slice none 0 0) (.slice none 0 0)) := X10.out.keep hba X10.out.lt
  replace DA : Hid (DOwn (w1.alloc (.cells #[.slice y1 ss.length y2, .slice y3 ps.length y4] 27)) B0 a1 c1 a2 c2 ss ps) := DA.out.below hba
  replace KA : Hid (KRow (w1.alloc (.cells #[.slice y1 ss.length y2, .slice y3 ps.length y4] 27)) ak ks) := KA.out.below hba
  replace b0 : Hid (Below w.heap.size w (w1.alloc (.cells #[.slice y1 ss.length y2, .slice y3 ps.length y4] 27))) := b0.out.trans (hba.mono b0.out.size)
  replace LA : Hid (SRow (w1.alloc (.cells #[.slice y1 ss.length y2, .slice y3 ps.length y4] 27)) al ts) := LA.out.below hba
  replace D1 : Hid (DOwn (w1.alloc (.cells #[.slice y1 ss.length y2, .slice y3 ps.length y4] 27)) (w.heap.size + 1 + 1) y1 y2 y3 y4 ss ps) := D1.out.below hba
  have X11 : Hid (Bx (w1.alloc (.cells #[.slice y1 ss.length y2, .slice y3 ps.length y4] 27)) w1.heap.size (.slice y1 ss.length y2) (.slice y3 ps.length y4)) := Bx.new w1 _ _ 27
  clear hba
  have g0 := X5.out.c0
  have g1 := X5.out.c1
  go_wp2_with fail
  generalize (w1.alloc (.cells #[.slice y1 ss.length y2, .slice y3 ps.length y4] 27)) = v1 at *
  generalize w1.heap.size = B11 at *
  refine (HCP.out _ _ _ _ _ _ DA.out).mono ?_
  rintro e w9 ⟨u1, u2, u3, u4, rfl, hd9, hb9⟩
  have hz9 : w.heap.size + 1 + 1 ≤ v1.heap.size := X10.out.lt
  replace X5 : Hid (Bx w9 w.heap.size (.slice a1 ss.length c1) (.slice a2 ps.length c2)) := X5.out.keep hb9 X5.out.lt
  replace X10 : Hid (Bx w9 (w.heap.size + 1) (.slice none 0 0) (.slice none 0 0)) := X10.out.keep hb9 X10.out.lt
  replace DA : Hid (DOwn w9 B0 a1 c1 a2 c2 ss ps) := DA.out.below hb9
  replace KA : Hid (KRow w9 ak ks) := KA.out.below hb9
  replace b0 : Hid (Below w.heap.size w w9) := b0.out.trans (hb9.mono b0.out.size)
  replace LA : Hid (SRow w9 al ts) := LA.out.below hb9
  replace D1 : Hid (DOwn w9 (w.heap.size + 1 + 1) y1 y2 y3 y4 ss ps) := D1.out.below hb9
  replace X11 : Hid (Bx w9 B11 (.slice y1 ss.length y2) (.slice y3 ps.length y4)) := X11.out.keep hb9 X11.out.lt
  have D9 : Hid (DOwn w9 (w.heap.size + 1 + 1) u1 u2 u3 u4 ss ps) := hd9.mono hz9
  clear hd9 hb9 g0 g1
  have r0 := X10.out.c0
  have r1 := X10.out.c1
  have rf := X10.out.fz
  have V9 : Hid (Bx ((w9.setCell ⟨w.heap.size + 1, 0, none⟩ (.slice u1 ss.length u2)).setCell ⟨w.heap.size + 1, 1, none⟩ (.slice u3 ps.length u4)) (w.heap.size + 1) (.slice u1 ss.length u2) (.slice u3 ps.length u4)) := (X10.out.set0 _).set1 _
  have q0 := V9.out.c0
  have q1 := V9.out.c1
  go_wp2
  refine bodyPost_ret (v := .agg #[.slice u1 ss.length u2, .slice u3 ps.length u4]) (by simp [results, Tryz.results13, go_sem, q0, q1]) rfl ⟨u1, u2, u3, u4, rfl, ⟨?_, ?_⟩, ?_⟩
  ·exact ((D9.out.s.set (by show w.heap.size + 1 < _; omega) _).set (by show w.heap.size + 1 < _; omega) _).mono (by omega)
  ·exact ((D9.out.p.set (by show w.heap.size + 1 < _; omega) _).set (by show w.heap.size + 1 < _; omega) _).mono (by omega)
  ·exact (b0.out.setCell (by show _ ≤ w.heap.size + 1; omega) _).setCell (by show _ ≤ w.heap.size + 1; omega) _
 | true =>
  have hlog : logB ss ps = true := by
   unfold swB at hB
   exact (Bool.and_eq_true_iff.1 hB).1
  have hfb : (fillO (1 - act ss ps) (zrS ss (1 - act ss ps)) ts).2 = true := by
   unfold swB at hB
   exact (Bool.and_eq_true_iff.1 hB).2
  have hlp := logB_parts hlog
  have hfl := logB_parts (fill_log hts hlog)
  have hok := okB_iff.1 hlp.1
  have hA : isA (1 - act ss ps) = true := oth_A ss ps
  have hA2 := isA_iff.1 (act_01 ss ps)
  obtain ⟨ac, hac⟩ : ∃ ac, ac = act ss ps := ⟨_, rfl⟩
  obtain ⟨FS, hFS⟩ : ∃ FS, FS = (fillO (1 - act ss ps) (zrS ss (1 - act ss ps)) ts).1 := ⟨_, rfl⟩
  obtain ⟨SW, hSW⟩ : ∃ SW, SW = swS ss ps ts := ⟨_, rfl⟩
  rw [← hFS] at hfl
  have hs100 : ss.length ≤ 100 := hok.2.1
  have hpl : ps.length ≤ 60 := hok.2.2.1
  rw [hB, ← hSW] at HSW
  have HFI : Hid (∀ (B : Nat) (W : World) (z1 : Option Addr) (z2 : Nat) (z3 : Option Addr) (z4 : Nat), DOwn W B z1 z2 z3 z4 ss ps → SRow W al ts → Calls Tryz.prog 47 #[.agg #[.slice z1 ss.length z2, .slice z3 ps.length z4], .slice al ts.length cl] W fun e w' => ∃ f1 f2 f3 f4, e = .returned (.tuple #[.agg #[.slice f1 FS.length f2, .slice f3 ps.length f4], .bool true]) ∧ DOwn w' W.heap.size f1 f2 f3 f4 FS ps ∧ Below W.heap.size W w') := fun B W z1 z2 z3 z4 h hl => by
   have q := sfill74 ss ps ts z1 z3 al z2 z4 cl B hlog htn hts W h hl
   rw [hfb, ← hFS] at q
   exact q
  rcases Classical.em (st = 0) with rfl | h0
  ·skip
   obtain ⟨ZW, hZW⟩ : ∃ ZW, ZW = wb ss (af (1 - ac)).toNat 0 [UInt8.ofNat 0] := ⟨_, rfl⟩
   obtain ⟨CR, hCR⟩ : ∃ CR, CR = crS ss ZW ks tr := ⟨_, rfl⟩
   have hR : csS ss ps ts 0 ks tr = CR := by rw [csS_0 hB, hCR, hZW, hac]
   rw [hR]
   rw [← hac] at hA
   have HCR : Hid (okB ss ZW = true → ∀ (B : Nat) (W : World) (z1 : Option Addr) (z2 : Nat) (z3 : Option Addr) (z4 : Nat), DOwn W B z1 z2 z3 z4 ss ZW → KRow W ak ks → Calls Tryz.prog 38 #[.agg #[.slice z1 ss.length z2, .slice z3 ZW.length z4], .slice ak ks.length ck, .int .i64 tr] W fun e w' => ∃ f1 f2 f3 f4, e = .returned (.agg #[.slice f1 CR.length f2, .slice f3 ps.length f4]) ∧ DOwn w' W.heap.size f1 f2 f3 f4 CR ps ∧ Below W.heap.size W w') := fun hk2 B W z1 z2 z3 z4 h hkr => by
    have ho := okB_iff.1 hk2
    have q := scrash44 ss ZW ks tr z1 z3 ak z2 z4 ck B (by have := ho.2.1; omega) (by have := ho.2.2.1; omega) hkl W h hkr
    rw [flP_yes hk2, ← hlp.2.2, ← hCR] at q
    exact q
   have HCO : Hid (∀ (B : Nat) (W : World) (z1 : Option Addr) (z2 : Nat) (z3 : Option Addr) (z4 : Nat), DOwn W B z1 z2 z3 z4 ss ps → Calls Tryz.prog 39 #[.agg #[.slice z1 ss.length z2, .slice z3 ps.length z4], .int .i64 (1 - ac), .int .i64 0] W fun e w' => ∃ f1 f2 f3 f4, e = .returned (.tuple #[.agg #[.slice f1 ss.length f2, .slice f3 ZW.length f4], .bool true]) ∧ DOwn w' W.heap.size f1 f2 f3 f4 ss ZW ∧ okB ss ZW = true ∧ Below W.heap.size W w') := fun B W z1 z2 z3 z4 h => by
    have q := scount96 ss ps (1 - ac) 0 z1 z3 z2 z4 B hA hlp.1 hlp.2.2 hlp.2.1 (by omega) W h
    rw [← hZW] at q
    exact q
   have HAC : Hid (∀ (B : Nat) (W : World) (z1 : Option Addr) (z2 : Nat) (z3 : Option Addr) (z4 : Nat), DOwn W B z1 z2 z3 z4 ss ps → Calls Tryz.prog 36 #[.agg #[.slice z1 ss.length z2, .slice z3 ps.length z4]] W fun e w' => e = .returned (.int .i64 ac) ∧ Below W.heap.size W w') := fun B W z1 z2 z3 z4 h => by
    rw [hac]
    exact sac25 ss ps z1 z3 z2 z4 (by omega) (by omega) W h.s.srow h.p.prow
   have hsub : IntKind.i64.wrap (1 - ac) = 1 - ac := by rw [IntKind.wrap_i64]; omega
   have b0 : Hid (Below w.heap.size w ((w.alloc (.cells #[.slice a1 ss.length c1, .slice a2 ps.length c2] 27)).alloc (.cells #[.slice none 0 0, .slice none 0 0] 27))) := ((belowRefl w).alloc (Nat.le_refl _) _).alloc (by simp) _
   have hzz : w.heap.size + 1 + 1 = ((w.alloc (.cells #[.slice a1 ss.length c1, .slice a2 ps.length c2] 27)).alloc (.cells #[.slice none 0 0, .slice none 0 0] 27)).heap.size := by simp
   have X5 : Hid (Bx ((w.alloc (.cells #[.slice a1 ss.length c1, .slice a2 ps.length c2] 27)).alloc (.cells #[.slice none 0 0, .slice none 0 0] 27)) w.heap.size (.slice a1 ss.length c1) (.slice a2 ps.length c2)) := (Bx.new w _ _ _).alloc _
   have X10 : Hid (Bx ((w.alloc (.cells #[.slice a1 ss.length c1, .slice a2 ps.length c2] 27)).alloc (.cells #[.slice none 0 0, .slice none 0 0] 27)) (w.heap.size + 1) (.slice none 0 0) (.slice none 0 0)) := by
    have h := Bx.new (w.alloc (.cells #[.slice a1 ss.length c1, .slice a2 ps.length c2] 27)) (.slice none 0 0) (.slice none 0 0) 27
    rw [World.size_alloc] at h
    exact h
   have DA : Hid (DOwn ((w.alloc (.cells #[.slice a1 ss.length c1, .slice a2 ps.length c2] 27)).alloc (.cells #[.slice none 0 0, .slice none 0 0] 27)) B0 a1 c1 a2 c2 ss ps) := hd.below b0.out
   have HK0 : Hid (KRow w ak ks) := hk
   have KA : Hid (KRow ((w.alloc (.cells #[.slice a1 ss.length c1, .slice a2 ps.length c2] 27)).alloc (.cells #[.slice none 0 0, .slice none 0 0] 27)) ak ks) := hk.below b0.out
   replace b0 := b0
   have HL0 : Hid (SRow w al ts) := hl
   have LA : Hid (SRow ((w.alloc (.cells #[.slice a1 ss.length c1, .slice a2 ps.length c2] 27)).alloc (.cells #[.slice none 0 0, .slice none 0 0] 27)) al ts) := hl.below b0.out
   clear hs hp hts hB hlog hfb hlp hfl hok hA hA2 hac hFS hSW hd hk hl hR hCR hZW
   have g0 := X5.out.c0
   have g1 := X5.out.c1
   go_enter Tryz.func13, Tryz.ntmps13
   go_wp2_with fail
   generalize ((w.alloc (.cells #[.slice a1 ss.length c1, .slice a2 ps.length c2] 27)).alloc (.cells #[.slice none 0 0, .slice none 0 0] 27)) = v0 at *
   refine (HSW.out _ _ _ _ _ _ DA.out LA.out).mono ?_
   rintro e w1 ⟨y1, y2, y3, y4, rfl, hd1, hb1⟩
   replace X5 : Hid (Bx w1 w.heap.size (.slice a1 ss.length c1) (.slice a2 ps.length c2)) := X5.out.keep hb1 X5.out.lt
   replace X10 : Hid (Bx w1 (w.heap.size + 1) (.slice none 0 0) (.slice none 0 0)) := X10.out.keep hb1 X10.out.lt
   replace DA : Hid (DOwn w1 B0 a1 c1 a2 c2 ss ps) := DA.out.below hb1
   replace KA : Hid (KRow w1 ak ks) := KA.out.below hb1
   replace b0 : Hid (Below w.heap.size w w1) := b0.out.trans (hb1.mono b0.out.size)
   replace LA : Hid (SRow w1 al ts) := LA.out.below hb1
   have D1 : Hid (DOwn w1 (w.heap.size + 1 + 1) y1 y2 y3 y4 SW ps) := by rw [hzz]; exact hd1
   clear hd1 hb1 g0 g1
   have hba : Below w1.heap.size w1 (w1.alloc (.cells #[.slice y1 SW.length y2, .slice y3 ps.length y4] 27)) := (belowRefl w1).alloc (Nat.le_refl _) _
   replace X5 : Hid (Bx (w1.alloc (.cells #[.slice y1 SW.length y2, .slice y3 ps.length y4] 27)) w.heap.size (.slice a1 ss.length c1) (.slice a2 ps.length c2)) := X5.out.keep hba X5.out.lt
   replace X10 : Hid (Bx (w1.alloc (.cells #[.slice y1 SW.length y2, .slice y3 ps.length y4] 27)) (w.heap.size + 1) (.slice none 0 0) (.slice none 0 0)) := X10.out.keep hba X10.out.lt
   replace DA : Hid (DOwn (w1.alloc (.cells #[.slice y1 SW.length y2, .slice y3 ps.length y4] 27)) B0 a1 c1 a2 c2 ss ps) := DA.out.below hba
   replace KA : Hid (KRow (w1.alloc (.cells #[.slice y1 SW.length y2, .slice y3 ps.length y4] 27)) ak ks) := KA.out.below hba
   replace b0 : Hid (Below w.heap.size w (w1.alloc (.cells #[.slice y1 SW.length y2, .slice y3 ps.length y4] 27))) := b0.out.trans (hba.mono b0.out.size)
   replace LA : Hid (SRow (w1.alloc (.cells #[.slice y1 SW.length y2, .slice y3 ps.length y4] 27)) al ts) := LA.out.below hba
   replace D1 : Hid (DOwn (w1.alloc (.cells #[.slice y1 SW.length y2, .slice y3 ps.length y4] 27)) (w.heap.size + 1 + 1) y1 y2 y3 y4 SW ps) := D1.out.below hba
   have X11 : Hid (Bx (w1.alloc (.cells #[.slice y1 SW.length y2, .slice y3 ps.length y4] 27)) w1.heap.size (.slice y1 SW.length y2) (.slice y3 ps.length y4)) := Bx.new w1 _ _ 27
   clear hba
   have g0 := X5.out.c0
   have g1 := X5.out.c1
   go_wp2_with fail
   generalize (w1.alloc (.cells #[.slice y1 SW.length y2, .slice y3 ps.length y4] 27)) = v1 at *
   generalize w1.heap.size = B11 at *
   refine (HFI.out _ _ _ _ _ _ DA.out LA.out).mono ?_
   rintro e w3 ⟨x1, x2, x3, x4, rfl, hd3, hb3⟩
   have hz3 : w.heap.size + 1 + 1 ≤ v1.heap.size := X10.out.lt
   replace X5 : Hid (Bx w3 w.heap.size (.slice a1 ss.length c1) (.slice a2 ps.length c2)) := X5.out.keep hb3 X5.out.lt
   replace X10 : Hid (Bx w3 (w.heap.size + 1) (.slice none 0 0) (.slice none 0 0)) := X10.out.keep hb3 X10.out.lt
   replace DA : Hid (DOwn w3 B0 a1 c1 a2 c2 ss ps) := DA.out.below hb3
   replace KA : Hid (KRow w3 ak ks) := KA.out.below hb3
   replace b0 : Hid (Below w.heap.size w w3) := b0.out.trans (hb3.mono b0.out.size)
   replace LA : Hid (SRow w3 al ts) := LA.out.below hb3
   replace D1 : Hid (DOwn w3 (w.heap.size + 1 + 1) y1 y2 y3 y4 SW ps) := D1.out.below hb3
   replace X11 : Hid (Bx w3 B11 (.slice y1 SW.length y2) (.slice y3 ps.length y4)) := X11.out.keep hb3 X11.out.lt
   have D3 : Hid (DOwn w3 (w.heap.size + 1 + 1) x1 x2 x3 x4 FS ps) := hd3.mono hz3
   have hneq : Hid (w.heap.size + 1 < w3.heap.size) := X10.out.lt
   clear hd3 hb3 g0 g1
   have hba : Below w3.heap.size w3 (w3.alloc (.cells #[.slice x1 FS.length x2, .slice x3 ps.length x4] 27)) := (belowRefl w3).alloc (Nat.le_refl _) _
   replace X5 : Hid (Bx (w3.alloc (.cells #[.slice x1 FS.length x2, .slice x3 ps.length x4] 27)) w.heap.size (.slice a1 ss.length c1) (.slice a2 ps.length c2)) := X5.out.keep hba X5.out.lt
   replace X10 : Hid (Bx (w3.alloc (.cells #[.slice x1 FS.length x2, .slice x3 ps.length x4] 27)) (w.heap.size + 1) (.slice none 0 0) (.slice none 0 0)) := X10.out.keep hba X10.out.lt
   replace DA : Hid (DOwn (w3.alloc (.cells #[.slice x1 FS.length x2, .slice x3 ps.length x4] 27)) B0 a1 c1 a2 c2 ss ps) := DA.out.below hba
   replace KA : Hid (KRow (w3.alloc (.cells #[.slice x1 FS.length x2, .slice x3 ps.length x4] 27)) ak ks) := KA.out.below hba
   replace b0 : Hid (Below w.heap.size w (w3.alloc (.cells #[.slice x1 FS.length x2, .slice x3 ps.length x4] 27))) := b0.out.trans (hba.mono b0.out.size)
   replace LA : Hid (SRow (w3.alloc (.cells #[.slice x1 FS.length x2, .slice x3 ps.length x4] 27)) al ts) := LA.out.below hba
   replace D1 : Hid (DOwn (w3.alloc (.cells #[.slice x1 FS.length x2, .slice x3 ps.length x4] 27)) (w.heap.size + 1 + 1) y1 y2 y3 y4 SW ps) := D1.out.below hba
   replace X11 : Hid (Bx (w3.alloc (.cells #[.slice x1 FS.length x2, .slice x3 ps.length x4] 27)) B11 (.slice y1 SW.length y2) (.slice y3 ps.length y4)) := X11.out.keep hba X11.out.lt
   replace D3 : Hid (DOwn (w3.alloc (.cells #[.slice x1 FS.length x2, .slice x3 ps.length x4] 27)) (w.heap.size + 1 + 1) x1 x2 x3 x4 FS ps) := D3.out.below hba
   have X13 : Hid (Bx (w3.alloc (.cells #[.slice x1 FS.length x2, .slice x3 ps.length x4] 27)) w3.heap.size (.slice x1 FS.length x2) (.slice x3 ps.length x4)) := Bx.new w3 _ _ 27
   clear hba
   go_upto_region 7 with fail
   generalize (w3.alloc (.cells #[.slice x1 FS.length x2, .slice x3 ps.length x4] 27)) = v3 at *
   generalize w3.heap.size = B13 at *
   have l0 : w.heap.size < v3.heap.size := X5.out.lt
   have l2 : w.heap.size < v3.heap.size := X5.out.lt
   have RS0 : Hid (RS2 v3 w.heap.size w.heap.size (.slice a1 ss.length c1) (.slice a2 ps.length c2) (.slice a1 ss.length c1) (.slice a2 ps.length c2) v3.drew) := ⟨X5.out.c0, X5.out.c1, X5.out.c0, X5.out.c1, (belowRefl v3).drew⟩
   go_region_held3 (fun w' => w'.cell? ⟨w.heap.size, 0, none⟩ = some (.slice a1 ss.length c1) ∧ w'.cell? ⟨w.heap.size, 1, none⟩ = some (.slice a2 ps.length c2) ∧ w'.cell? ⟨w.heap.size, 0, none⟩ = some (.slice a1 ss.length c1) ∧ w'.cell? ⟨w.heap.size, 1, none⟩ = some (.slice a2 ps.length c2) ∧ Below v3.heap.size v3 w')
    (first | exact RS0.out | exact t5.out | exact t8.out | exact RS2.alloc (by assumption) _ l0 l2 | exact RS2.set (RS2.set (by assumption) _ _ (by first | exact hz8 | exact Nat.le_refl _ | exact hz5) l0 l2) _ _ (by first | exact hz8 | exact Nat.le_refl _ | exact hz5) l0 l2)
    ((first
     | (go_at_call 36
        refine (HAC.out _ _ _ _ _ _ (DA.out.below (RS2.b (b := w.heap.size) (c := w.heap.size) (x := .slice a1 ss.length c1) (y := .slice a2 ps.length c2) (z := .slice a1 ss.length c1) (u := .slice a2 ps.length c2) (by assumption)))).mono ?_
        rintro e w5 ⟨rfl, hb5⟩
        have t5 : Hid (RS2 v3 w.heap.size w.heap.size (.slice a1 ss.length c1) (.slice a2 ps.length c2) (.slice a1 ss.length c1) (.slice a2 ps.length c2) w5) := RS2.call (by assumption) hb5 l0 l2
        have hz5 : v3.heap.size ≤ w5.heap.size := (RS2.b t5.out).size
        try have Q5 : Hid (Bx w5 _ (.slice none 0 0) (.slice none 0 0)) := (Bx.new _ _ _ 27).keep hb5 (Bx.new _ (.slice none 0 0) (.slice none 0 0) 27).lt
        try have Q5 : Hid (Bx w5 _ (.slice none 0 0) (.slice none 0 0)) := (Bx.new _ _ _ 27).drew.keep hb5 (Bx.new _ (.slice none 0 0) (.slice none 0 0) 27).drew.lt)
     | (go_at_call 39
        refine (HCO.out _ _ _ _ _ _ (DA.out.below (RS2.b (b := w.heap.size) (c := w.heap.size) (x := .slice a1 ss.length c1) (y := .slice a2 ps.length c2) (z := .slice a1 ss.length c1) (u := .slice a2 ps.length c2) (by assumption)))).mono ?_
        rintro e w8 ⟨u1, u2, u3, u4, rfl, hd8, hk8, hb8⟩
        have t8 : Hid (RS2 v3 w.heap.size w.heap.size (.slice a1 ss.length c1) (.slice a2 ps.length c2) (.slice a1 ss.length c1) (.slice a2 ps.length c2) w8) := RS2.call (by assumption) hb8 l0 l2
        have hz8 : v3.heap.size ≤ w8.heap.size := (RS2.b t8.out).size
        try have Q8 : Hid (Bx w8 _ (.slice none 0 0) (.slice none 0 0)) := (Bx.new _ _ _ 27).keep hb8 (Bx.new _ (.slice none 0 0) (.slice none 0 0) 27).lt
        try have Q8 : Hid (Bx w8 _ (.slice none 0 0) (.slice none 0 0)) := (Bx.new _ _ _ 27).drew.keep hb8 (Bx.new _ (.slice none 0 0) (.slice none 0 0) 27).drew.lt
        try have Q8 : Hid (Bx w8 _ (.slice none 0 0) (.slice none 0 0)) := Q5.out.keep hb8 Q5.out.lt
        try have r0 := Q8.out.c0
        try have r1 := Q8.out.c1
        try have rf := Q8.out.fz)))
   all_goals
    have hz5' : v3.heap.size ≤ w5.heap.size := (RS2.b t5.out).size
    have h0w : w.heap.size + 1 + 1 ≤ v3.heap.size := X10.out.lt
    have HB8 : Hid (Below w.heap.size w w8) := b0.out.trans ((RS2.b t8.out).mono b0.out.size)
    have Y18 : Hid (Bx w8 (w.heap.size + 1) (.slice none 0 0) (.slice none 0 0)) := X10.out.keep (RS2.b t8.out) X10.out.lt
   ·skip
    have V : Hid (Bx (w8.alloc (.cells #[.slice u1 ss.length u2, .slice u3 ZW.length u4] 27)) w8.heap.size (.slice u1 ss.length u2) (.slice u3 ZW.length u4)) := Bx.new w8 _ _ _
    have DU : Hid (DOwn (w8.alloc (.cells #[.slice u1 ss.length u2, .slice u3 ZW.length u4] 27)) (w.heap.size + 1 + 1) u1 u2 u3 u4 ss ZW) := ⟨(hd8.s.alloc _).mono (by omega), (hd8.p.alloc _).mono (by omega)⟩
    have Xr : Hid (Bx (w8.alloc (.cells #[.slice u1 ss.length u2, .slice u3 ZW.length u4] 27)) (w.heap.size + 1) (.slice none 0 0) (.slice none 0 0)) := Y18.out.alloc _
    have Bf : Hid (Below w.heap.size w (w8.alloc (.cells #[.slice u1 ss.length u2, .slice u3 ZW.length u4] 27))) := HB8.out.alloc HB8.out.size _
    have Kf : Hid (KRow (w8.alloc (.cells #[.slice u1 ss.length u2, .slice u3 ZW.length u4] 27)) ak ks) := HK0.out.below Bf.out
    clear hd8 hb8 hb5 t5 t8 RS0 X10 b0 KA
    have g0 := V.out.c0
    have g1 := V.out.c1
    go_wp2_with fail
    refine (HCR.out hk8 _ _ _ _ _ _ DU.out Kf.out).mono ?_
    rintro e w10 ⟨v1, v2, v3, v4, rfl, hd10, hb10⟩
    have X10 : Hid (Bx w10 (w.heap.size + 1) (.slice none 0 0) (.slice none 0 0)) := Xr.out.keep hb10 Xr.out.lt
    have b0 : Hid (Below w.heap.size w w10) := Bf.out.trans (hb10.mono Bf.out.size)
    have D9 : Hid (DOwn w10 (w.heap.size + 1 + 1) v1 v2 v3 v4 CR ps) := hd10.mono Xr.out.lt
    clear hd10 hb10
    have r0 := X10.out.c0
    have r1 := X10.out.c1
    have rf := X10.out.fz
    have V9 : Hid (Bx ((w10.setCell ⟨w.heap.size + 1, 0, none⟩ (.slice v1 CR.length v2)).setCell ⟨w.heap.size + 1, 1, none⟩ (.slice v3 ps.length v4)) (w.heap.size + 1) (.slice v1 CR.length v2) (.slice v3 ps.length v4)) := (X10.out.set0 _).set1 _
    have q0 := V9.out.c0
    have q1 := V9.out.c1
    go_wp2
    refine bodyPost_ret (v := .agg #[.slice v1 CR.length v2, .slice v3 ps.length v4]) (by simp [results, Tryz.results13, go_sem, q0, q1]) rfl ⟨v1, v2, v3, v4, rfl, ⟨?_, ?_⟩, ?_⟩
    ·exact ((D9.out.s.set (by show w.heap.size + 1 < _; omega) _).set (by show w.heap.size + 1 < _; omega) _).mono (by omega)
    ·exact ((D9.out.p.set (by show w.heap.size + 1 < _; omega) _).set (by show w.heap.size + 1 < _; omega) _).mono (by omega)
    ·exact (b0.out.setCell (by show _ ≤ w.heap.size + 1; omega) _).setCell (by show _ ≤ w.heap.size + 1; omega) _
   ·skip
    have V : Hid (Bx ((w8.setCell ⟨w5.heap.size, 0, none⟩ (.slice u1 ss.length u2)).setCell ⟨w5.heap.size, 1, none⟩ (.slice u3 ZW.length u4)) w5.heap.size (.slice u1 ss.length u2) (.slice u3 ZW.length u4)) := (Q8.out.set0 _).set1 _
    have DU : Hid (DOwn ((w8.setCell ⟨w5.heap.size, 0, none⟩ (.slice u1 ss.length u2)).setCell ⟨w5.heap.size, 1, none⟩ (.slice u3 ZW.length u4)) (w.heap.size + 1 + 1) u1 u2 u3 u4 ss ZW) := ⟨((hd8.s.set (by show w5.heap.size < (w5.alloc _).heap.size; simp) _).set (by show w5.heap.size < (w5.alloc _).heap.size; simp) _).mono (by first | omega | (simp; omega)), ((hd8.p.set (by show w5.heap.size < (w5.alloc _).heap.size; simp) _).set (by show w5.heap.size < (w5.alloc _).heap.size; simp) _).mono (by first | omega | (simp; omega))⟩
    have Xr : Hid (Bx ((w8.setCell ⟨w5.heap.size, 0, none⟩ (.slice u1 ss.length u2)).setCell ⟨w5.heap.size, 1, none⟩ (.slice u3 ZW.length u4)) (w.heap.size + 1) (.slice none 0 0) (.slice none 0 0)) := (Y18.out.setO (by show w5.heap.size ≠ _; omega) _).setO (by show w5.heap.size ≠ _; omega) _
    have Bf : Hid (Below w.heap.size w ((w8.setCell ⟨w5.heap.size, 0, none⟩ (.slice u1 ss.length u2)).setCell ⟨w5.heap.size, 1, none⟩ (.slice u3 ZW.length u4))) := (HB8.out.setCell (by show _ ≤ w5.heap.size; omega) _).setCell (by show _ ≤ w5.heap.size; omega) _
    have Kf : Hid (KRow ((w8.setCell ⟨w5.heap.size, 0, none⟩ (.slice u1 ss.length u2)).setCell ⟨w5.heap.size, 1, none⟩ (.slice u3 ZW.length u4)) ak ks) := HK0.out.below Bf.out
    clear hd8 hb8 hb5 t5 t8 RS0 X10 b0 KA
    have g0 := V.out.c0
    have g1 := V.out.c1
    go_wp2_with fail
    refine (HCR.out hk8 _ _ _ _ _ _ DU.out Kf.out).mono ?_
    rintro e w10 ⟨v1, v2, v3, v4, rfl, hd10, hb10⟩
    have X10 : Hid (Bx w10 (w.heap.size + 1) (.slice none 0 0) (.slice none 0 0)) := Xr.out.keep hb10 Xr.out.lt
    have b0 : Hid (Below w.heap.size w w10) := Bf.out.trans (hb10.mono Bf.out.size)
    have D9 : Hid (DOwn w10 (w.heap.size + 1 + 1) v1 v2 v3 v4 CR ps) := hd10.mono Xr.out.lt
    clear hd10 hb10
    have r0 := X10.out.c0
    have r1 := X10.out.c1
    have rf := X10.out.fz
    have V9 : Hid (Bx ((w10.setCell ⟨w.heap.size + 1, 0, none⟩ (.slice v1 CR.length v2)).setCell ⟨w.heap.size + 1, 1, none⟩ (.slice v3 ps.length v4)) (w.heap.size + 1) (.slice v1 CR.length v2) (.slice v3 ps.length v4)) := (X10.out.set0 _).set1 _
    have q0 := V9.out.c0
    have q1 := V9.out.c1
    go_wp2
    refine bodyPost_ret (v := .agg #[.slice v1 CR.length v2, .slice v3 ps.length v4]) (by simp [results, Tryz.results13, go_sem, q0, q1]) rfl ⟨v1, v2, v3, v4, rfl, ⟨?_, ?_⟩, ?_⟩
    ·exact ((D9.out.s.set (by show w.heap.size + 1 < _; omega) _).set (by show w.heap.size + 1 < _; omega) _).mono (by omega)
    ·exact ((D9.out.p.set (by show w.heap.size + 1 < _; omega) _).set (by show w.heap.size + 1 < _; omega) _).mono (by omega)
    ·exact (b0.out.setCell (by show _ ≤ w.heap.size + 1; omega) _).setCell (by show _ ≤ w.heap.size + 1; omega) _
   ·skip
    have V : Hid (Bx ((w8.setCell ⟨v3.heap.size, 0, none⟩ (.slice u1 ss.length u2)).setCell ⟨v3.heap.size, 1, none⟩ (.slice u3 ZW.length u4)) v3.heap.size (.slice u1 ss.length u2) (.slice u3 ZW.length u4)) := (Q8.out.set0 _).set1 _
    have DU : Hid (DOwn ((w8.setCell ⟨v3.heap.size, 0, none⟩ (.slice u1 ss.length u2)).setCell ⟨v3.heap.size, 1, none⟩ (.slice u3 ZW.length u4)) (w.heap.size + 1 + 1) u1 u2 u3 u4 ss ZW) := ⟨((hd8.s.set (by show v3.heap.size < w5.heap.size; have h5 : (v3.alloc _).heap.size ≤ w5.heap.size := hb5.size; rw [World.size_alloc] at h5; omega) _).set (by show v3.heap.size < w5.heap.size; have h5 : (v3.alloc _).heap.size ≤ w5.heap.size := hb5.size; rw [World.size_alloc] at h5; omega) _).mono (by first | omega | (simp; omega)), ((hd8.p.set (by show v3.heap.size < w5.heap.size; have h5 : (v3.alloc _).heap.size ≤ w5.heap.size := hb5.size; rw [World.size_alloc] at h5; omega) _).set (by show v3.heap.size < w5.heap.size; have h5 : (v3.alloc _).heap.size ≤ w5.heap.size := hb5.size; rw [World.size_alloc] at h5; omega) _).mono (by first | omega | (simp; omega))⟩
    have Xr : Hid (Bx ((w8.setCell ⟨v3.heap.size, 0, none⟩ (.slice u1 ss.length u2)).setCell ⟨v3.heap.size, 1, none⟩ (.slice u3 ZW.length u4)) (w.heap.size + 1) (.slice none 0 0) (.slice none 0 0)) := (Y18.out.setO (by show v3.heap.size ≠ _; omega) _).setO (by show v3.heap.size ≠ _; omega) _
    have Bf : Hid (Below w.heap.size w ((w8.setCell ⟨v3.heap.size, 0, none⟩ (.slice u1 ss.length u2)).setCell ⟨v3.heap.size, 1, none⟩ (.slice u3 ZW.length u4))) := (HB8.out.setCell (by show _ ≤ v3.heap.size; omega) _).setCell (by show _ ≤ v3.heap.size; omega) _
    have Kf : Hid (KRow ((w8.setCell ⟨v3.heap.size, 0, none⟩ (.slice u1 ss.length u2)).setCell ⟨v3.heap.size, 1, none⟩ (.slice u3 ZW.length u4)) ak ks) := HK0.out.below Bf.out
    clear hd8 hb8 hb5 t5 t8 RS0 X10 b0 KA
    have g0 := V.out.c0
    have g1 := V.out.c1
    go_wp2_with fail
    refine (HCR.out hk8 _ _ _ _ _ _ DU.out Kf.out).mono ?_
    rintro e w10 ⟨v1, v2, v3, v4, rfl, hd10, hb10⟩
    have X10 : Hid (Bx w10 (w.heap.size + 1) (.slice none 0 0) (.slice none 0 0)) := Xr.out.keep hb10 Xr.out.lt
    have b0 : Hid (Below w.heap.size w w10) := Bf.out.trans (hb10.mono Bf.out.size)
    have D9 : Hid (DOwn w10 (w.heap.size + 1 + 1) v1 v2 v3 v4 CR ps) := hd10.mono Xr.out.lt
    clear hd10 hb10
    have r0 := X10.out.c0
    have r1 := X10.out.c1
    have rf := X10.out.fz
    have V9 : Hid (Bx ((w10.setCell ⟨w.heap.size + 1, 0, none⟩ (.slice v1 CR.length v2)).setCell ⟨w.heap.size + 1, 1, none⟩ (.slice v3 ps.length v4)) (w.heap.size + 1) (.slice v1 CR.length v2) (.slice v3 ps.length v4)) := (X10.out.set0 _).set1 _
    have q0 := V9.out.c0
    have q1 := V9.out.c1
    go_wp2
    refine bodyPost_ret (v := .agg #[.slice v1 CR.length v2, .slice v3 ps.length v4]) (by simp [results, Tryz.results13, go_sem, q0, q1]) rfl ⟨v1, v2, v3, v4, rfl, ⟨?_, ?_⟩, ?_⟩
    ·exact ((D9.out.s.set (by show w.heap.size + 1 < _; omega) _).set (by show w.heap.size + 1 < _; omega) _).mono (by omega)
    ·exact ((D9.out.p.set (by show w.heap.size + 1 < _; omega) _).set (by show w.heap.size + 1 < _; omega) _).mono (by omega)
    ·exact (b0.out.setCell (by show _ ≤ w.heap.size + 1; omega) _).setCell (by show _ ≤ w.heap.size + 1; omega) _
  rcases Classical.em (st = 1) with rfl | h1
  ·skip
   have hR : csS ss ps ts 1 ks tr = FS := by rw [csS_1 hB, hFS]
   rw [hR]
   have b0 : Hid (Below w.heap.size w ((w.alloc (.cells #[.slice a1 ss.length c1, .slice a2 ps.length c2] 27)).alloc (.cells #[.slice none 0 0, .slice none 0 0] 27))) := ((belowRefl w).alloc (Nat.le_refl _) _).alloc (by simp) _
   have hzz : w.heap.size + 1 + 1 = ((w.alloc (.cells #[.slice a1 ss.length c1, .slice a2 ps.length c2] 27)).alloc (.cells #[.slice none 0 0, .slice none 0 0] 27)).heap.size := by simp
   have X5 : Hid (Bx ((w.alloc (.cells #[.slice a1 ss.length c1, .slice a2 ps.length c2] 27)).alloc (.cells #[.slice none 0 0, .slice none 0 0] 27)) w.heap.size (.slice a1 ss.length c1) (.slice a2 ps.length c2)) := (Bx.new w _ _ _).alloc _
   have X10 : Hid (Bx ((w.alloc (.cells #[.slice a1 ss.length c1, .slice a2 ps.length c2] 27)).alloc (.cells #[.slice none 0 0, .slice none 0 0] 27)) (w.heap.size + 1) (.slice none 0 0) (.slice none 0 0)) := by
    have h := Bx.new (w.alloc (.cells #[.slice a1 ss.length c1, .slice a2 ps.length c2] 27)) (.slice none 0 0) (.slice none 0 0) 27
    rw [World.size_alloc] at h
    exact h
   have DA : Hid (DOwn ((w.alloc (.cells #[.slice a1 ss.length c1, .slice a2 ps.length c2] 27)).alloc (.cells #[.slice none 0 0, .slice none 0 0] 27)) B0 a1 c1 a2 c2 ss ps) := hd.below b0.out
   have HK0 : Hid (KRow w ak ks) := hk
   have KA : Hid (KRow ((w.alloc (.cells #[.slice a1 ss.length c1, .slice a2 ps.length c2] 27)).alloc (.cells #[.slice none 0 0, .slice none 0 0] 27)) ak ks) := hk.below b0.out
   replace b0 := b0
   have HL0 : Hid (SRow w al ts) := hl
   have LA : Hid (SRow ((w.alloc (.cells #[.slice a1 ss.length c1, .slice a2 ps.length c2] 27)).alloc (.cells #[.slice none 0 0, .slice none 0 0] 27)) al ts) := hl.below b0.out
   clear hs hp hts hB hlog hfb hlp hfl hok hA hA2 hac hFS hSW hd hk hl hR
   have g0 := X5.out.c0
   have g1 := X5.out.c1
   go_enter Tryz.func13, Tryz.ntmps13
   go_wp2_with fail
   generalize ((w.alloc (.cells #[.slice a1 ss.length c1, .slice a2 ps.length c2] 27)).alloc (.cells #[.slice none 0 0, .slice none 0 0] 27)) = v0 at *
   refine (HSW.out _ _ _ _ _ _ DA.out LA.out).mono ?_
   rintro e w1 ⟨y1, y2, y3, y4, rfl, hd1, hb1⟩
   replace X5 : Hid (Bx w1 w.heap.size (.slice a1 ss.length c1) (.slice a2 ps.length c2)) := X5.out.keep hb1 X5.out.lt
   replace X10 : Hid (Bx w1 (w.heap.size + 1) (.slice none 0 0) (.slice none 0 0)) := X10.out.keep hb1 X10.out.lt
   replace DA : Hid (DOwn w1 B0 a1 c1 a2 c2 ss ps) := DA.out.below hb1
   replace KA : Hid (KRow w1 ak ks) := KA.out.below hb1
   replace b0 : Hid (Below w.heap.size w w1) := b0.out.trans (hb1.mono b0.out.size)
   replace LA : Hid (SRow w1 al ts) := LA.out.below hb1
   have D1 : Hid (DOwn w1 (w.heap.size + 1 + 1) y1 y2 y3 y4 SW ps) := by rw [hzz]; exact hd1
   clear hd1 hb1 g0 g1
   have hba : Below w1.heap.size w1 (w1.alloc (.cells #[.slice y1 SW.length y2, .slice y3 ps.length y4] 27)) := (belowRefl w1).alloc (Nat.le_refl _) _
   replace X5 : Hid (Bx (w1.alloc (.cells #[.slice y1 SW.length y2, .slice y3 ps.length y4] 27)) w.heap.size (.slice a1 ss.length c1) (.slice a2 ps.length c2)) := X5.out.keep hba X5.out.lt
   replace X10 : Hid (Bx (w1.alloc (.cells #[.slice y1 SW.length y2, .slice y3 ps.length y4] 27)) (w.heap.size + 1) (.slice none 0 0) (.slice none 0 0)) := X10.out.keep hba X10.out.lt
   replace DA : Hid (DOwn (w1.alloc (.cells #[.slice y1 SW.length y2, .slice y3 ps.length y4] 27)) B0 a1 c1 a2 c2 ss ps) := DA.out.below hba
   replace KA : Hid (KRow (w1.alloc (.cells #[.slice y1 SW.length y2, .slice y3 ps.length y4] 27)) ak ks) := KA.out.below hba
   replace b0 : Hid (Below w.heap.size w (w1.alloc (.cells #[.slice y1 SW.length y2, .slice y3 ps.length y4] 27))) := b0.out.trans (hba.mono b0.out.size)
   replace LA : Hid (SRow (w1.alloc (.cells #[.slice y1 SW.length y2, .slice y3 ps.length y4] 27)) al ts) := LA.out.below hba
   replace D1 : Hid (DOwn (w1.alloc (.cells #[.slice y1 SW.length y2, .slice y3 ps.length y4] 27)) (w.heap.size + 1 + 1) y1 y2 y3 y4 SW ps) := D1.out.below hba
   have X11 : Hid (Bx (w1.alloc (.cells #[.slice y1 SW.length y2, .slice y3 ps.length y4] 27)) w1.heap.size (.slice y1 SW.length y2) (.slice y3 ps.length y4)) := Bx.new w1 _ _ 27
   clear hba
   have g0 := X5.out.c0
   have g1 := X5.out.c1
   go_wp2_with fail
   generalize (w1.alloc (.cells #[.slice y1 SW.length y2, .slice y3 ps.length y4] 27)) = v1 at *
   generalize w1.heap.size = B11 at *
   refine (HFI.out _ _ _ _ _ _ DA.out LA.out).mono ?_
   rintro e w3 ⟨x1, x2, x3, x4, rfl, hd3, hb3⟩
   have hz3 : w.heap.size + 1 + 1 ≤ v1.heap.size := X10.out.lt
   replace X5 : Hid (Bx w3 w.heap.size (.slice a1 ss.length c1) (.slice a2 ps.length c2)) := X5.out.keep hb3 X5.out.lt
   replace X10 : Hid (Bx w3 (w.heap.size + 1) (.slice none 0 0) (.slice none 0 0)) := X10.out.keep hb3 X10.out.lt
   replace DA : Hid (DOwn w3 B0 a1 c1 a2 c2 ss ps) := DA.out.below hb3
   replace KA : Hid (KRow w3 ak ks) := KA.out.below hb3
   replace b0 : Hid (Below w.heap.size w w3) := b0.out.trans (hb3.mono b0.out.size)
   replace LA : Hid (SRow w3 al ts) := LA.out.below hb3
   replace D1 : Hid (DOwn w3 (w.heap.size + 1 + 1) y1 y2 y3 y4 SW ps) := D1.out.below hb3
   replace X11 : Hid (Bx w3 B11 (.slice y1 SW.length y2) (.slice y3 ps.length y4)) := X11.out.keep hb3 X11.out.lt
   have D3 : Hid (DOwn w3 (w.heap.size + 1 + 1) x1 x2 x3 x4 FS ps) := hd3.mono hz3
   have hneq : Hid (w.heap.size + 1 < w3.heap.size) := X10.out.lt
   clear hd3 hb3 g0 g1
   have hba : Below w3.heap.size w3 (w3.alloc (.cells #[.slice x1 FS.length x2, .slice x3 ps.length x4] 27)) := (belowRefl w3).alloc (Nat.le_refl _) _
   replace X5 : Hid (Bx (w3.alloc (.cells #[.slice x1 FS.length x2, .slice x3 ps.length x4] 27)) w.heap.size (.slice a1 ss.length c1) (.slice a2 ps.length c2)) := X5.out.keep hba X5.out.lt
   replace X10 : Hid (Bx (w3.alloc (.cells #[.slice x1 FS.length x2, .slice x3 ps.length x4] 27)) (w.heap.size + 1) (.slice none 0 0) (.slice none 0 0)) := X10.out.keep hba X10.out.lt
   replace DA : Hid (DOwn (w3.alloc (.cells #[.slice x1 FS.length x2, .slice x3 ps.length x4] 27)) B0 a1 c1 a2 c2 ss ps) := DA.out.below hba
   replace KA : Hid (KRow (w3.alloc (.cells #[.slice x1 FS.length x2, .slice x3 ps.length x4] 27)) ak ks) := KA.out.below hba
   replace b0 : Hid (Below w.heap.size w (w3.alloc (.cells #[.slice x1 FS.length x2, .slice x3 ps.length x4] 27))) := b0.out.trans (hba.mono b0.out.size)
   replace LA : Hid (SRow (w3.alloc (.cells #[.slice x1 FS.length x2, .slice x3 ps.length x4] 27)) al ts) := LA.out.below hba
   replace D1 : Hid (DOwn (w3.alloc (.cells #[.slice x1 FS.length x2, .slice x3 ps.length x4] 27)) (w.heap.size + 1 + 1) y1 y2 y3 y4 SW ps) := D1.out.below hba
   replace X11 : Hid (Bx (w3.alloc (.cells #[.slice x1 FS.length x2, .slice x3 ps.length x4] 27)) B11 (.slice y1 SW.length y2) (.slice y3 ps.length y4)) := X11.out.keep hba X11.out.lt
   replace D3 : Hid (DOwn (w3.alloc (.cells #[.slice x1 FS.length x2, .slice x3 ps.length x4] 27)) (w.heap.size + 1 + 1) x1 x2 x3 x4 FS ps) := D3.out.below hba
   have X13 : Hid (Bx (w3.alloc (.cells #[.slice x1 FS.length x2, .slice x3 ps.length x4] 27)) w3.heap.size (.slice x1 FS.length x2) (.slice x3 ps.length x4)) := Bx.new w3 _ _ 27
   clear hba
   have g0 := X13.out.c0
   have g1 := X13.out.c1
   have r0 := X10.out.c0
   have r1 := X10.out.c1
   have rf := X10.out.fz
   have V9 : Hid (Bx (((w3.alloc (.cells #[.slice x1 FS.length x2, .slice x3 ps.length x4] 27)).setCell ⟨w.heap.size + 1, 0, none⟩ (.slice x1 FS.length x2)).setCell ⟨w.heap.size + 1, 1, none⟩ (.slice x3 ps.length x4)) (w.heap.size + 1) (.slice x1 FS.length x2) (.slice x3 ps.length x4)) := (X10.out.set0 _).set1 _
   have q0 := V9.out.c0
   have q1 := V9.out.c1
   go_wp2
   refine bodyPost_ret (v := .agg #[.slice x1 FS.length x2, .slice x3 ps.length x4]) (by simp [results, Tryz.results13, go_sem, q0, q1]) rfl ⟨x1, x2, x3, x4, rfl, ⟨?_, ?_⟩, ?_⟩
   ·exact ((D3.out.s.set (by show w.heap.size + 1 < _; omega) _).set (by show w.heap.size + 1 < _; omega) _).mono (by omega)
   ·exact ((D3.out.p.set (by show w.heap.size + 1 < _; omega) _).set (by show w.heap.size + 1 < _; omega) _).mono (by omega)
   ·exact (b0.out.setCell (by show _ ≤ w.heap.size + 1; omega) _).setCell (by show _ ≤ w.heap.size + 1; omega) _
  rcases Classical.em (st = 2) with rfl | h2
  ·skip
   obtain ⟨TW, hTW⟩ : ∃ TW, TW = tuW FS ps := ⟨_, rfl⟩
   obtain ⟨CR, hCR⟩ : ∃ CR, CR = crS FS TW ks tr := ⟨_, rfl⟩
   have hR : csS ss ps ts 2 ks tr = CR := by rw [csS_2 hB, ← hFS, hCR, hTW]
   rw [hR]
   have HCR : Hid (okB FS TW = true → ∀ (B : Nat) (W : World) (z1 : Option Addr) (z2 : Nat) (z3 : Option Addr) (z4 : Nat), DOwn W B z1 z2 z3 z4 FS TW → KRow W ak ks → Calls Tryz.prog 38 #[.agg #[.slice z1 FS.length z2, .slice z3 TW.length z4], .slice ak ks.length ck, .int .i64 tr] W fun e w' => ∃ f1 f2 f3 f4, e = .returned (.agg #[.slice f1 CR.length f2, .slice f3 ps.length f4]) ∧ DOwn w' W.heap.size f1 f2 f3 f4 CR ps ∧ Below W.heap.size W w') := fun hk2 B W z1 z2 z3 z4 h hkr => by
    have ho := okB_iff.1 hk2
    have q := scrash44 FS TW ks tr z1 z3 ak z2 z4 ck B (by have := ho.2.1; omega) (by have := ho.2.2.1; omega) hkl W h hkr
    rw [flP_yes hk2, ← hlp.2.2, ← hCR] at q
    exact q
   have HTU : Hid (∀ (B : Nat) (W : World) (z1 : Option Addr) (z2 : Nat) (z3 : Option Addr) (z4 : Nat), DOwn W B z1 z2 z3 z4 FS ps → Calls Tryz.prog 48 #[.agg #[.slice z1 FS.length z2, .slice z3 ps.length z4]] W fun e w' => ∃ f1 f2 f3 f4, e = .returned (.tuple #[.agg #[.slice f1 FS.length f2, .slice f3 TW.length f4], .bool true]) ∧ DOwn w' W.heap.size f1 f2 f3 f4 FS TW ∧ okB FS TW = true ∧ Below W.heap.size W w') := fun B W z1 z2 z3 z4 h => by
    have q := sturn75 FS ps z1 z3 z2 z4 B hfl.1 hlp.2.2 hfl.2.1 W h
    rw [← hTW] at q
    exact q
   have b0 : Hid (Below w.heap.size w ((w.alloc (.cells #[.slice a1 ss.length c1, .slice a2 ps.length c2] 27)).alloc (.cells #[.slice none 0 0, .slice none 0 0] 27))) := ((belowRefl w).alloc (Nat.le_refl _) _).alloc (by simp) _
   have hzz : w.heap.size + 1 + 1 = ((w.alloc (.cells #[.slice a1 ss.length c1, .slice a2 ps.length c2] 27)).alloc (.cells #[.slice none 0 0, .slice none 0 0] 27)).heap.size := by simp
   have X5 : Hid (Bx ((w.alloc (.cells #[.slice a1 ss.length c1, .slice a2 ps.length c2] 27)).alloc (.cells #[.slice none 0 0, .slice none 0 0] 27)) w.heap.size (.slice a1 ss.length c1) (.slice a2 ps.length c2)) := (Bx.new w _ _ _).alloc _
   have X10 : Hid (Bx ((w.alloc (.cells #[.slice a1 ss.length c1, .slice a2 ps.length c2] 27)).alloc (.cells #[.slice none 0 0, .slice none 0 0] 27)) (w.heap.size + 1) (.slice none 0 0) (.slice none 0 0)) := by
    have h := Bx.new (w.alloc (.cells #[.slice a1 ss.length c1, .slice a2 ps.length c2] 27)) (.slice none 0 0) (.slice none 0 0) 27
    rw [World.size_alloc] at h
    exact h
   have DA : Hid (DOwn ((w.alloc (.cells #[.slice a1 ss.length c1, .slice a2 ps.length c2] 27)).alloc (.cells #[.slice none 0 0, .slice none 0 0] 27)) B0 a1 c1 a2 c2 ss ps) := hd.below b0.out
   have HK0 : Hid (KRow w ak ks) := hk
   have KA : Hid (KRow ((w.alloc (.cells #[.slice a1 ss.length c1, .slice a2 ps.length c2] 27)).alloc (.cells #[.slice none 0 0, .slice none 0 0] 27)) ak ks) := hk.below b0.out
   replace b0 := b0
   have HL0 : Hid (SRow w al ts) := hl
   have LA : Hid (SRow ((w.alloc (.cells #[.slice a1 ss.length c1, .slice a2 ps.length c2] 27)).alloc (.cells #[.slice none 0 0, .slice none 0 0] 27)) al ts) := hl.below b0.out
   clear hs hp hts hB hlog hfb hlp hfl hok hA hA2 hac hFS hSW hd hk hl hR hCR hTW
   have g0 := X5.out.c0
   have g1 := X5.out.c1
   go_enter Tryz.func13, Tryz.ntmps13
   go_wp2_with fail
   generalize ((w.alloc (.cells #[.slice a1 ss.length c1, .slice a2 ps.length c2] 27)).alloc (.cells #[.slice none 0 0, .slice none 0 0] 27)) = v0 at *
   refine (HSW.out _ _ _ _ _ _ DA.out LA.out).mono ?_
   rintro e w1 ⟨y1, y2, y3, y4, rfl, hd1, hb1⟩
   replace X5 : Hid (Bx w1 w.heap.size (.slice a1 ss.length c1) (.slice a2 ps.length c2)) := X5.out.keep hb1 X5.out.lt
   replace X10 : Hid (Bx w1 (w.heap.size + 1) (.slice none 0 0) (.slice none 0 0)) := X10.out.keep hb1 X10.out.lt
   replace DA : Hid (DOwn w1 B0 a1 c1 a2 c2 ss ps) := DA.out.below hb1
   replace KA : Hid (KRow w1 ak ks) := KA.out.below hb1
   replace b0 : Hid (Below w.heap.size w w1) := b0.out.trans (hb1.mono b0.out.size)
   replace LA : Hid (SRow w1 al ts) := LA.out.below hb1
   have D1 : Hid (DOwn w1 (w.heap.size + 1 + 1) y1 y2 y3 y4 SW ps) := by rw [hzz]; exact hd1
   clear hd1 hb1 g0 g1
   have hba : Below w1.heap.size w1 (w1.alloc (.cells #[.slice y1 SW.length y2, .slice y3 ps.length y4] 27)) := (belowRefl w1).alloc (Nat.le_refl _) _
   replace X5 : Hid (Bx (w1.alloc (.cells #[.slice y1 SW.length y2, .slice y3 ps.length y4] 27)) w.heap.size (.slice a1 ss.length c1) (.slice a2 ps.length c2)) := X5.out.keep hba X5.out.lt
   replace X10 : Hid (Bx (w1.alloc (.cells #[.slice y1 SW.length y2, .slice y3 ps.length y4] 27)) (w.heap.size + 1) (.slice none 0 0) (.slice none 0 0)) := X10.out.keep hba X10.out.lt
   replace DA : Hid (DOwn (w1.alloc (.cells #[.slice y1 SW.length y2, .slice y3 ps.length y4] 27)) B0 a1 c1 a2 c2 ss ps) := DA.out.below hba
   replace KA : Hid (KRow (w1.alloc (.cells #[.slice y1 SW.length y2, .slice y3 ps.length y4] 27)) ak ks) := KA.out.below hba
   replace b0 : Hid (Below w.heap.size w (w1.alloc (.cells #[.slice y1 SW.length y2, .slice y3 ps.length y4] 27))) := b0.out.trans (hba.mono b0.out.size)
   replace LA : Hid (SRow (w1.alloc (.cells #[.slice y1 SW.length y2, .slice y3 ps.length y4] 27)) al ts) := LA.out.below hba
   replace D1 : Hid (DOwn (w1.alloc (.cells #[.slice y1 SW.length y2, .slice y3 ps.length y4] 27)) (w.heap.size + 1 + 1) y1 y2 y3 y4 SW ps) := D1.out.below hba
   have X11 : Hid (Bx (w1.alloc (.cells #[.slice y1 SW.length y2, .slice y3 ps.length y4] 27)) w1.heap.size (.slice y1 SW.length y2) (.slice y3 ps.length y4)) := Bx.new w1 _ _ 27
   clear hba
   have g0 := X5.out.c0
   have g1 := X5.out.c1
   go_wp2_with fail
   generalize (w1.alloc (.cells #[.slice y1 SW.length y2, .slice y3 ps.length y4] 27)) = v1 at *
   generalize w1.heap.size = B11 at *
   refine (HFI.out _ _ _ _ _ _ DA.out LA.out).mono ?_
   rintro e w3 ⟨x1, x2, x3, x4, rfl, hd3, hb3⟩
   have hz3 : w.heap.size + 1 + 1 ≤ v1.heap.size := X10.out.lt
   replace X5 : Hid (Bx w3 w.heap.size (.slice a1 ss.length c1) (.slice a2 ps.length c2)) := X5.out.keep hb3 X5.out.lt
   replace X10 : Hid (Bx w3 (w.heap.size + 1) (.slice none 0 0) (.slice none 0 0)) := X10.out.keep hb3 X10.out.lt
   replace DA : Hid (DOwn w3 B0 a1 c1 a2 c2 ss ps) := DA.out.below hb3
   replace KA : Hid (KRow w3 ak ks) := KA.out.below hb3
   replace b0 : Hid (Below w.heap.size w w3) := b0.out.trans (hb3.mono b0.out.size)
   replace LA : Hid (SRow w3 al ts) := LA.out.below hb3
   replace D1 : Hid (DOwn w3 (w.heap.size + 1 + 1) y1 y2 y3 y4 SW ps) := D1.out.below hb3
   replace X11 : Hid (Bx w3 B11 (.slice y1 SW.length y2) (.slice y3 ps.length y4)) := X11.out.keep hb3 X11.out.lt
   have D3 : Hid (DOwn w3 (w.heap.size + 1 + 1) x1 x2 x3 x4 FS ps) := hd3.mono hz3
   have hneq : Hid (w.heap.size + 1 < w3.heap.size) := X10.out.lt
   clear hd3 hb3 g0 g1
   have hba : Below w3.heap.size w3 (w3.alloc (.cells #[.slice x1 FS.length x2, .slice x3 ps.length x4] 27)) := (belowRefl w3).alloc (Nat.le_refl _) _
   replace X5 : Hid (Bx (w3.alloc (.cells #[.slice x1 FS.length x2, .slice x3 ps.length x4] 27)) w.heap.size (.slice a1 ss.length c1) (.slice a2 ps.length c2)) := X5.out.keep hba X5.out.lt
   replace X10 : Hid (Bx (w3.alloc (.cells #[.slice x1 FS.length x2, .slice x3 ps.length x4] 27)) (w.heap.size + 1) (.slice none 0 0) (.slice none 0 0)) := X10.out.keep hba X10.out.lt
   replace DA : Hid (DOwn (w3.alloc (.cells #[.slice x1 FS.length x2, .slice x3 ps.length x4] 27)) B0 a1 c1 a2 c2 ss ps) := DA.out.below hba
   replace KA : Hid (KRow (w3.alloc (.cells #[.slice x1 FS.length x2, .slice x3 ps.length x4] 27)) ak ks) := KA.out.below hba
   replace b0 : Hid (Below w.heap.size w (w3.alloc (.cells #[.slice x1 FS.length x2, .slice x3 ps.length x4] 27))) := b0.out.trans (hba.mono b0.out.size)
   replace LA : Hid (SRow (w3.alloc (.cells #[.slice x1 FS.length x2, .slice x3 ps.length x4] 27)) al ts) := LA.out.below hba
   replace D1 : Hid (DOwn (w3.alloc (.cells #[.slice x1 FS.length x2, .slice x3 ps.length x4] 27)) (w.heap.size + 1 + 1) y1 y2 y3 y4 SW ps) := D1.out.below hba
   replace X11 : Hid (Bx (w3.alloc (.cells #[.slice x1 FS.length x2, .slice x3 ps.length x4] 27)) B11 (.slice y1 SW.length y2) (.slice y3 ps.length y4)) := X11.out.keep hba X11.out.lt
   replace D3 : Hid (DOwn (w3.alloc (.cells #[.slice x1 FS.length x2, .slice x3 ps.length x4] 27)) (w.heap.size + 1 + 1) x1 x2 x3 x4 FS ps) := D3.out.below hba
   have X13 : Hid (Bx (w3.alloc (.cells #[.slice x1 FS.length x2, .slice x3 ps.length x4] 27)) w3.heap.size (.slice x1 FS.length x2) (.slice x3 ps.length x4)) := Bx.new w3 _ _ 27
   clear hba
   have g0 := X13.out.c0
   have g1 := X13.out.c1
   go_wp2_with fail
   generalize (w3.alloc (.cells #[.slice x1 FS.length x2, .slice x3 ps.length x4] 27)) = v3 at *
   generalize w3.heap.size = B13 at *
   refine (HTU.out _ _ _ _ _ _ D3.out).mono ?_
   rintro e w4 ⟨u1, u2, u3, u4, rfl, hd4, hk4, hb4⟩
   have hz4 : w.heap.size + 1 + 1 ≤ v3.heap.size := X10.out.lt
   replace X5 : Hid (Bx w4 w.heap.size (.slice a1 ss.length c1) (.slice a2 ps.length c2)) := X5.out.keep hb4 X5.out.lt
   replace X10 : Hid (Bx w4 (w.heap.size + 1) (.slice none 0 0) (.slice none 0 0)) := X10.out.keep hb4 X10.out.lt
   replace DA : Hid (DOwn w4 B0 a1 c1 a2 c2 ss ps) := DA.out.below hb4
   replace KA : Hid (KRow w4 ak ks) := KA.out.below hb4
   replace b0 : Hid (Below w.heap.size w w4) := b0.out.trans (hb4.mono b0.out.size)
   replace LA : Hid (SRow w4 al ts) := LA.out.below hb4
   replace D1 : Hid (DOwn w4 (w.heap.size + 1 + 1) y1 y2 y3 y4 SW ps) := D1.out.below hb4
   replace X11 : Hid (Bx w4 B11 (.slice y1 SW.length y2) (.slice y3 ps.length y4)) := X11.out.keep hb4 X11.out.lt
   replace D3 : Hid (DOwn w4 (w.heap.size + 1 + 1) x1 x2 x3 x4 FS ps) := D3.out.below hb4
   replace X13 : Hid (Bx w4 B13 (.slice x1 FS.length x2) (.slice x3 ps.length x4)) := X13.out.keep hb4 X13.out.lt
   have D4 : Hid (DOwn w4 (w.heap.size + 1 + 1) u1 u2 u3 u4 FS TW) := hd4.mono hz4
   clear hd4 hb4 g0 g1
   have hba : Below w4.heap.size w4 (w4.alloc (.cells #[.slice u1 FS.length u2, .slice u3 TW.length u4] 27)) := (belowRefl w4).alloc (Nat.le_refl _) _
   replace X5 : Hid (Bx (w4.alloc (.cells #[.slice u1 FS.length u2, .slice u3 TW.length u4] 27)) w.heap.size (.slice a1 ss.length c1) (.slice a2 ps.length c2)) := X5.out.keep hba X5.out.lt
   replace X10 : Hid (Bx (w4.alloc (.cells #[.slice u1 FS.length u2, .slice u3 TW.length u4] 27)) (w.heap.size + 1) (.slice none 0 0) (.slice none 0 0)) := X10.out.keep hba X10.out.lt
   replace DA : Hid (DOwn (w4.alloc (.cells #[.slice u1 FS.length u2, .slice u3 TW.length u4] 27)) B0 a1 c1 a2 c2 ss ps) := DA.out.below hba
   replace KA : Hid (KRow (w4.alloc (.cells #[.slice u1 FS.length u2, .slice u3 TW.length u4] 27)) ak ks) := KA.out.below hba
   replace b0 : Hid (Below w.heap.size w (w4.alloc (.cells #[.slice u1 FS.length u2, .slice u3 TW.length u4] 27))) := b0.out.trans (hba.mono b0.out.size)
   replace LA : Hid (SRow (w4.alloc (.cells #[.slice u1 FS.length u2, .slice u3 TW.length u4] 27)) al ts) := LA.out.below hba
   replace D1 : Hid (DOwn (w4.alloc (.cells #[.slice u1 FS.length u2, .slice u3 TW.length u4] 27)) (w.heap.size + 1 + 1) y1 y2 y3 y4 SW ps) := D1.out.below hba
   replace X11 : Hid (Bx (w4.alloc (.cells #[.slice u1 FS.length u2, .slice u3 TW.length u4] 27)) B11 (.slice y1 SW.length y2) (.slice y3 ps.length y4)) := X11.out.keep hba X11.out.lt
   replace D3 : Hid (DOwn (w4.alloc (.cells #[.slice u1 FS.length u2, .slice u3 TW.length u4] 27)) (w.heap.size + 1 + 1) x1 x2 x3 x4 FS ps) := D3.out.below hba
   replace X13 : Hid (Bx (w4.alloc (.cells #[.slice u1 FS.length u2, .slice u3 TW.length u4] 27)) B13 (.slice x1 FS.length x2) (.slice x3 ps.length x4)) := X13.out.keep hba X13.out.lt
   replace D4 : Hid (DOwn (w4.alloc (.cells #[.slice u1 FS.length u2, .slice u3 TW.length u4] 27)) (w.heap.size + 1 + 1) u1 u2 u3 u4 FS TW) := D4.out.below hba
   have X17 : Hid (Bx (w4.alloc (.cells #[.slice u1 FS.length u2, .slice u3 TW.length u4] 27)) w4.heap.size (.slice u1 FS.length u2) (.slice u3 TW.length u4)) := Bx.new w4 _ _ 27
   clear hba
   have g0 := X17.out.c0
   have g1 := X17.out.c1
   go_wp2_with fail
   generalize (w4.alloc (.cells #[.slice u1 FS.length u2, .slice u3 TW.length u4] 27)) = v4 at *
   generalize w4.heap.size = B17 at *
   refine (HCR.out hk4 _ _ _ _ _ _ D4.out KA.out).mono ?_
   rintro e w9 ⟨v1, v2, v5, v6, rfl, hd9, hb9⟩
   have hz9 : w.heap.size + 1 + 1 ≤ v4.heap.size := X10.out.lt
   replace X5 : Hid (Bx w9 w.heap.size (.slice a1 ss.length c1) (.slice a2 ps.length c2)) := X5.out.keep hb9 X5.out.lt
   replace X10 : Hid (Bx w9 (w.heap.size + 1) (.slice none 0 0) (.slice none 0 0)) := X10.out.keep hb9 X10.out.lt
   replace DA : Hid (DOwn w9 B0 a1 c1 a2 c2 ss ps) := DA.out.below hb9
   replace KA : Hid (KRow w9 ak ks) := KA.out.below hb9
   replace b0 : Hid (Below w.heap.size w w9) := b0.out.trans (hb9.mono b0.out.size)
   replace LA : Hid (SRow w9 al ts) := LA.out.below hb9
   replace D1 : Hid (DOwn w9 (w.heap.size + 1 + 1) y1 y2 y3 y4 SW ps) := D1.out.below hb9
   replace X11 : Hid (Bx w9 B11 (.slice y1 SW.length y2) (.slice y3 ps.length y4)) := X11.out.keep hb9 X11.out.lt
   replace D3 : Hid (DOwn w9 (w.heap.size + 1 + 1) x1 x2 x3 x4 FS ps) := D3.out.below hb9
   replace X13 : Hid (Bx w9 B13 (.slice x1 FS.length x2) (.slice x3 ps.length x4)) := X13.out.keep hb9 X13.out.lt
   replace D4 : Hid (DOwn w9 (w.heap.size + 1 + 1) u1 u2 u3 u4 FS TW) := D4.out.below hb9
   replace X17 : Hid (Bx w9 B17 (.slice u1 FS.length u2) (.slice u3 TW.length u4)) := X17.out.keep hb9 X17.out.lt
   have D9 : Hid (DOwn w9 (w.heap.size + 1 + 1) v1 v2 v5 v6 CR ps) := hd9.mono hz9
   clear hd9 hb9 g0 g1
   have r0 := X10.out.c0
   have r1 := X10.out.c1
   have rf := X10.out.fz
   have V9 : Hid (Bx ((w9.setCell ⟨w.heap.size + 1, 0, none⟩ (.slice v1 CR.length v2)).setCell ⟨w.heap.size + 1, 1, none⟩ (.slice v5 ps.length v6)) (w.heap.size + 1) (.slice v1 CR.length v2) (.slice v5 ps.length v6)) := (X10.out.set0 _).set1 _
   have q0 := V9.out.c0
   have q1 := V9.out.c1
   go_wp2
   refine bodyPost_ret (v := .agg #[.slice v1 CR.length v2, .slice v5 ps.length v6]) (by simp [results, Tryz.results13, go_sem, q0, q1]) rfl ⟨v1, v2, v5, v6, rfl, ⟨?_, ?_⟩, ?_⟩
   ·exact ((D9.out.s.set (by show w.heap.size + 1 < _; omega) _).set (by show w.heap.size + 1 < _; omega) _).mono (by omega)
   ·exact ((D9.out.p.set (by show w.heap.size + 1 < _; omega) _).set (by show w.heap.size + 1 < _; omega) _).mono (by omega)
   ·exact (b0.out.setCell (by show _ ≤ w.heap.size + 1; omega) _).setCell (by show _ ≤ w.heap.size + 1; omega) _
  ·skip
   have hR : csS ss ps ts st ks tr = SW := by rw [csS_3 hB h0 h1 h2, hSW]
   rw [hR]
   have e0 : (st == 0) = false := by simp [h0]
   have e1 : (st == 1) = false := by simp [h1]
   have e2 : (st == 2) = false := by simp [h2]
   have b0 : Hid (Below w.heap.size w ((w.alloc (.cells #[.slice a1 ss.length c1, .slice a2 ps.length c2] 27)).alloc (.cells #[.slice none 0 0, .slice none 0 0] 27))) := ((belowRefl w).alloc (Nat.le_refl _) _).alloc (by simp) _
   have hzz : w.heap.size + 1 + 1 = ((w.alloc (.cells #[.slice a1 ss.length c1, .slice a2 ps.length c2] 27)).alloc (.cells #[.slice none 0 0, .slice none 0 0] 27)).heap.size := by simp
   have X5 : Hid (Bx ((w.alloc (.cells #[.slice a1 ss.length c1, .slice a2 ps.length c2] 27)).alloc (.cells #[.slice none 0 0, .slice none 0 0] 27)) w.heap.size (.slice a1 ss.length c1) (.slice a2 ps.length c2)) := (Bx.new w _ _ _).alloc _
   have X10 : Hid (Bx ((w.alloc (.cells #[.slice a1 ss.length c1, .slice a2 ps.length c2] 27)).alloc (.cells #[.slice none 0 0, .slice none 0 0] 27)) (w.heap.size + 1) (.slice none 0 0) (.slice none 0 0)) := by
    have h := Bx.new (w.alloc (.cells #[.slice a1 ss.length c1, .slice a2 ps.length c2] 27)) (.slice none 0 0) (.slice none 0 0) 27
    rw [World.size_alloc] at h
    exact h
   have DA : Hid (DOwn ((w.alloc (.cells #[.slice a1 ss.length c1, .slice a2 ps.length c2] 27)).alloc (.cells #[.slice none 0 0, .slice none 0 0] 27)) B0 a1 c1 a2 c2 ss ps) := hd.below b0.out
   have HK0 : Hid (KRow w ak ks) := hk
   have KA : Hid (KRow ((w.alloc (.cells #[.slice a1 ss.length c1, .slice a2 ps.length c2] 27)).alloc (.cells #[.slice none 0 0, .slice none 0 0] 27)) ak ks) := hk.below b0.out
   replace b0 := b0
   have HL0 : Hid (SRow w al ts) := hl
   have LA : Hid (SRow ((w.alloc (.cells #[.slice a1 ss.length c1, .slice a2 ps.length c2] 27)).alloc (.cells #[.slice none 0 0, .slice none 0 0] 27)) al ts) := hl.below b0.out
   clear hs hp hts hB hlog hfb hlp hfl hok hA hA2 hac hFS hSW hd hk hl hR
   have g0 := X5.out.c0
   have g1 := X5.out.c1
   go_enter Tryz.func13, Tryz.ntmps13
   go_wp2_with fail
   generalize ((w.alloc (.cells #[.slice a1 ss.length c1, .slice a2 ps.length c2] 27)).alloc (.cells #[.slice none 0 0, .slice none 0 0] 27)) = v0 at *
   refine (HSW.out _ _ _ _ _ _ DA.out LA.out).mono ?_
   rintro e w1 ⟨y1, y2, y3, y4, rfl, hd1, hb1⟩
   replace X5 : Hid (Bx w1 w.heap.size (.slice a1 ss.length c1) (.slice a2 ps.length c2)) := X5.out.keep hb1 X5.out.lt
   replace X10 : Hid (Bx w1 (w.heap.size + 1) (.slice none 0 0) (.slice none 0 0)) := X10.out.keep hb1 X10.out.lt
   replace DA : Hid (DOwn w1 B0 a1 c1 a2 c2 ss ps) := DA.out.below hb1
   replace KA : Hid (KRow w1 ak ks) := KA.out.below hb1
   replace b0 : Hid (Below w.heap.size w w1) := b0.out.trans (hb1.mono b0.out.size)
   replace LA : Hid (SRow w1 al ts) := LA.out.below hb1
   have D1 : Hid (DOwn w1 (w.heap.size + 1 + 1) y1 y2 y3 y4 SW ps) := by rw [hzz]; exact hd1
   clear hd1 hb1 g0 g1
   have hba : Below w1.heap.size w1 (w1.alloc (.cells #[.slice y1 SW.length y2, .slice y3 ps.length y4] 27)) := (belowRefl w1).alloc (Nat.le_refl _) _
   replace X5 : Hid (Bx (w1.alloc (.cells #[.slice y1 SW.length y2, .slice y3 ps.length y4] 27)) w.heap.size (.slice a1 ss.length c1) (.slice a2 ps.length c2)) := X5.out.keep hba X5.out.lt
   replace X10 : Hid (Bx (w1.alloc (.cells #[.slice y1 SW.length y2, .slice y3 ps.length y4] 27)) (w.heap.size + 1) (.slice none 0 0) (.slice none 0 0)) := X10.out.keep hba X10.out.lt
   replace DA : Hid (DOwn (w1.alloc (.cells #[.slice y1 SW.length y2, .slice y3 ps.length y4] 27)) B0 a1 c1 a2 c2 ss ps) := DA.out.below hba
   replace KA : Hid (KRow (w1.alloc (.cells #[.slice y1 SW.length y2, .slice y3 ps.length y4] 27)) ak ks) := KA.out.below hba
   replace b0 : Hid (Below w.heap.size w (w1.alloc (.cells #[.slice y1 SW.length y2, .slice y3 ps.length y4] 27))) := b0.out.trans (hba.mono b0.out.size)
   replace LA : Hid (SRow (w1.alloc (.cells #[.slice y1 SW.length y2, .slice y3 ps.length y4] 27)) al ts) := LA.out.below hba
   replace D1 : Hid (DOwn (w1.alloc (.cells #[.slice y1 SW.length y2, .slice y3 ps.length y4] 27)) (w.heap.size + 1 + 1) y1 y2 y3 y4 SW ps) := D1.out.below hba
   have X11 : Hid (Bx (w1.alloc (.cells #[.slice y1 SW.length y2, .slice y3 ps.length y4] 27)) w1.heap.size (.slice y1 SW.length y2) (.slice y3 ps.length y4)) := Bx.new w1 _ _ 27
   clear hba
   have g0 := X5.out.c0
   have g1 := X5.out.c1
   go_wp2_with fail
   generalize (w1.alloc (.cells #[.slice y1 SW.length y2, .slice y3 ps.length y4] 27)) = v1 at *
   generalize w1.heap.size = B11 at *
   refine (HFI.out _ _ _ _ _ _ DA.out LA.out).mono ?_
   rintro e w3 ⟨x1, x2, x3, x4, rfl, hd3, hb3⟩
   have hz3 : w.heap.size + 1 + 1 ≤ v1.heap.size := X10.out.lt
   replace X5 : Hid (Bx w3 w.heap.size (.slice a1 ss.length c1) (.slice a2 ps.length c2)) := X5.out.keep hb3 X5.out.lt
   replace X10 : Hid (Bx w3 (w.heap.size + 1) (.slice none 0 0) (.slice none 0 0)) := X10.out.keep hb3 X10.out.lt
   replace DA : Hid (DOwn w3 B0 a1 c1 a2 c2 ss ps) := DA.out.below hb3
   replace KA : Hid (KRow w3 ak ks) := KA.out.below hb3
   replace b0 : Hid (Below w.heap.size w w3) := b0.out.trans (hb3.mono b0.out.size)
   replace LA : Hid (SRow w3 al ts) := LA.out.below hb3
   replace D1 : Hid (DOwn w3 (w.heap.size + 1 + 1) y1 y2 y3 y4 SW ps) := D1.out.below hb3
   replace X11 : Hid (Bx w3 B11 (.slice y1 SW.length y2) (.slice y3 ps.length y4)) := X11.out.keep hb3 X11.out.lt
   have D3 : Hid (DOwn w3 (w.heap.size + 1 + 1) x1 x2 x3 x4 FS ps) := hd3.mono hz3
   have hneq : Hid (w.heap.size + 1 < w3.heap.size) := X10.out.lt
   clear hd3 hb3 g0 g1
   have hba : Below w3.heap.size w3 (w3.alloc (.cells #[.slice x1 FS.length x2, .slice x3 ps.length x4] 27)) := (belowRefl w3).alloc (Nat.le_refl _) _
   replace X5 : Hid (Bx (w3.alloc (.cells #[.slice x1 FS.length x2, .slice x3 ps.length x4] 27)) w.heap.size (.slice a1 ss.length c1) (.slice a2 ps.length c2)) := X5.out.keep hba X5.out.lt
   replace X10 : Hid (Bx (w3.alloc (.cells #[.slice x1 FS.length x2, .slice x3 ps.length x4] 27)) (w.heap.size + 1) (.slice none 0 0) (.slice none 0 0)) := X10.out.keep hba X10.out.lt
   replace DA : Hid (DOwn (w3.alloc (.cells #[.slice x1 FS.length x2, .slice x3 ps.length x4] 27)) B0 a1 c1 a2 c2 ss ps) := DA.out.below hba
   replace KA : Hid (KRow (w3.alloc (.cells #[.slice x1 FS.length x2, .slice x3 ps.length x4] 27)) ak ks) := KA.out.below hba
   replace b0 : Hid (Below w.heap.size w (w3.alloc (.cells #[.slice x1 FS.length x2, .slice x3 ps.length x4] 27))) := b0.out.trans (hba.mono b0.out.size)
   replace LA : Hid (SRow (w3.alloc (.cells #[.slice x1 FS.length x2, .slice x3 ps.length x4] 27)) al ts) := LA.out.below hba
   replace D1 : Hid (DOwn (w3.alloc (.cells #[.slice x1 FS.length x2, .slice x3 ps.length x4] 27)) (w.heap.size + 1 + 1) y1 y2 y3 y4 SW ps) := D1.out.below hba
   replace X11 : Hid (Bx (w3.alloc (.cells #[.slice x1 FS.length x2, .slice x3 ps.length x4] 27)) B11 (.slice y1 SW.length y2) (.slice y3 ps.length y4)) := X11.out.keep hba X11.out.lt
   replace D3 : Hid (DOwn (w3.alloc (.cells #[.slice x1 FS.length x2, .slice x3 ps.length x4] 27)) (w.heap.size + 1 + 1) x1 x2 x3 x4 FS ps) := D3.out.below hba
   have X13 : Hid (Bx (w3.alloc (.cells #[.slice x1 FS.length x2, .slice x3 ps.length x4] 27)) w3.heap.size (.slice x1 FS.length x2) (.slice x3 ps.length x4)) := Bx.new w3 _ _ 27
   clear hba
   have g0 := X11.out.c0
   have g1 := X11.out.c1
   have r0 := X10.out.c0
   have r1 := X10.out.c1
   have rf := X10.out.fz
   have V9 : Hid (Bx (((w3.alloc (.cells #[.slice x1 FS.length x2, .slice x3 ps.length x4] 27)).setCell ⟨w.heap.size + 1, 0, none⟩ (.slice y1 SW.length y2)).setCell ⟨w.heap.size + 1, 1, none⟩ (.slice y3 ps.length y4)) (w.heap.size + 1) (.slice y1 SW.length y2) (.slice y3 ps.length y4)) := (X10.out.set0 _).set1 _
   have q0 := V9.out.c0
   have q1 := V9.out.c1
   go_wp2
   refine bodyPost_ret (v := .agg #[.slice y1 SW.length y2, .slice y3 ps.length y4]) (by simp [results, Tryz.results13, go_sem, q0, q1]) rfl ⟨y1, y2, y3, y4, rfl, ⟨?_, ?_⟩, ?_⟩
   ·exact ((D1.out.s.set (by show w.heap.size + 1 < _; omega) _).set (by show w.heap.size + 1 < _; omega) _).mono (by omega)
   ·exact ((D1.out.p.set (by show w.heap.size + 1 < _; omega) _).set (by show w.heap.size + 1 < _; omega) _).mono (by omega)
   ·exact (b0.out.setCell (by show _ ≤ w.heap.size + 1; omega) _).setCell (by show _ ≤ w.heap.size + 1; omega) _

end Go.Proofs.YtekjpoenbcnhdaaGreat

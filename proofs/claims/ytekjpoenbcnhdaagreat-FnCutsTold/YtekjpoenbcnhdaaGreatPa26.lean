/- What impl.CrashDisk returns. -/
import Derived.Test.YtekjpoenbcnhdaaGreatPa25
import Derived.Test.YtekjpoenbcnhdaaGreatPa08
namespace Go.Proofs.YtekjpoenbcnhdaaGreat
open Go.RowKit
open DM
attribute [local go_sem ↓] Go.wp_at_zero Go.wp_at_succ

def tornL (ws : List Wr) (n : Nat) : List Wr := ws.set (ws.length - 1) ((ws.getD (ws.length - 1) (0, ByteArray.empty)).1, (ws.getD (ws.length - 1) (0, ByteArray.empty)).2.extract 0 n)
theorem tornL_len (ws : List Wr) (n : Nat) : (tornL ws n).length = ws.length := by simp [tornL]
theorem tornL_nil (n : Nat) : tornL [] n = [] := rfl
theorem tornL_last (ws : List Wr) (n l : Nat) (h : ws.length = l + 1) : tornL ws n = ws.set l ((ws[l]'(by omega)).1, (ws[l]'(by omega)).2.extract 0 n) := by
 have e : ws.length - 1 = l := by omega
 have hl : l < ws.length := by omega
 unfold tornL
 rw [e]
 simp [hl]
theorem pcs_set1 : ∀ (ws : List Wr) (i : Nat) (hi : i < ws.length) (t : ByteArray), pcs (ws.set i (ws[i].1, t)) = (pcs ws).set (i * 2 + 1) (.string t)
 | p :: ws, 0, _, t => rfl
 | p :: ws, i + 1, h, t => by
  have hi : i < ws.length := by simpa using h
  have := pcs_set1 ws i hi t
  show pc p ++ pcs (ws.set i (ws[i].1, t)) = (pc p ++ pcs ws).set ((i + 1) * 2 + 1) (.string t)
  rw [this, List.set_append_right _ _ (by simp [pc]; omega)]
  simp only [pc, List.length_cons, List.length_nil]
  rw [show (i + 1) * 2 + 1 - (0 + 1 + 1) = i * 2 + 1 by omega]

def crK (ps : List Wr) (ks : List Int) (t : Int) : List Wr := tornL (chs ps ks ps.length) (t % 65).toNat
def crS (ss : List ByteArray) (ps : List Wr) (ks : List Int) (t : Int) : List ByteArray := if okB ss ps = true then txs (wrt (bys ss) (crK ps ks t)) else ss
theorem crS_yes {ss : List ByteArray} {ps : List Wr} {ks : List Int} {t : Int} (h : okB ss ps = true) : crS ss ps ks t = txs (wrt (bys ss) (crK ps ks t)) := if_pos h
theorem crS_no {ss : List ByteArray} {ps : List Wr} {ks : List Int} {t : Int} (h : okB ss ps = false) : crS ss ps ks t = ss := if_neg (by simp [h])

theorem tornL_ok {ws : List Wr} {n m : Nat} (h : ∀ p ∈ ws, 0 ≤ p.1 ∧ p.1 < (m : Int) ∧ p.2.size = 64) : WOk (tornL ws n) m := fun p hp => by
 unfold tornL at hp
 rcases List.mem_or_eq_of_mem_set hp with h1 | h1
 ·have := h p h1
  exact ⟨this.1, this.2.1, by omega⟩
 ·by_cases h0 : ws.length = 0
  ·have : ws = [] := List.length_eq_zero_iff.1 h0
   subst this
   simp at hp
  ·have hl : ws.length - 1 < ws.length := by omega
   have e : ws.getD (ws.length - 1) (0, ByteArray.empty) = ws[ws.length - 1] := by simp [hl]
   rw [e] at h1
   have := h _ (List.getElem_mem hl)
   rw [h1]
   refine ⟨this.1, this.2.1, ?_⟩
   have hs : (ws[ws.length - 1].2.extract 0 n).size = min n ws[ws.length - 1].2.size - 0 := ByteArray.size_extract
   show (ws[ws.length - 1].2.extract 0 n).size ≤ 64
   omega

set_option maxRecDepth 100000 in
set_option maxHeartbeats 4000000 in
theorem icrash23 (ss : List ByteArray) (ps : List Wr) (ks : List Int) (t : Int) (a1 a2 ak : Option Addr) (c1 c2 ck : Nat) (hn : ss.length ≤ 90000000) (hm : ps.length ≤ 80000000) (hkl : ks.length ≤ 9223372036854775807) (hls : ∀ s ∈ ss, s.size ≤ 1000000000) (hlp : ∀ p ∈ ps, p.2.size ≤ 1000000000) (w : World) (hs : SRow w a1 ss) (hp : PRow w a2 ps) (hk : KRow w ak ks) :
  Calls Tryz.prog 35 #[.agg #[.slice a1 ss.length c1, .slice a2 ps.length c2], .slice ak ks.length ck, .int .i64 t] w fun e w' => ∃ b1 d1 b2 d2, e = .returned (.agg #[.slice b1 (crS ss ps ks t).length d1, .slice b2 (flP ss ps).length d2]) ∧ DOwn w' w.heap.size b1 d1 b2 d2 (crS ss ps ks t) (flP ss ps) ∧ Below w.heap.size w w' := by
 have HS : Hid (SRow w a1 ss) := hs
 have HP : Hid (PRow w a2 ps) := hp
 have HK : Hid (KRow w ak ks) := hk
 have HLS : Hid (∀ s ∈ ss, s.size ≤ 1000000000) := hls
 have HLP : Hid (∀ p ∈ ps, p.2.size ≤ 1000000000) := hlp
 clear hs hp hls hlp hk
 have b0 : Hid (Below w.heap.size w ((w.alloc (.cells #[.slice a1 ss.length c1, .slice a2 ps.length c2] 27)).alloc (.cells #[.slice none 0 0, .slice none 0 0] 27))) := ((belowRefl w).alloc (Nat.le_refl _) _).alloc (by simp) _
 have X0 : Hid (Bx ((w.alloc (.cells #[.slice a1 ss.length c1, .slice a2 ps.length c2] 27)).alloc (.cells #[.slice none 0 0, .slice none 0 0] 27)) w.heap.size (.slice a1 ss.length c1) (.slice a2 ps.length c2)) := (Bx.new w _ _ _).alloc _
 have X1 : Hid (Bx ((w.alloc (.cells #[.slice a1 ss.length c1, .slice a2 ps.length c2] 27)).alloc (.cells #[.slice none 0 0, .slice none 0 0] 27)) (w.heap.size + 1) (.slice none 0 0) (.slice none 0 0)) := by
  have h := Bx.new (w.alloc (.cells #[.slice a1 ss.length c1, .slice a2 ps.length c2] 27)) (.slice none 0 0) (.slice none 0 0) 27
  show Bx _ _ _ _
  simpa using h
 go_enter Tryz.func35, Tryz.ntmps35
 go_wp2_with fail
 refine (iok22 ss ps a1 a2 c1 c2 (by omega) (by omega) _ (HS.out.below b0.out) (HP.out.below b0.out)).mono ?_
 rintro e w1 ⟨rfl, hb1⟩
 have Y0 : Hid (Bx w1 w.heap.size (.slice a1 ss.length c1) (.slice a2 ps.length c2)) := X0.out.keep hb1 X0.out.lt
 have Y1 : Hid (Bx w1 (w.heap.size + 1) (.slice none 0 0) (.slice none 0 0)) := X1.out.keep hb1 X1.out.lt
 have HB1 : Hid (Below w.heap.size w w1) := b0.out.trans (hb1.mono b0.out.size)
 have hz1 : w.heap.size + 1 < w1.heap.size := Y1.out.lt
 clear hb1 X0 X1 b0
 have g0 := Y0.out.c0
 have g1 := Y0.out.c1
 by_cases hok : okB ss ps = true
 ·have HO : Hid (OkD ss ps) := okB_iff.1 hok
  have HE : Hid (txs (wrt (bys ss) (crK ps ks t)) = crS ss ps ks t) := (crS_yes hok).symm
  have HE2 : Hid (flP ss ps = []) := flP_yes hok
  have HBL : Hid ((bys ss).length = ss.length) := bys_len ss
  have hs100 : ss.length ≤ 1000 := by have := HO.out.2.1; omega
  have hp60 : ps.length ≤ 1000 := by have := HO.out.2.2.1; omega
  have HC64 : Hid (∀ p ∈ chs ps ks ps.length, 0 ≤ p.1 ∧ p.1 < (ss.length : Int) ∧ p.2.size = 64) := fun p hp => HO.out.2.2.2.2 p (chs_mem ps ks _ p hp)
  have HCL : Hid ((chs ps ks ps.length).length ≤ 1000) := Nat.le_trans (chs_len ps ks _) hp60
  have HWO : Hid (WOk (crK ps ks t) (bys ss).length) := by show WOk _ _; rw [bys_len]; exact tornL_ok HC64.out
  have HCK : Hid (crK ps ks t = tornL (chs ps ks ps.length) (t % 65).toNat) := rfl
  go_wp2_with fail
  refine (chosen59 ps ks a2 ak c2 ck hp60 hkl _ (HP.out.below HB1.out) (HK.out.below HB1.out)).mono ?_
  rintro e w2 ⟨y1, y2, rfl, hd2, hb2⟩
  have HD2 : Hid (POwn w2 w1.heap.size (.slice y1 (chs ps ks ps.length).length y2) (chs ps ks ps.length)) := hd2
  have HB2 : Hid (Below w.heap.size w w2) := HB1.out.trans (hb2.mono HB1.out.size)
  have U0 : Hid (Bx w2 w.heap.size (.slice a1 ss.length c1) (.slice a2 ps.length c2)) := Y0.out.keep hb2 Y0.out.lt
  have U1 : Hid (Bx w2 (w.heap.size + 1) (.slice none 0 0) (.slice none 0 0)) := Y1.out.keep hb2 Y1.out.lt
  have hz2 : w.heap.size + 1 < w2.heap.size := U1.out.lt
  clear hd2 hb2 g0 g1 Y0 Y1
  generalize crK ps ks t = cw at *
  generalize chs ps ks ps.length = ws at *
  obtain ⟨nt, hnt⟩ := Int.eq_ofNat_of_zero_le (Int.emod_nonneg t (show (65 : Int) ≠ 0 by omega))
  have hnt2 : t % 65 < 65 := Int.emod_lt_of_pos t (by omega)
  have HNT : Hid (t % 65 = (nt : Int)) := hnt
  have hnl : nt ≤ 64 := by rw [hnt] at hnt2; omega
  have HCW : Hid (cw = tornL ws nt) := by have h := HCK.out; rw [hnt] at h; exact h
  clear hnt hnt2 HCK
  have hwl : ws.length ≤ 1000 := HCL.out
  by_cases hl0 : ws.length = 0
  ·have hlt : ¬ (0 : Int) ≤ (ws.length : Int) - 1 := by omega
   have HR : Hid (PRow w2 y1 cw) := by
    have e : ws = [] := List.length_eq_zero_iff.1 hl0
    show PRow _ _ _
    rw [HCW.out, e]
    exact PRow.nil _ _
   have HRL : Hid (cw.length = ws.length) := by show _ = _; rw [HCW.out, tornL_len]
   have HL0 : Hid (ws.length = 0) := hl0
   clear hl0
   have g0 := U0.out.c0
   have g1 := U0.out.c1
   go_wp2_with fail
   refine (secs56 ss (.slice a2 ps.length c2) a1 c1 hs100 HO.out.2.2.2.1 _ (HS.out.below HB2.out)).mono ?_
   rintro e w4 ⟨z1, z2, rfl, hd4, hb4⟩
   have HD4 : Hid (AOwn w4 w2.heap.size (.slice z1 (bys ss).length z2) (bys ss)) := hd4
   have HB4 : Hid (Below w2.heap.size w2 w4) := hb4
   clear hd4 hb4 g0 g1
   go_wp2_with fail
   have c := wrt55 (bys ss) cw z1 y1 z2 y2 (by rw [HBL.out]; exact hs100) (by rw [HRL.out]; exact hwl) HWO.out w2 w4 HB4.out HD4.out HR.out
   rw [HRL.out] at c
   refine c.mono ?_
   clear c
   rintro e w5 ⟨v1, v2, rfl, hs5, hb5⟩
   have HS5 : Hid (SOwn w5 (w.heap.size + 1 + 1) (.slice v1 (crS ss ps ks t).length v2) (crS ss ps ks t)) := by
    have h := hs5
    rw [HE.out] at h
    exact h.mono hz2
   have HLL : Hid ((bys ss).length = (crS ss ps ks t).length) := by show _ = _; rw [← HE.out, txs_len, wrt_len]
   have HB5 : Hid (Below w.heap.size w w5) := HB2.out.trans (hb5.mono HB2.out.size)
   have V1 : Hid (Bx w5 (w.heap.size + 1) (.slice none 0 0) (.slice none 0 0)) := U1.out.keep hb5 U1.out.lt
   have t0 := V1.out.c0
   have t1 := V1.out.c1
   have tf := V1.out.fz
   clear hs5 hb5
   go_wp2
   refine bodyPost_ret (v := .agg #[.slice v1 (bys ss).length v2, .slice none 0 0]) (by simp [results, Tryz.results35, go_sem, t0, t1]) rfl ⟨v1, v2, none, 0, ?_, ⟨?_, ?_⟩, ?_⟩
   ·rw [HE2.out, HLL.out]; rfl
   ·exact ((HS5.out.set (by show w.heap.size + 1 < _; omega) _).set (by show w.heap.size + 1 < _; omega) _).mono (by omega)
   ·rw [HE2.out]; exact POwn.nil _ _
   ·exact (HB5.out.setCell (by show _ ≤ w.heap.size + 1; omega) _).setCell (by show _ ≤ w.heap.size + 1; omega) _
  ·obtain ⟨l, hl⟩ : ∃ l, ws.length = l + 1 := ⟨ws.length - 1, by omega⟩
   have HL : Hid (ws.length = l + 1) := hl
   have hge : (0 : Int) ≤ (ws.length : Int) - 1 := by omega
   have hll : l < ws.length := by omega
   have e1 : (ws.length : Int) - 1 = (l : Int) := by omega
   have hlt : (l : Int) < (ws.length : Int) := by omega
   have h0 : (0 : Int) ≤ (l : Int) := by omega
   obtain ⟨g, rfl, hbg, hgl⟩ := own_form HD2.out (by omega)
   have H64 : Hid ((ws[l]'hll).2.size = 64) := (HC64.out _ (List.getElem_mem hll)).2.2
   have hsz : (nt : Int) ≤ ((ws[l]'hll).2.size : Int) := by rw [H64.out]; omega
   have hnt0 : (0 : Int) ≤ (nt : Int) := by omega
   have HQ : Hid (w2.cell? ⟨g, l * 2 + 1, none⟩ = some (.string (ws[l]'hll).2)) := by
    show _ = _
    rw [World.ownsRow.cellAt HD2.out (l * 2 + 1) (by omega), (pcs_at ws l hll).2]
   have cq := HQ.out
   have cf : w2.frozen? ⟨g, l * 2 + 1, none⟩ = false := World.ownsRow.frozenAt HD2.out (l * 2 + 1)
   have st := World.ownsRow.stored HD2.out (l * 2 + 1) (.string ((ws[l]'hll).2.extract 0 nt))
   have HRL : Hid (cw.length = ws.length) := by show _ = _; rw [HCW.out, tornL_len]
   have HP3 : Hid (POwn (w2.setCell ⟨g, l * 2 + 1, none⟩ (.string ((ws[l]'hll).2.extract 0 nt))) w1.heap.size (.slice (some ⟨g, 0, none⟩) cw.length y2) cw) := by
    show World.ownsRow _ _ _ _ _ _ _
    rw [HRL.out, HCW.out, tornL_last ws nt l HL.out, pcs_set1 ws l hll]
    exact st.1
   have n1 : g ≠ w.heap.size := by omega
   have n2 : g ≠ w.heap.size + 1 := by omega
   have W0 : Hid (Bx (w2.setCell ⟨g, l * 2 + 1, none⟩ (.string ((ws[l]'hll).2.extract 0 nt))) w.heap.size (.slice a1 ss.length c1) (.slice a2 ps.length c2)) := U0.out.setO n1 _
   have W1 : Hid (Bx (w2.setCell ⟨g, l * 2 + 1, none⟩ (.string ((ws[l]'hll).2.extract 0 nt))) (w.heap.size + 1) (.slice none 0 0) (.slice none 0 0)) := U1.out.setO n2 _
   have HB3 : Hid (Below w.heap.size w (w2.setCell ⟨g, l * 2 + 1, none⟩ (.string ((ws[l]'hll).2.extract 0 nt)))) := HB2.out.setCell (by show w.heap.size ≤ g; omega) _
   clear st hl
   go_wp2
   go_region_law ((go_simp; go_at_call 78; refine (left60 _ _).mono ?_; rintro e w3 ⟨rfl, hw3⟩; subst hw3; rw [HNT.out]))
   all_goals
    have W0d : Hid (Bx (w2.setCell ⟨g, l * 2 + 1, none⟩ (.string ((ws[l]'hll).2.extract 0 nt))).drew w.heap.size (.slice a1 ss.length c1) (.slice a2 ps.length c2)) := W0.out.drew
    have W1d : Hid (Bx (w2.setCell ⟨g, l * 2 + 1, none⟩ (.string ((ws[l]'hll).2.extract 0 nt))).drew (w.heap.size + 1) (.slice none 0 0) (.slice none 0 0)) := W1.out.drew
    have HB3d : Hid (Below w.heap.size w (w2.setCell ⟨g, l * 2 + 1, none⟩ (.string ((ws[l]'hll).2.extract 0 nt))).drew) := HB3.out.drew
    have HR : Hid (PRow (w2.setCell ⟨g, l * 2 + 1, none⟩ (.string ((ws[l]'hll).2.extract 0 nt))).drew (some ⟨g, 0, none⟩) cw) := HP3.out.prow
    have hz3 : w.heap.size + 1 + 1 ≤ (w2.setCell ⟨g, l * 2 + 1, none⟩ (.string ((ws[l]'hll).2.extract 0 nt))).drew.heap.size := W1d.out.lt
    clear cq cf W0 W1 HB3 HP3 e1
    generalize (w2.setCell ⟨g, l * 2 + 1, none⟩ (.string ((ws[l]'hll).2.extract 0 nt))).drew = w3 at *
    have g0 := W0d.out.c0
    have g1 := W0d.out.c1
    go_wp2_with fail
    refine (secs56 ss (.slice a2 ps.length c2) a1 c1 hs100 HO.out.2.2.2.1 _ (HS.out.below HB3d.out)).mono ?_
    rintro e w4 ⟨z1, z2, rfl, hd4, hb4⟩
    have HD4 : Hid (AOwn w4 w3.heap.size (.slice z1 (bys ss).length z2) (bys ss)) := hd4
    have HB4 : Hid (Below w3.heap.size w3 w4) := hb4
    clear hd4 hb4 g0 g1
    go_wp2_with fail
    have c := wrt55 (bys ss) cw z1 (some ⟨g, 0, none⟩) z2 y2 (by rw [HBL.out]; exact hs100) (by rw [HRL.out]; exact hwl) HWO.out w3 w4 HB4.out HD4.out HR.out
    rw [HRL.out] at c
    refine c.mono ?_
    clear c
    rintro e w5 ⟨v1, v2, rfl, hs5, hb5⟩
    have HS5 : Hid (SOwn w5 (w.heap.size + 1 + 1) (.slice v1 (crS ss ps ks t).length v2) (crS ss ps ks t)) := by
     have h := hs5
     rw [HE.out] at h
     exact h.mono hz3
    have HLL : Hid ((bys ss).length = (crS ss ps ks t).length) := by show _ = _; rw [← HE.out, txs_len, wrt_len]
    have HB5 : Hid (Below w.heap.size w w5) := HB3d.out.trans (hb5.mono HB3d.out.size)
    have V1 : Hid (Bx w5 (w.heap.size + 1) (.slice none 0 0) (.slice none 0 0)) := W1d.out.keep hb5 W1d.out.lt
    have t0 := V1.out.c0
    have t1 := V1.out.c1
    have tf := V1.out.fz
    clear hs5 hb5
    go_wp2
    refine bodyPost_ret (v := .agg #[.slice v1 (bys ss).length v2, .slice none 0 0]) (by simp [results, Tryz.results35, go_sem, t0, t1]) rfl ⟨v1, v2, none, 0, ?_, ⟨?_, ?_⟩, ?_⟩
    ·rw [HE2.out, HLL.out]; rfl
    ·exact ((HS5.out.set (by show w.heap.size + 1 < _; omega) _).set (by show w.heap.size + 1 < _; omega) _).mono (by omega)
    ·rw [HE2.out]; exact POwn.nil _ _
    ·exact (HB5.out.setCell (by show _ ≤ w.heap.size + 1; omega) _).setCell (by show _ ≤ w.heap.size + 1; omega) _
 ·have hok' : okB ss ps = false := by simpa using hok
  have HE : Hid (crS ss ps ks t = ss) := crS_no hok'
  have HE2 : Hid (flP ss ps = ps) := flP_no hok'
  clear hok
  go_wp2_with fail
  refine (copy53 ss ps a1 a2 c1 c2 hn (by omega) HLS.out HLP.out _ (HS.out.below HB1.out) (HP.out.below HB1.out)).mono ?_
  rintro e w6 ⟨p1, q1, p2, q2, rfl, hd6, hb6⟩
  have HD6 : Hid (DOwn w6 (w.heap.size + 1 + 1) p1 q1 p2 q2 ss ps) := hd6.mono hz1
  have HB6 : Hid (Below w.heap.size w w6) := HB1.out.trans (hb6.mono HB1.out.size)
  have R1 : Hid (Bx w6 (w.heap.size + 1) (.slice none 0 0) (.slice none 0 0)) := Y1.out.keep hb6 Y1.out.lt
  have t0 := R1.out.c0
  have t1 := R1.out.c1
  have tf := R1.out.fz
  clear hd6 hb6 g0 g1
  go_wp2
  refine bodyPost_ret (v := .agg #[.slice p1 ss.length q1, .slice p2 ps.length q2]) (by simp [results, Tryz.results35, go_sem, t0, t1]) rfl ⟨p1, q1, p2, q2, ?_, ⟨?_, ?_⟩, ?_⟩
  ·rw [HE.out, HE2.out]
  ·rw [HE.out]
   exact ((HD6.out.s.set (by show w.heap.size + 1 < _; omega) _).set (by show w.heap.size + 1 < _; omega) _).mono (by omega)
  ·rw [HE2.out]
   exact ((HD6.out.p.set (by show w.heap.size + 1 < _; omega) _).set (by show w.heap.size + 1 < _; omega) _).mono (by omega)
  ·exact (HB6.out.setCell (by show _ ≤ w.heap.size + 1; omega) _).setCell (by show _ ≤ w.heap.size + 1; omega) _
end Go.Proofs.YtekjpoenbcnhdaaGreat

namespace Go.Proofs.YtekjpoenbcnhdaaGreat
open Go.RowKit
open DM

def lst (ks : List Int) : Nat → Int
 | 0 => -1
 | n + 1 => if oddAt ks n = true then (n : Int) else lst ks n
theorem lst_yes {ks : List Int} {n : Nat} (h : oddAt ks n = true) : lst ks (n + 1) = (n : Int) := if_pos h
theorem lst_no {ks : List Int} {n : Nat} (h : oddAt ks n = false) : lst ks (n + 1) = lst ks n := if_neg (by simp [h])
theorem lst_bd (ks : List Int) : ∀ n, -1 ≤ lst ks n ∧ lst ks n < (n : Int)
 | 0 => by simp [lst]
 | n + 1 => by
  have := lst_bd ks n
  simp only [lst]
  split <;> omega
theorem odd_lt {ks : List Int} {n : Nat} (h : oddAt ks n = true) : n < ks.length := by
 unfold oddAt at h
 split at h
 ·rename_i k hk
  exact (List.getElem?_eq_some_iff.1 hk).1
 ·cases h
theorem odd_out {ks : List Int} {n : Nat} (h : ks.length ≤ n) : oddAt ks n = false := by
 unfold oddAt
 rw [List.getElem?_eq_none h]
theorem lst_out {ks : List Int} {n : Nat} (h : ks.length ≤ n) : ∀ m, n ≤ m → lst ks m = lst ks n
 | 0, hm => by
  obtain rfl : n = 0 := by omega
  rfl
 | m + 1, hm => by
  by_cases e : n = m + 1
  ·subst e; rfl
  ·rw [lst_no (odd_out (by omega))]
   exact lst_out h m (by omega)
theorem lst_odd (ks : List Int) : ∀ n l, lst ks n = (l : Nat) → oddAt ks l = true
 | 0, l, h => by simp [lst] at h
 | n + 1, l, h => by
  simp only [lst] at h
  split at h
  ·rename_i ho
   obtain rfl : n = l := by omega
   exact ho
  ·exact lst_odd ks n l h
theorem lst_last (ks : List Int) : ∀ n j, lst ks n < (j : Nat) → j < n → oddAt ks j = false
 | 0, j, _, h => by omega
 | n + 1, j, h, hj => by
  simp only [lst] at h
  split at h
  ·omega
  ·rename_i ho
   by_cases e : j = n
   ·subst e; simpa using ho
   ·exact lst_last ks n j h (by omega)
theorem chs_same {ps : List Wr} {ks : List Int} {m : Nat} : ∀ n, m ≤ n → (∀ j, m ≤ j → j < n → oddAt ks j = false) → chs ps ks n = chs ps ks m
 | 0, h, _ => by
  obtain rfl : m = 0 := by omega
  rfl
 | n + 1, h, ho => by
  by_cases e : m = n + 1
  ·subst e; rfl
  ·have h1 := chs_same (ps := ps) (ks := ks) n (by omega) (fun j h1 h2 => ho j h1 (by omega))
   have h2 := ho n (by omega) (by omega)
   simp only [chs]
   rw [h1, h2]
   cases ps[n]? <;> simp

theorem cr_none {ss : List ByteArray} {ps : List Wr} {ks : List Int} {t : Int} (hok : okB ss ps = true) (h : lst ks ps.length = -1) : crS ss ps ks t = ss := by
 have h1 : chs ps ks ps.length = [] := chs_same (m := 0) _ (Nat.zero_le _) (fun j _ hj => lst_last ks _ j (by rw [h]; omega) hj)
 rw [crS_yes hok, crK, h1, tornL_nil]
 exact txs_bys ss

theorem tornL_snoc (ws : List Wr) (p : Wr) (n : Nat) : tornL (ws ++ [p]) n = ws ++ [(p.1, p.2.extract 0 n)] := by
 rw [tornL_last (ws ++ [p]) n ws.length (by simp)]
 simp

theorem ba_cat (a b : ByteArray) : (⟨(a.data.toList ++ b.data.toList).toArray⟩ : ByteArray) = a ++ b := by
 apply ByteArray.ext
 simp

theorem cr_last {ss : List ByteArray} {ps : List Wr} {ks : List Int} {t : Int} {l m nt : Nat} (hok : okB ss ps = true) (hl : lst ks ps.length = (l : Int)) (hlt : l < ps.length) (hm : ps[l].1 = (m : Int)) (ht : t % 65 = (nt : Int)) (_hnt : nt ≤ 64) :
  (flush ss (chs ps ks l)).set m (ps[l].2.extract 0 nt ++ ((flush ss (chs ps ks l)).getD m ByteArray.empty).extract nt 64) = crS ss ps ks t := by
 have hO := okB_iff.1 hok
 have ho := lst_odd ks _ l hl
 have h1 : chs ps ks ps.length = chs ps ks l ++ [ps[l]] := by
  rw [chs_same (m := l + 1) _ (by omega) (fun j h1 h2 => lst_last ks _ j (by rw [hl]; omega) h2), chs_yes hlt ho]
 have h64 : ∀ p ∈ chs ps ks l, p.2.size = 64 := fun p hp => (hO.2.2.2.2 p (chs_mem ps ks _ p hp)).2.2
 have hF := flush_64 ss (chs ps ks l) hO.2.2.2.1 h64
 have hpl := hO.2.2.2.2 _ (List.getElem_mem hlt)
 have hml : m < (flush ss (chs ps ks l)).length := by rw [flush_len]; rw [hm] at hpl; omega
 have hrow := hF _ (List.getElem_mem hml)
 rw [crS_yes hok, crK, h1, tornL_snoc, wrt_app, wrt_flush ss (chs ps ks l) hO.2.2.2.1 h64, ht]
 generalize flush ss (chs ps ks l) = G at *
 have hx : (ps[l].2.extract 0 nt).size = nt := by
  have := hpl.2.2
  simp
  omega
 simp only [Int.toNat_natCast, wrt]
 rw [hm]
 have e1 : (bys G).getD ((m : Int)).toNat [] = G[m].data.toList := by simp [bys, hml]
 have e2 : G.getD m ByteArray.empty = G[m] := by simp [hml]
 rw [e1, e2]
 have e3 : putL G[m].data.toList (ps[l].2.extract 0 nt) = (ps[l].2.extract 0 nt).data.toList ++ (G[m].extract nt 64).data.toList := by
  unfold putL
  rw [hx]
  congr 1
  rw [Lib.extract_data, List.take_of_length_le]
  have : G[m].data.toList.length = G[m].size := by simp
  simp only [List.length_drop]
  omega
 rw [e3]
 unfold txs bys
 rw [Int.toNat_natCast, List.map_set, List.map_map]
 have e4 : List.map ((fun r : List UInt8 => (⟨r.toArray⟩ : ByteArray)) ∘ fun s : ByteArray => s.data.toList) G = G := by
  conv => rhs; rw [← List.map_id G]
  apply List.map_congr_left
  intro s _
  rfl
 rw [e4, ba_cat]
end Go.Proofs.YtekjpoenbcnhdaaGreat

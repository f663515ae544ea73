/- What spec.CrashDisk returns. -/
import Derived.Test.YtekjpoenbcnhdaaGreatPa01
import Derived.Test.YtekjpoenbcnhdaaGreatPa26
namespace Go.Proofs.YtekjpoenbcnhdaaGreat
open Go.RowKit
open DM
attribute [local go_sem ↓] Go.wp_at_zero Go.wp_at_succ

set_option maxRecDepth 100000 in
set_option maxHeartbeats 8000000 in
theorem scrash44 (ss : List ByteArray) (ps : List Wr) (ks : List Int) (t : Int) (a1 a2 ak : Option Addr) (c1 c2 ck B0 : Nat) (hn : ss.length ≤ 90000000) (hm : ps.length ≤ 80000000) (hkl : ks.length ≤ 9223372036854775807) (w : World) (hd : DOwn w B0 a1 c1 a2 c2 ss ps) (hk : KRow w ak ks) :
  Calls Tryz.prog 38 #[.agg #[.slice a1 ss.length c1, .slice a2 ps.length c2], .slice ak ks.length ck, .int .i64 t] w fun e w' => ∃ b1 d1 b2 d2, e = .returned (.agg #[.slice b1 (crS ss ps ks t).length d1, .slice b2 (flP ss ps).length d2]) ∧ DOwn w' w.heap.size b1 d1 b2 d2 (crS ss ps ks t) (flP ss ps) ∧ Below w.heap.size w w' := by
 have HD : Hid (DOwn w B0 a1 c1 a2 c2 ss ps) := hd
 clear hd
 have HK : Hid (KRow w ak ks) := hk
 clear hk
 have b0 : Hid (Below w.heap.size w ((w.alloc (.cells #[.slice a1 ss.length c1, .slice a2 ps.length c2] 27)).alloc (.cells #[.slice none 0 0, .slice none 0 0] 27))) := ((belowRefl w).alloc (Nat.le_refl _) _).alloc (by simp) _
 have X0 : Hid (Bx ((w.alloc (.cells #[.slice a1 ss.length c1, .slice a2 ps.length c2] 27)).alloc (.cells #[.slice none 0 0, .slice none 0 0] 27)) w.heap.size (.slice a1 ss.length c1) (.slice a2 ps.length c2)) := (Bx.new w _ _ _).alloc _
 have X1 : Hid (Bx ((w.alloc (.cells #[.slice a1 ss.length c1, .slice a2 ps.length c2] 27)).alloc (.cells #[.slice none 0 0, .slice none 0 0] 27)) (w.heap.size + 1) (.slice none 0 0) (.slice none 0 0)) := by
  have h := Bx.new (w.alloc (.cells #[.slice a1 ss.length c1, .slice a2 ps.length c2] 27)) (.slice none 0 0) (.slice none 0 0) 27
  show Bx _ _ _ _
  simpa using h
 go_enter Tryz.func38, Tryz.ntmps38
 go_wp2_with fail
 refine (copy64 ss ps a1 a2 c1 c2 B0 (by omega) (by omega) _ (HD.out.below b0.out)).mono ?_
 rintro e w1 ⟨b1, d1, b2, d2, rfl, hd1, hb1⟩
 have hz1 : w.heap.size + 1 + 1 ≤ w1.heap.size := by have := hb1.size; simp at this; omega
 have HD1 : Hid (DOwn w1 (w.heap.size + 1 + 1) b1 d1 b2 d2 ss ps) := hd1.mono (by simp)
 have HU : Hid (∀ k, (Value.slice b1 ss.length d1).ownBlock = some k → w.heap.size + 1 + 1 ≤ k ∧ k < w1.heap.size) := World.ownsRow.lt HD1.out.s
 have Y0 : Hid (Bx (w1.alloc (.cells #[.slice b1 ss.length d1, .slice b2 ps.length d2] 27)) w.heap.size (.slice a1 ss.length c1) (.slice a2 ps.length c2)) := (X0.out.keep hb1 X0.out.lt).alloc _
 have Y1 : Hid (Bx (w1.alloc (.cells #[.slice b1 ss.length d1, .slice b2 ps.length d2] 27)) (w.heap.size + 1) (.slice none 0 0) (.slice none 0 0)) := (X1.out.keep hb1 X1.out.lt).alloc _
 have HB1 : Hid (Below w.heap.size w (w1.alloc (.cells #[.slice b1 ss.length d1, .slice b2 ps.length d2] 27))) := (b0.out.trans (hb1.mono b0.out.size)).alloc (by omega) _
 have Z1 : Hid (Bx (w1.alloc (.cells #[.slice b1 ss.length d1, .slice b2 ps.length d2] 27)) w1.heap.size (.slice b1 ss.length d1) (.slice b2 ps.length d2)) := Bx.new _ _ _ _
 have HD2 : Hid (DOwn (w1.alloc (.cells #[.slice b1 ss.length d1, .slice b2 ps.length d2] 27)) (w.heap.size + 1 + 1) b1 d1 b2 d2 ss ps) := ⟨HD1.out.s.alloc _, HD1.out.p.alloc _⟩
 have g0 := Y0.out.c0
 have g1 := Y0.out.c1
 clear hd1 hb1 X0 X1 b0
 go_wp2_with fail
 refine (sok37 ss ps a1 a2 c1 c2 (by omega) (by omega) _ (HD.out.s.srow.below HB1.out) (HD.out.p.prow.below HB1.out)).mono ?_
 rintro e w2 ⟨rfl, hb2⟩
 have HB2 : Hid (Below w.heap.size w w2) := HB1.out.trans (hb2.mono HB1.out.size)
 have V0 : Hid (Bx w2 w.heap.size (.slice a1 ss.length c1) (.slice a2 ps.length c2)) := Y0.out.keep hb2 Y0.out.lt
 have V1 : Hid (Bx w2 (w.heap.size + 1) (.slice none 0 0) (.slice none 0 0)) := Y1.out.keep hb2 Y1.out.lt
 have V2 : Hid (Bx w2 w1.heap.size (.slice b1 ss.length d1) (.slice b2 ps.length d2)) := Z1.out.keep hb2 Z1.out.lt
 have HD3 : Hid (DOwn w2 (w.heap.size + 1 + 1) b1 d1 b2 d2 ss ps) := HD2.out.below hb2
 clear hb2 Y0 Y1 Z1 HD1 HD2 HB1 g0 g1
 by_cases hok : okB ss ps = true
 ·have HO : Hid (OkD ss ps) := okB_iff.1 hok
  have HE2 : Hid (flP ss ps = []) := flP_yes hok
  have hp60 : ps.length ≤ 1000 := by have := HO.out.2.2.1; omega
  have HOK : Hid (okB ss ps = true) := hok
  obtain ⟨nt, hnt⟩ := Int.eq_ofNat_of_zero_le (Int.emod_nonneg t (show (65 : Int) ≠ 0 by omega))
  have hnt2 : t % 65 < 65 := Int.emod_lt_of_pos t (by omega)
  have HNT : Hid (t % 65 = (nt : Int)) := hnt
  have hnl : nt ≤ 64 := by rw [hnt] at hnt2; omega
  have htm : (if t.tmod 65 < 0 then t.tmod 65 + 65 else t.tmod 65) = (nt : Int) := (tmod65 t).trans hnt
  have HTM : Hid ((if t.tmod 65 < 0 then t.tmod 65 + 65 else t.tmod 65) = (nt : Int)) := htm
  clear hnt hnt2 htm
  generalize hXX : w1.heap.size = X at *
  have g1 := V0.out.c1
  go_wp2
  go_loop [8, 9] (fun tl ti => ∃ (k : Nat), k ≤ ps.length ∧ ti = .int .i64 k ∧ tl = .int .i64 (lst ks k)) (fun _ ti => ps.length - (intOf ti).toNat)
  case atStart => exact ⟨0, Nat.zero_le _, rfl, rfl⟩
  case round =>
   obtain ⟨k, hk, rfl, rfl⟩ := hrel
   by_cases hin : k < ps.length ∧ k < ks.length
   ·obtain ⟨hlt, hkk⟩ := hin
    have hlt' : (k : Int) < (ps.length : Int) := by omega
    have hkk' : (k : Int) < (ks.length : Int) := by omega
    have hk0 : (0 : Int) ≤ (k : Int) := by omega
    obtain ⟨kb, koff, rfl, hkb, hkc⟩ := (HK.out.below HB2.out) (by omega)
    have hck := hkc k hkk
    clear hkc
    have hmb1 : -2 < ks[k].tmod 2 := by
     have := Int.lt_tmod_of_pos ks[k] (show (0 : Int) < 2 by omega)
     omega
    have hmb2 : ks[k].tmod 2 < 2 := Int.tmod_lt_of_pos _ (by omega)
    have e1 : IntKind.i64.wrap (ks[k].tmod 2) = ks[k].tmod 2 := by rw [IntKind.wrap_i64]; omega
    by_cases hodd : ks[k].tmod 2 = 0
    ·have ho : (ks[k].tmod 2 != 0) = false := by simpa using hodd
     have HL : Hid (lst ks (k + 1) = lst ks k) := lst_no (by simp [oddAt, hkk, hodd])
     clear hodd
     go_wp2
     go_round
     case rel => exact ⟨k + 1, by omega, by go_num, by rw [HL.out]⟩
     case measure => simp [intOf]; omega
    ·have ho : (ks[k].tmod 2 != 0) = true := by rw [bne_iff_ne]; exact hodd
     have HL : Hid (lst ks (k + 1) = (k : Int)) := lst_yes (by simp [oddAt, hkk, hodd])
     clear hodd
     go_wp2
     go_round
     case rel => exact ⟨k + 1, by omega, by go_num, by rw [HL.out]⟩
     case measure => simp [intOf]; omega
   ·have HLe : Hid (lst ks k = lst ks ps.length) := by
     show _ = _
     by_cases hlt : k < ps.length
     ·exact (lst_out (by omega) _ hk).symm
     ·obtain rfl : k = ps.length := by omega
      rfl
    rw [HLe.out]
    have hLb := lst_bd ks ps.length
    have HST : Hid (ss = if ((0 : Nat) : Int) ≤ lst ks ps.length then flush ss (chs ps ks 0) else crS ss ps ks t) := by
     show _ = _
     split
     ·rfl
     ·exact (cr_none HOK.out (by omega)).symm
    have HLL0 : Hid (lst ks ps.length = lst ks ps.length) := rfl
    obtain ⟨L, hLd⟩ : ∃ L, L = lst ks ps.length := ⟨_, rfl⟩
    rw [← hLd] at hLb HST
    have HLL : Hid (lst ks ps.length = L) := hLd.symm
    rw [← hLd]
    clear hLd HLL0 HLe
    have hL1 := hLb.1
    have hL2 := hLb.2
    clear hLb
    by_cases hneg : t.tmod 65 < 0
    ·have hr : t.tmod 65 = (nt : Int) - 65 := by have h := HTM.out; rw [if_pos hneg] at h; omega
     by_cases hlt : k < ps.length
     ·have hlt' : (k : Int) < (ps.length : Int) := by omega
      have hkk' : decide ((k : Int) < (ks.length : Int)) = false := by simp; omega
      go_wp2
      rw [show ((nt : Int) - 65 + 64 + 1) = (nt : Int) by omega]
      go_loopw [11] (fun ti wr => ∃ (k : Nat) (ls : List ByteArray), (k : Int) ≤ L + 1 ∧ ti = .int .i64 k ∧ Hid (ls = if (k : Int) ≤ L then flush ss (chs ps ks k) else crS ss ps ks t) ∧ Hid (ls.length = ss.length) ∧ Hid (Below w.heap.size w wr) ∧ Hid (Bx wr w.heap.size (.slice a1 ss.length c1) (.slice a2 ps.length c2)) ∧ Hid (Bx wr (w.heap.size + 1) (.slice none 0 0) (.slice none 0 0)) ∧ Hid (Bx wr X (.slice b1 ss.length d1) (.slice b2 ps.length d2)) ∧ Hid (wr.ownsRow (w.heap.size + 1 + 1) 9 1 (.slice b1 ss.length d1) ss.length (scs ls))) (fun ti _ => (L + 1 - intOf ti).toNat)
      case atStart => exact ⟨0, ss, by omega, rfl, HST, rfl, HB2, V0, V1, V2, HD3.out.s⟩
      case round =>
       clear HB2 V0 V1 V2 HD3 HST
       obtain ⟨k, ls, hk, rfl, HR, HRL, HB, V0, V1, V2, HW⟩ := hrel
       have q1 := V0.out.c1
       by_cases hle : (k : Int) ≤ L
       ·obtain ⟨l, hl⟩ := Int.eq_ofNat_of_zero_le (show 0 ≤ L by omega)
        have HLq : Hid (lst ks ps.length = (l : Int)) := HLL.out.trans hl
        have HOD : Hid (oddAt ks l = true) := lst_odd ks _ l HLq.out
        have hlk := odd_lt HOD.out
        have hkl2 : k ≤ l := by omega
        have hlt : k < ps.length := by omega
        have hkk : k < ks.length := by omega
        have hk0 : (0 : Int) ≤ (k : Int) := by omega
        have hlt' : (k : Int) < (ps.length : Int) := by omega
        have hkk' : (k : Int) < (ks.length : Int) := by omega
        have HR1 : Hid (ls = flush ss (chs ps ks k)) := by have h := HR.out; rw [if_pos hle] at h; exact h
        obtain ⟨kb, koff, rfl, hkb, hkc⟩ := (HK.out.below HB.out) (by omega)
        have hck := hkc k hkk
        clear hkc
        have hmb1 : -2 < ks[k].tmod 2 := by
         have := Int.lt_tmod_of_pos ks[k] (show (0 : Int) < 2 by omega)
         omega
        have hmb2 : ks[k].tmod 2 < 2 := Int.tmod_lt_of_pos _ (by omega)
        have e1 : IntKind.i64.wrap (ks[k].tmod 2) = ks[k].tmod 2 := by rw [IntKind.wrap_i64]; omega
        by_cases hodd : ks[k].tmod 2 = 0
        ·have ho : (ks[k].tmod 2 == 0) = true := by simpa using hodd
         have HC : Hid (chs ps ks (k + 1) = chs ps ks k) := chs_no hlt (by simp [oddAt, hkk, hodd])
         have hne : k ≠ l := fun e => by
          have h := HOD.out
          rw [← e] at h
          simp [oddAt, hkk, hodd] at h
         have HR2 : Hid (ls = if ((k + 1 : Nat) : Int) ≤ L then flush ss (chs ps ks (k + 1)) else crS ss ps ks t) := by
          show _ = _
          rw [if_pos (by omega), HC.out]; exact HR1.out
         clear hodd
         go_wp2
         go_roundw
         case rel => exact ⟨k + 1, ls, by omega, by go_num, HR2, HRL, HB, V0, V1, V2, HW⟩
         case measure => simp [intOf]; omega
        ·have ho : (ks[k].tmod 2 == 0) = false := by rw [beq_eq_false_iff_ne]; exact hodd
         have HCY : Hid (chs ps ks (k + 1) = chs ps ks k ++ [ps[k]]) := chs_yes hlt (by simp [oddAt, hkk, hodd])
         clear hodd
         obtain ⟨b, off, rfl, hbl, hc⟩ := HD.out.p.prow (by omega)
         have hc0 := (HB.out.cell (p := ⟨b, off + k * 2, none⟩) hbl).trans (hc k hlt).1
         have hc1 := (HB.out.cell (p := ⟨b, off + k * 2 + 1, none⟩) hbl).trans (hc k hlt).2
         have hwk := HO.out.2.2.2.2 _ (List.getElem_mem hlt)
         obtain ⟨m, hm1⟩ := Int.eq_ofNat_of_zero_le hwk.1
         have HM : Hid (ps[k].1 = (m : Int)) := hm1
         have hmn : (m : Int) < (ss.length : Int) := by rw [← hm1]; exact hwk.2.1
         have hm0 : (0 : Int) ≤ (m : Int) := by omega
         have hpt : ps[k].2.size = 64 := hwk.2.2
         have HPT : Hid (ps[k].2.size = 64) := hpt
         obtain ⟨g, rfl, hbg, hgl⟩ := own_form HW.out (by omega)
         have hgX : g < X := (HU.out g rfl).2
         rw [hm1] at hc0
         clear hc hwk hm1
         have x0 := V2.out.c0
         have xl := V2.out.lt
         have hml0 : m < ls.length := by have := HRL.out; omega
         have cq : wr.cell? ⟨g, m, none⟩ = some (.string ls[m]) := by
          rw [World.ownsRow.cellAt HW.out m (by omega)]; simp [scs, hml0]
         have cf : wr.frozen? ⟨g, m, none⟩ = false := World.ownsRow.frozenAt HW.out m
         have hgw : g < wr.heap.size := by omega
         have n1 : g ≠ w.heap.size := by omega
         have n2 : g ≠ X := by omega
         have n4 : g ≠ wr.heap.size := by omega
         have n5 : X ≠ wr.heap.size := by omega
         by_cases heq : k = l
         ·have heq' : ((k : Int) == L) = true := by rw [beq_iff_eq]; omega
          have hl64 : ls[m].size = 64 := by
           have h1 := flush_64 ss (chs ps ks k) HO.out.2.2.2.1 (fun p hp => (HO.out.2.2.2.2 p (chs_mem ps ks _ p hp)).2.2)
           exact h1 _ (by rw [← HR1.out]; exact List.getElem_mem hml0)
          have HFIN : Hid (ls.set m (ps[k].2.extract 0 nt ++ ls[m].extract nt 64) = crS ss ps ks t) := by
           show _ = _
           have h := cr_last (t := t) HOK.out (HLq.out.trans (by rw [heq])) hlt HM.out HNT.out hnl
           rw [← HR1.out] at h
           have e : ls.getD m ByteArray.empty = ls[m] := by simp [hml0]
           rw [e] at h
           exact h
          have hnt1 : (nt : Int) ≤ (ps[k].2.size : Int) := by omega
          have hnt3 : (nt : Int) ≤ (ls[m].size : Int) := by omega
          have hnt0 : (0 : Int) ≤ (nt : Int) := by omega
          have hnt64 : (nt : Int) ≤ 64 := by omega
          have st := World.ownsRow.stored HW.out m (.string (ps[k].2.extract 0 nt ++ ls[m].extract nt 64))
          have HS2 : Hid _ := st.1
          clear st
          have X0' : Hid ((wr.alloc (.cells #[.int .i64 (m : Int), .string ps[k].2] 56)).cell? ⟨X, 0, none⟩ = some (.slice (some ⟨g, 0, none⟩) ss.length d1)) := (V2.out.alloc _).c0
          have Q0' : Hid ((wr.alloc (.cells #[.int .i64 (m : Int), .string ps[k].2] 56)).cell? ⟨wr.heap.size, 0, none⟩ = some (.int .i64 (m : Int)) ∧ (wr.alloc (.cells #[.int .i64 (m : Int), .string ps[k].2] 56)).cell? ⟨wr.heap.size, 1, none⟩ = some (.string ps[k].2)) := ⟨(Bx.new wr _ _ 56).c0, (Bx.new wr _ _ 56).c1⟩
          have C0' : Hid ((wr.alloc (.cells #[.int .i64 (m : Int), .string ps[k].2] 56)).cell? ⟨g, m, none⟩ = some (.string ls[m])) := (((belowRefl wr).alloc (Nat.le_refl _) _).cell (p := ⟨g, m, none⟩) hgw).trans cq
          have x0' := X0'.out
          have q0' := Q0'.out.1
          have q1' := Q0'.out.2
          have c0' := C0'.out
          have HR2 : Hid (ls.set m (ps[k].2.extract 0 nt ++ ls[m].extract nt 64) = if ((k + 1 : Nat) : Int) ≤ L then flush ss (chs ps ks (k + 1)) else crS ss ps ks t) := by
           show _ = _
           rw [if_neg (by omega)]; exact HFIN.out
          have HLM : Hid (ls[m].size = 64) := hl64
          have hsum : ¬ 9223372036854775807 < nt + (64 - nt) := by omega
          clear heq hl
          go_wp2
          refine wp_region_held_drew (S := fun w' => w'.cell? ⟨X, 0, none⟩ = some (.slice (some ⟨g, 0, none⟩) ss.length d1) ∧ w'.cell? ⟨wr.heap.size, 0, none⟩ = some (.int .i64 (m : Int)) ∧ w'.cell? ⟨wr.heap.size, 1, none⟩ = some (.string ps[k].2)) (by kernel_rfl) ⟨x0', q0', q1'⟩ (fun hHeld => ?_)
          (refine tk 0 ?_ rfl (Or.inl ⟨by rfl, ?_⟩) ?_; rotate_left; (focus (intro w h; (try dsimp only at h); go_simp; (try with_reducible rfl))); simp only [Act.put, tA, tB, tD, tE, tF])
          (refine tk 1 ?_ rfl (Or.inl ⟨by rfl, ?_⟩) ?_; rotate_left; (focus (intro w h; (try dsimp only at h); go_simp; (try with_reducible rfl))); simp only [Act.put, tA, tB, tC, tD, tE, tF])
          (refine tk 2 ?_ rfl (Or.inl ⟨by rfl, ?_⟩) ?_; rotate_left; (focus (intro w h; (try dsimp only at h); go_simp; (try with_reducible rfl))); simp only [Act.put, tA, tB, tC, tD, tE, tF])
          (refine tk 3 ?_ rfl (Or.inl ⟨by rfl, ?_⟩) ?_; rotate_left; (focus (intro w h; (try dsimp only at h); go_simp; (try with_reducible rfl))); simp only [Act.put, tA, tB, tC, tD, tE, tF])
          (refine tk 4 ?_ rfl (Or.inl ⟨by rfl, ?_⟩) ?_; rotate_left; (focus (intro w h; (try dsimp only at h); go_simp; (try with_reducible rfl))); simp only [Act.put, tA, tB, tC, tD, tE, tF])
          (refine tk 5 ?_ rfl (Or.inl ⟨by rfl, ?_⟩) ?_; rotate_left; (focus (intro w h; (try dsimp only at h); go_simp; (try with_reducible rfl))); simp only [Act.put, tA, tB, tC, tD, tE, tF])
          (refine tk 6 ?_ rfl (Or.inl ⟨by rfl, ?_⟩) ?_; rotate_left; (focus (intro w h; (try dsimp only at h); go_simp; (try with_reducible rfl))); simp only [Act.put, tA, tB, tC, tD, tE, tF])
          (refine tk 7 ?_ rfl (Or.inl ⟨by rfl, ?_⟩) ?_; rotate_left; (focus (intro w h; (try dsimp only at h); go_simp; (try with_reducible rfl))); simp only [Act.put, tA, tB, tC, tD, tE, tF])
          (refine tk 8 ?_ rfl (Or.inl ⟨by rfl, ?_⟩) ?_; rotate_left; (focus (intro w h; (try dsimp only at h); go_simp; (try with_reducible rfl))); simp only [Act.put, tA, tB, tC, tD, tE, tF])
          (refine tk 9 ?_ rfl (Or.inl ⟨by rfl, ?_⟩) ?_; rotate_left; (focus (intro w h; (try dsimp only at h); go_simp; (try with_reducible rfl))); simp only [Act.put, tA, tB, tC, tD, tE, tF])
          (refine tk 10 ?_ rfl (Or.inl ⟨by rfl, ?_⟩) ?_; rotate_left; (focus (intro w h; (try dsimp only at h); go_simp; (try with_reducible rfl))); simp only [Act.put, tA, tB, tC, tD, tE, tF])
          (refine tk 11 ?_ rfl (Or.inl ⟨by rfl, ?_⟩) ?_; rotate_left; (focus (intro w h; (try dsimp only at h); go_simp; (try with_reducible rfl))); simp only [Act.put, tA, tB, tC, tD, tE, tF])
          (refine tk 12 ?_ rfl (Or.inl ⟨by rfl, ?_⟩) ?_; rotate_left; (focus (intro w h; (try dsimp only at h); go_simp; (try with_reducible rfl))); simp only [Act.put, tA, tB, tC, tD, tE, tF])
          (refine tk 14 ?_ rfl (Or.inl ⟨by rfl, ?_⟩) ?_; rotate_left; (focus (intro w h; (try dsimp only at h); go_simp; (try with_reducible rfl))); simp only [Act.put, tA, tB, tC, tD, tE, tF])
          refine wpAnyH_ready (rs := [13]) (by kernel_rfl) (by simp) ?_
          refine AllReadyH.cons rfl (fun K hK => ?_) AllReadyH.nil
          go_simp
          refine hK.out _ _ ⟨x0', q0', q1'⟩ (fun hHeld2 => ?_)
          clear hK K
          (refine tk 15 ?_ rfl (Or.inl ⟨by rfl, ?_⟩) ?_; rotate_left; (focus (intro w h; (try dsimp only at h); go_simp; (try with_reducible rfl))); simp only [Act.put, tA, tB, tC, tD, tE, tF])
          (refine tk 16 ?_ rfl (Or.inl ⟨by rfl, ?_⟩) ?_; rotate_left; (focus (intro w h; (try dsimp only at h); go_simp; (try with_reducible rfl))); simp only [Act.put, tA, tB, tC, tD, tE, tF])
          (refine tk 17 ?_ rfl (Or.inl ⟨by rfl, ?_⟩) ?_; rotate_left; (focus (intro w h; (try dsimp only at h); go_simp; (try with_reducible rfl))); simp only [Act.put, tA, tB, tC, tD, tE, tF])
          refine wpAnyH_ready (rs := [18]) (by kernel_rfl) (by simp) ?_
          refine AllReadyH.cons rfl (fun K hK => ?_) AllReadyH.nil
          go_simp
          have SB : Hid (Bx (((wr.setCell ⟨g, m, none⟩ (.string (ps[k].2.extract 0 nt ++ ls[m].extract nt 64))).alloc (.cells #[.int .i64 (m : Int), .string ps[k].2] 56)).drew) wr.heap.size (.int .i64 (m : Int)) (.string ps[k].2)) := by
           have h := (Bx.new (wr.setCell ⟨g, m, none⟩ (.string (ps[k].2.extract 0 nt ++ ls[m].extract nt 64))) (.int .i64 (m : Int)) (.string ps[k].2) 56).drew
           show Bx _ _ _ _
           simpa [World.setCell] using h
          have SX : Hid (Bx (((wr.setCell ⟨g, m, none⟩ (.string (ps[k].2.extract 0 nt ++ ls[m].extract nt 64))).alloc (.cells #[.int .i64 (m : Int), .string ps[k].2] 56)).drew) X (.slice (some ⟨g, 0, none⟩) ss.length d1) (.slice b2 ps.length d2)) := ((V2.out.setO n2 _).alloc _).drew
          refine hK.out _ _ ⟨SX.out.c0, SB.out.c0, SB.out.c1⟩ (fun hHeld3 => ?_)
          clear hK K hHeld hHeld2 hHeld3 SB SX
          refine wpAnyH_done (by kernel_rfl) ?_ _
          have HL3 : Hid ((ls.set m (ps[k].2.extract 0 nt ++ ls[m].extract nt 64)).length = ss.length) := by show _ = _; rw [List.length_set]; exact HRL.out
          have HW3 : Hid (((wr.setCell ⟨g, m, none⟩ (.string (ps[k].2.extract 0 nt ++ ls[m].extract nt 64))).alloc (.cells #[.int .i64 (m : Int), .string ps[k].2] 56)).drew.ownsRow (w.heap.size + 1 + 1) 9 1 (.slice (some ⟨g, 0, none⟩) ss.length d1) ss.length (scs (ls.set m (ps[k].2.extract 0 nt ++ ls[m].extract nt 64)))) := by
           rw [scs_set]; exact World.ownsRow.alloc HS2.out _
          have W0 : Hid (Bx ((wr.setCell ⟨g, m, none⟩ (.string (ps[k].2.extract 0 nt ++ ls[m].extract nt 64))).alloc (.cells #[.int .i64 (m : Int), .string ps[k].2] 56)).drew w.heap.size (.slice a1 ss.length c1) (.slice (some ⟨b, off, none⟩) ps.length c2)) := ((V0.out.setO n1 _).alloc _).drew
          have W1 : Hid (Bx ((wr.setCell ⟨g, m, none⟩ (.string (ps[k].2.extract 0 nt ++ ls[m].extract nt 64))).alloc (.cells #[.int .i64 (m : Int), .string ps[k].2] 56)).drew (w.heap.size + 1) (.slice none 0 0) (.slice none 0 0)) := ((V1.out.setO (by show g ≠ _; omega) _).alloc _).drew
          have W2 : Hid (Bx ((wr.setCell ⟨g, m, none⟩ (.string (ps[k].2.extract 0 nt ++ ls[m].extract nt 64))).alloc (.cells #[.int .i64 (m : Int), .string ps[k].2] 56)).drew X (.slice (some ⟨g, 0, none⟩) ss.length d1) (.slice b2 ps.length d2)) := ((V2.out.setO n2 _).alloc _).drew
          have HB3 : Hid (Below w.heap.size w ((wr.setCell ⟨g, m, none⟩ (.string (ps[k].2.extract 0 nt ++ ls[m].extract nt 64))).alloc (.cells #[.int .i64 (m : Int), .string ps[k].2] 56)).drew) := ((HB.out.setCell (by show w.heap.size ≤ g; omega) _).alloc (by simp [World.setCell]; have := HB.out.size; omega) _).drew
          clear x0 cq cf hc0 hc1 q1 x0' q0' q1' c0' X0' Q0' C0'
          go_wp2
          go_roundw
          case rel => exact ⟨k + 1, _, by omega, by go_num, HR2, HL3, HB3, W0, W1, W2, HW3⟩
          case measure => simp [intOf]; omega
         ·have heq' : ((k : Int) == L) = false := by rw [beq_eq_false_iff_ne]; omega
          have HR2 : Hid (ls.set m ps[k].2 = if ((k + 1 : Nat) : Int) ≤ L then flush ss (chs ps ks (k + 1)) else crS ss ps ks t) := by
           show _ = _
           rw [if_pos (by omega), HCY.out, flush_snoc, ← HR1.out, HM.out]; rfl
          have st := World.ownsRow.stored HW.out m (.string ps[k].2)
          have HS2 : Hid _ := st.1
          clear st
          have X0' : Hid ((wr.alloc (.cells #[.int .i64 (m : Int), .string ps[k].2] 56)).cell? ⟨X, 0, none⟩ = some (.slice (some ⟨g, 0, none⟩) ss.length d1)) := (V2.out.alloc _).c0
          have C0' : Hid ((wr.alloc (.cells #[.int .i64 (m : Int), .string ps[k].2] 56)).cell? ⟨g, m, none⟩ = some (.string ls[m])) := (((belowRefl wr).alloc (Nat.le_refl _) _).cell (p := ⟨g, m, none⟩) hgw).trans cq
          have x0' := X0'.out
          have c0' := C0'.out
          go_wp2
          have HL3 : Hid ((ls.set m ps[k].2).length = ss.length) := by show _ = _; rw [List.length_set]; exact HRL.out
          have HW3 : Hid (((wr.setCell ⟨g, m, none⟩ (.string ps[k].2)).alloc (.cells #[.int .i64 (m : Int), .string ps[k].2] 56)).ownsRow (w.heap.size + 1 + 1) 9 1 (.slice (some ⟨g, 0, none⟩) ss.length d1) ss.length (scs (ls.set m ps[k].2))) := by
           rw [scs_set]; exact World.ownsRow.alloc HS2.out _
          have W0 : Hid (Bx ((wr.setCell ⟨g, m, none⟩ (.string ps[k].2)).alloc (.cells #[.int .i64 (m : Int), .string ps[k].2] 56)) w.heap.size (.slice a1 ss.length c1) (.slice (some ⟨b, off, none⟩) ps.length c2)) := ((V0.out.setO n1 _).alloc _)
          have W1 : Hid (Bx ((wr.setCell ⟨g, m, none⟩ (.string ps[k].2)).alloc (.cells #[.int .i64 (m : Int), .string ps[k].2] 56)) (w.heap.size + 1) (.slice none 0 0) (.slice none 0 0)) := ((V1.out.setO (by show g ≠ _; omega) _).alloc _)
          have W2 : Hid (Bx ((wr.setCell ⟨g, m, none⟩ (.string ps[k].2)).alloc (.cells #[.int .i64 (m : Int), .string ps[k].2] 56)) X (.slice (some ⟨g, 0, none⟩) ss.length d1) (.slice b2 ps.length d2)) := ((V2.out.setO n2 _).alloc _)
          have HB3 : Hid (Below w.heap.size w ((wr.setCell ⟨g, m, none⟩ (.string ps[k].2)).alloc (.cells #[.int .i64 (m : Int), .string ps[k].2] 56))) := ((HB.out.setCell (by show w.heap.size ≤ g; omega) _).alloc (by simp [World.setCell]; have := HB.out.size; omega) _)
          go_roundw
          case rel => exact ⟨k + 1, _, by omega, by go_num, HR2, HL3, HB3, W0, W1, W2, HW3⟩
          case measure => simp [intOf]; omega
       ·have hle' : decide ((k : Int) ≤ L) = false := by simp; omega
        have HLS : Hid (ls = crS ss ps ks t) := by have h := HR.out; rw [if_neg hle] at h; exact h
        have x0 := V2.out.c0
        have x1 := V2.out.c1
        have xf := V2.out.fz
        have xl := V2.out.lt
        have t0 := V1.out.c0
        have t1 := V1.out.c1
        have tf := V1.out.fz
        have tl := V1.out.lt
        have nX : w.heap.size + 1 ≠ X := by omega
        have HLE : Hid (ss.length = (crS ss ps ks t).length) := by show _ = _; rw [← HLS.out]; exact HRL.out.symm
        have HSF : Hid (SOwn wr (w.heap.size + 1 + 1) (.slice b1 (crS ss ps ks t).length d1) (crS ss ps ks t)) := by
         show World.ownsRow _ _ _ _ _ _ _
         rw [← HLE.out, ← HLS.out]
         exact HW.out
        have HNX : Hid ((Value.slice b1 (crS ss ps ks t).length d1).ownBlock ≠ some X) := fun e => by
         rw [← HLE.out] at e
         have := (HU.out X e).2
         omega
        go_wp2
        refine bodyPost_ret (v := .agg #[.slice b1 ss.length d1, .slice (some ⟨wr.heap.size, 0, none⟩) 0 0]) (by simp [results, Tryz.results38, go_sem, t0, t1, tl]) rfl ⟨b1, d1, some ⟨wr.heap.size, 0, none⟩, 0, ?_, ⟨?_, ?_⟩, ?_⟩
        ·rw [HE2.out, ← HLE.out]; rfl
        ·have h1 : SOwn (wr.setCell ⟨X, 1, none⟩ (.slice (some ⟨wr.heap.size, 0, none⟩) 0 0)) (w.heap.size + 1 + 1) (.slice b1 (crS ss ps ks t).length d1) (crS ss ps ks t) := own_set HSF.out HNX.out
         exact (((h1.set (by show w.heap.size + 1 < _; omega) _).set (by show w.heap.size + 1 < _; omega) _).alloc _).mono (by omega)
        ·rw [HE2.out]
         have h := POwn.empty (((wr.setCell ⟨X, 1, none⟩ (.slice (some ⟨wr.heap.size, 0, none⟩) 0 0)).setCell ⟨w.heap.size + 1, 0, none⟩ (.slice b1 ss.length d1)).setCell ⟨w.heap.size + 1, 1, none⟩ (.slice (some ⟨wr.heap.size, 0, none⟩) 0 0)) w.heap.size (by simp; omega)
         simpa using h
        ·exact (((HB.out.setCell (by show w.heap.size ≤ X; omega) _).setCell (by show _ ≤ w.heap.size + 1; omega) _).setCell (by show _ ≤ w.heap.size + 1; omega) _).alloc (by simp; omega) _
     ·have hlt' : decide ((k : Int) < (ps.length : Int)) = false := by simp; omega
      go_wp2
      rw [show ((nt : Int) - 65 + 64 + 1) = (nt : Int) by omega]
      go_loopw [11] (fun ti wr => ∃ (k : Nat) (ls : List ByteArray), (k : Int) ≤ L + 1 ∧ ti = .int .i64 k ∧ Hid (ls = if (k : Int) ≤ L then flush ss (chs ps ks k) else crS ss ps ks t) ∧ Hid (ls.length = ss.length) ∧ Hid (Below w.heap.size w wr) ∧ Hid (Bx wr w.heap.size (.slice a1 ss.length c1) (.slice a2 ps.length c2)) ∧ Hid (Bx wr (w.heap.size + 1) (.slice none 0 0) (.slice none 0 0)) ∧ Hid (Bx wr X (.slice b1 ss.length d1) (.slice b2 ps.length d2)) ∧ Hid (wr.ownsRow (w.heap.size + 1 + 1) 9 1 (.slice b1 ss.length d1) ss.length (scs ls))) (fun ti _ => (L + 1 - intOf ti).toNat)
      case atStart => exact ⟨0, ss, by omega, rfl, HST, rfl, HB2, V0, V1, V2, HD3.out.s⟩
      case round =>
       clear HB2 V0 V1 V2 HD3 HST
       obtain ⟨k, ls, hk, rfl, HR, HRL, HB, V0, V1, V2, HW⟩ := hrel
       have q1 := V0.out.c1
       by_cases hle : (k : Int) ≤ L
       ·obtain ⟨l, hl⟩ := Int.eq_ofNat_of_zero_le (show 0 ≤ L by omega)
        have HLq : Hid (lst ks ps.length = (l : Int)) := HLL.out.trans hl
        have HOD : Hid (oddAt ks l = true) := lst_odd ks _ l HLq.out
        have hlk := odd_lt HOD.out
        have hkl2 : k ≤ l := by omega
        have hlt : k < ps.length := by omega
        have hkk : k < ks.length := by omega
        have hk0 : (0 : Int) ≤ (k : Int) := by omega
        have hlt' : (k : Int) < (ps.length : Int) := by omega
        have hkk' : (k : Int) < (ks.length : Int) := by omega
        have HR1 : Hid (ls = flush ss (chs ps ks k)) := by have h := HR.out; rw [if_pos hle] at h; exact h
        obtain ⟨kb, koff, rfl, hkb, hkc⟩ := (HK.out.below HB.out) (by omega)
        have hck := hkc k hkk
        clear hkc
        have hmb1 : -2 < ks[k].tmod 2 := by
         have := Int.lt_tmod_of_pos ks[k] (show (0 : Int) < 2 by omega)
         omega
        have hmb2 : ks[k].tmod 2 < 2 := Int.tmod_lt_of_pos _ (by omega)
        have e1 : IntKind.i64.wrap (ks[k].tmod 2) = ks[k].tmod 2 := by rw [IntKind.wrap_i64]; omega
        by_cases hodd : ks[k].tmod 2 = 0
        ·have ho : (ks[k].tmod 2 == 0) = true := by simpa using hodd
         have HC : Hid (chs ps ks (k + 1) = chs ps ks k) := chs_no hlt (by simp [oddAt, hkk, hodd])
         have hne : k ≠ l := fun e => by
          have h := HOD.out
          rw [← e] at h
          simp [oddAt, hkk, hodd] at h
         have HR2 : Hid (ls = if ((k + 1 : Nat) : Int) ≤ L then flush ss (chs ps ks (k + 1)) else crS ss ps ks t) := by
          show _ = _
          rw [if_pos (by omega), HC.out]; exact HR1.out
         clear hodd
         go_wp2
         go_roundw
         case rel => exact ⟨k + 1, ls, by omega, by go_num, HR2, HRL, HB, V0, V1, V2, HW⟩
         case measure => simp [intOf]; omega
        ·have ho : (ks[k].tmod 2 == 0) = false := by rw [beq_eq_false_iff_ne]; exact hodd
         have HCY : Hid (chs ps ks (k + 1) = chs ps ks k ++ [ps[k]]) := chs_yes hlt (by simp [oddAt, hkk, hodd])
         clear hodd
         obtain ⟨b, off, rfl, hbl, hc⟩ := HD.out.p.prow (by omega)
         have hc0 := (HB.out.cell (p := ⟨b, off + k * 2, none⟩) hbl).trans (hc k hlt).1
         have hc1 := (HB.out.cell (p := ⟨b, off + k * 2 + 1, none⟩) hbl).trans (hc k hlt).2
         have hwk := HO.out.2.2.2.2 _ (List.getElem_mem hlt)
         obtain ⟨m, hm1⟩ := Int.eq_ofNat_of_zero_le hwk.1
         have HM : Hid (ps[k].1 = (m : Int)) := hm1
         have hmn : (m : Int) < (ss.length : Int) := by rw [← hm1]; exact hwk.2.1
         have hm0 : (0 : Int) ≤ (m : Int) := by omega
         have hpt : ps[k].2.size = 64 := hwk.2.2
         have HPT : Hid (ps[k].2.size = 64) := hpt
         obtain ⟨g, rfl, hbg, hgl⟩ := own_form HW.out (by omega)
         have hgX : g < X := (HU.out g rfl).2
         rw [hm1] at hc0
         clear hc hwk hm1
         have x0 := V2.out.c0
         have xl := V2.out.lt
         have hml0 : m < ls.length := by have := HRL.out; omega
         have cq : wr.cell? ⟨g, m, none⟩ = some (.string ls[m]) := by
          rw [World.ownsRow.cellAt HW.out m (by omega)]; simp [scs, hml0]
         have cf : wr.frozen? ⟨g, m, none⟩ = false := World.ownsRow.frozenAt HW.out m
         have hgw : g < wr.heap.size := by omega
         have n1 : g ≠ w.heap.size := by omega
         have n2 : g ≠ X := by omega
         have n4 : g ≠ wr.heap.size := by omega
         have n5 : X ≠ wr.heap.size := by omega
         by_cases heq : k = l
         ·have heq' : ((k : Int) == L) = true := by rw [beq_iff_eq]; omega
          have hl64 : ls[m].size = 64 := by
           have h1 := flush_64 ss (chs ps ks k) HO.out.2.2.2.1 (fun p hp => (HO.out.2.2.2.2 p (chs_mem ps ks _ p hp)).2.2)
           exact h1 _ (by rw [← HR1.out]; exact List.getElem_mem hml0)
          have HFIN : Hid (ls.set m (ps[k].2.extract 0 nt ++ ls[m].extract nt 64) = crS ss ps ks t) := by
           show _ = _
           have h := cr_last (t := t) HOK.out (HLq.out.trans (by rw [heq])) hlt HM.out HNT.out hnl
           rw [← HR1.out] at h
           have e : ls.getD m ByteArray.empty = ls[m] := by simp [hml0]
           rw [e] at h
           exact h
          have hnt1 : (nt : Int) ≤ (ps[k].2.size : Int) := by omega
          have hnt3 : (nt : Int) ≤ (ls[m].size : Int) := by omega
          have hnt0 : (0 : Int) ≤ (nt : Int) := by omega
          have hnt64 : (nt : Int) ≤ 64 := by omega
          have st := World.ownsRow.stored HW.out m (.string (ps[k].2.extract 0 nt ++ ls[m].extract nt 64))
          have HS2 : Hid _ := st.1
          clear st
          have X0' : Hid ((wr.alloc (.cells #[.int .i64 (m : Int), .string ps[k].2] 56)).cell? ⟨X, 0, none⟩ = some (.slice (some ⟨g, 0, none⟩) ss.length d1)) := (V2.out.alloc _).c0
          have Q0' : Hid ((wr.alloc (.cells #[.int .i64 (m : Int), .string ps[k].2] 56)).cell? ⟨wr.heap.size, 0, none⟩ = some (.int .i64 (m : Int)) ∧ (wr.alloc (.cells #[.int .i64 (m : Int), .string ps[k].2] 56)).cell? ⟨wr.heap.size, 1, none⟩ = some (.string ps[k].2)) := ⟨(Bx.new wr _ _ 56).c0, (Bx.new wr _ _ 56).c1⟩
          have C0' : Hid ((wr.alloc (.cells #[.int .i64 (m : Int), .string ps[k].2] 56)).cell? ⟨g, m, none⟩ = some (.string ls[m])) := (((belowRefl wr).alloc (Nat.le_refl _) _).cell (p := ⟨g, m, none⟩) hgw).trans cq
          have x0' := X0'.out
          have q0' := Q0'.out.1
          have q1' := Q0'.out.2
          have c0' := C0'.out
          have HR2 : Hid (ls.set m (ps[k].2.extract 0 nt ++ ls[m].extract nt 64) = if ((k + 1 : Nat) : Int) ≤ L then flush ss (chs ps ks (k + 1)) else crS ss ps ks t) := by
           show _ = _
           rw [if_neg (by omega)]; exact HFIN.out
          have HLM : Hid (ls[m].size = 64) := hl64
          have hsum : ¬ 9223372036854775807 < nt + (64 - nt) := by omega
          clear heq hl
          go_wp2
          refine wp_region_held_drew (S := fun w' => w'.cell? ⟨X, 0, none⟩ = some (.slice (some ⟨g, 0, none⟩) ss.length d1) ∧ w'.cell? ⟨wr.heap.size, 0, none⟩ = some (.int .i64 (m : Int)) ∧ w'.cell? ⟨wr.heap.size, 1, none⟩ = some (.string ps[k].2)) (by kernel_rfl) ⟨x0', q0', q1'⟩ (fun hHeld => ?_)
          (refine tk 0 ?_ rfl (Or.inl ⟨by rfl, ?_⟩) ?_; rotate_left; (focus (intro w h; (try dsimp only at h); go_simp; (try with_reducible rfl))); simp only [Act.put, tA, tB, tD, tE, tF])
          (refine tk 1 ?_ rfl (Or.inl ⟨by rfl, ?_⟩) ?_; rotate_left; (focus (intro w h; (try dsimp only at h); go_simp; (try with_reducible rfl))); simp only [Act.put, tA, tB, tC, tD, tE, tF])
          (refine tk 2 ?_ rfl (Or.inl ⟨by rfl, ?_⟩) ?_; rotate_left; (focus (intro w h; (try dsimp only at h); go_simp; (try with_reducible rfl))); simp only [Act.put, tA, tB, tC, tD, tE, tF])
          (refine tk 3 ?_ rfl (Or.inl ⟨by rfl, ?_⟩) ?_; rotate_left; (focus (intro w h; (try dsimp only at h); go_simp; (try with_reducible rfl))); simp only [Act.put, tA, tB, tC, tD, tE, tF])
          (refine tk 4 ?_ rfl (Or.inl ⟨by rfl, ?_⟩) ?_; rotate_left; (focus (intro w h; (try dsimp only at h); go_simp; (try with_reducible rfl))); simp only [Act.put, tA, tB, tC, tD, tE, tF])
          (refine tk 5 ?_ rfl (Or.inl ⟨by rfl, ?_⟩) ?_; rotate_left; (focus (intro w h; (try dsimp only at h); go_simp; (try with_reducible rfl))); simp only [Act.put, tA, tB, tC, tD, tE, tF])
          (refine tk 6 ?_ rfl (Or.inl ⟨by rfl, ?_⟩) ?_; rotate_left; (focus (intro w h; (try dsimp only at h); go_simp; (try with_reducible rfl))); simp only [Act.put, tA, tB, tC, tD, tE, tF])
          (refine tk 7 ?_ rfl (Or.inl ⟨by rfl, ?_⟩) ?_; rotate_left; (focus (intro w h; (try dsimp only at h); go_simp; (try with_reducible rfl))); simp only [Act.put, tA, tB, tC, tD, tE, tF])
          (refine tk 8 ?_ rfl (Or.inl ⟨by rfl, ?_⟩) ?_; rotate_left; (focus (intro w h; (try dsimp only at h); go_simp; (try with_reducible rfl))); simp only [Act.put, tA, tB, tC, tD, tE, tF])
          (refine tk 9 ?_ rfl (Or.inl ⟨by rfl, ?_⟩) ?_; rotate_left; (focus (intro w h; (try dsimp only at h); go_simp; (try with_reducible rfl))); simp only [Act.put, tA, tB, tC, tD, tE, tF])
          (refine tk 10 ?_ rfl (Or.inl ⟨by rfl, ?_⟩) ?_; rotate_left; (focus (intro w h; (try dsimp only at h); go_simp; (try with_reducible rfl))); simp only [Act.put, tA, tB, tC, tD, tE, tF])
          (refine tk 11 ?_ rfl (Or.inl ⟨by rfl, ?_⟩) ?_; rotate_left; (focus (intro w h; (try dsimp only at h); go_simp; (try with_reducible rfl))); simp only [Act.put, tA, tB, tC, tD, tE, tF])
          (refine tk 12 ?_ rfl (Or.inl ⟨by rfl, ?_⟩) ?_; rotate_left; (focus (intro w h; (try dsimp only at h); go_simp; (try with_reducible rfl))); simp only [Act.put, tA, tB, tC, tD, tE, tF])
          (refine tk 14 ?_ rfl (Or.inl ⟨by rfl, ?_⟩) ?_; rotate_left; (focus (intro w h; (try dsimp only at h); go_simp; (try with_reducible rfl))); simp only [Act.put, tA, tB, tC, tD, tE, tF])
          refine wpAnyH_ready (rs := [13]) (by kernel_rfl) (by simp) ?_
          refine AllReadyH.cons rfl (fun K hK => ?_) AllReadyH.nil
          go_simp
          refine hK.out _ _ ⟨x0', q0', q1'⟩ (fun hHeld2 => ?_)
          clear hK K
          (refine tk 15 ?_ rfl (Or.inl ⟨by rfl, ?_⟩) ?_; rotate_left; (focus (intro w h; (try dsimp only at h); go_simp; (try with_reducible rfl))); simp only [Act.put, tA, tB, tC, tD, tE, tF])
          (refine tk 16 ?_ rfl (Or.inl ⟨by rfl, ?_⟩) ?_; rotate_left; (focus (intro w h; (try dsimp only at h); go_simp; (try with_reducible rfl))); simp only [Act.put, tA, tB, tC, tD, tE, tF])
          (refine tk 17 ?_ rfl (Or.inl ⟨by rfl, ?_⟩) ?_; rotate_left; (focus (intro w h; (try dsimp only at h); go_simp; (try with_reducible rfl))); simp only [Act.put, tA, tB, tC, tD, tE, tF])
          refine wpAnyH_ready (rs := [18]) (by kernel_rfl) (by simp) ?_
          refine AllReadyH.cons rfl (fun K hK => ?_) AllReadyH.nil
          go_simp
          have SB : Hid (Bx (((wr.setCell ⟨g, m, none⟩ (.string (ps[k].2.extract 0 nt ++ ls[m].extract nt 64))).alloc (.cells #[.int .i64 (m : Int), .string ps[k].2] 56)).drew) wr.heap.size (.int .i64 (m : Int)) (.string ps[k].2)) := by
           have h := (Bx.new (wr.setCell ⟨g, m, none⟩ (.string (ps[k].2.extract 0 nt ++ ls[m].extract nt 64))) (.int .i64 (m : Int)) (.string ps[k].2) 56).drew
           show Bx _ _ _ _
           simpa [World.setCell] using h
          have SX : Hid (Bx (((wr.setCell ⟨g, m, none⟩ (.string (ps[k].2.extract 0 nt ++ ls[m].extract nt 64))).alloc (.cells #[.int .i64 (m : Int), .string ps[k].2] 56)).drew) X (.slice (some ⟨g, 0, none⟩) ss.length d1) (.slice b2 ps.length d2)) := ((V2.out.setO n2 _).alloc _).drew
          refine hK.out _ _ ⟨SX.out.c0, SB.out.c0, SB.out.c1⟩ (fun hHeld3 => ?_)
          clear hK K hHeld hHeld2 hHeld3 SB SX
          refine wpAnyH_done (by kernel_rfl) ?_ _
          have HL3 : Hid ((ls.set m (ps[k].2.extract 0 nt ++ ls[m].extract nt 64)).length = ss.length) := by show _ = _; rw [List.length_set]; exact HRL.out
          have HW3 : Hid (((wr.setCell ⟨g, m, none⟩ (.string (ps[k].2.extract 0 nt ++ ls[m].extract nt 64))).alloc (.cells #[.int .i64 (m : Int), .string ps[k].2] 56)).drew.ownsRow (w.heap.size + 1 + 1) 9 1 (.slice (some ⟨g, 0, none⟩) ss.length d1) ss.length (scs (ls.set m (ps[k].2.extract 0 nt ++ ls[m].extract nt 64)))) := by
           rw [scs_set]; exact World.ownsRow.alloc HS2.out _
          have W0 : Hid (Bx ((wr.setCell ⟨g, m, none⟩ (.string (ps[k].2.extract 0 nt ++ ls[m].extract nt 64))).alloc (.cells #[.int .i64 (m : Int), .string ps[k].2] 56)).drew w.heap.size (.slice a1 ss.length c1) (.slice (some ⟨b, off, none⟩) ps.length c2)) := ((V0.out.setO n1 _).alloc _).drew
          have W1 : Hid (Bx ((wr.setCell ⟨g, m, none⟩ (.string (ps[k].2.extract 0 nt ++ ls[m].extract nt 64))).alloc (.cells #[.int .i64 (m : Int), .string ps[k].2] 56)).drew (w.heap.size + 1) (.slice none 0 0) (.slice none 0 0)) := ((V1.out.setO (by show g ≠ _; omega) _).alloc _).drew
          have W2 : Hid (Bx ((wr.setCell ⟨g, m, none⟩ (.string (ps[k].2.extract 0 nt ++ ls[m].extract nt 64))).alloc (.cells #[.int .i64 (m : Int), .string ps[k].2] 56)).drew X (.slice (some ⟨g, 0, none⟩) ss.length d1) (.slice b2 ps.length d2)) := ((V2.out.setO n2 _).alloc _).drew
          have HB3 : Hid (Below w.heap.size w ((wr.setCell ⟨g, m, none⟩ (.string (ps[k].2.extract 0 nt ++ ls[m].extract nt 64))).alloc (.cells #[.int .i64 (m : Int), .string ps[k].2] 56)).drew) := ((HB.out.setCell (by show w.heap.size ≤ g; omega) _).alloc (by simp [World.setCell]; have := HB.out.size; omega) _).drew
          clear x0 cq cf hc0 hc1 q1 x0' q0' q1' c0' X0' Q0' C0'
          go_wp2
          go_roundw
          case rel => exact ⟨k + 1, _, by omega, by go_num, HR2, HL3, HB3, W0, W1, W2, HW3⟩
          case measure => simp [intOf]; omega
         ·have heq' : ((k : Int) == L) = false := by rw [beq_eq_false_iff_ne]; omega
          have HR2 : Hid (ls.set m ps[k].2 = if ((k + 1 : Nat) : Int) ≤ L then flush ss (chs ps ks (k + 1)) else crS ss ps ks t) := by
           show _ = _
           rw [if_pos (by omega), HCY.out, flush_snoc, ← HR1.out, HM.out]; rfl
          have st := World.ownsRow.stored HW.out m (.string ps[k].2)
          have HS2 : Hid _ := st.1
          clear st
          have X0' : Hid ((wr.alloc (.cells #[.int .i64 (m : Int), .string ps[k].2] 56)).cell? ⟨X, 0, none⟩ = some (.slice (some ⟨g, 0, none⟩) ss.length d1)) := (V2.out.alloc _).c0
          have C0' : Hid ((wr.alloc (.cells #[.int .i64 (m : Int), .string ps[k].2] 56)).cell? ⟨g, m, none⟩ = some (.string ls[m])) := (((belowRefl wr).alloc (Nat.le_refl _) _).cell (p := ⟨g, m, none⟩) hgw).trans cq
          have x0' := X0'.out
          have c0' := C0'.out
          go_wp2
          have HL3 : Hid ((ls.set m ps[k].2).length = ss.length) := by show _ = _; rw [List.length_set]; exact HRL.out
          have HW3 : Hid (((wr.setCell ⟨g, m, none⟩ (.string ps[k].2)).alloc (.cells #[.int .i64 (m : Int), .string ps[k].2] 56)).ownsRow (w.heap.size + 1 + 1) 9 1 (.slice (some ⟨g, 0, none⟩) ss.length d1) ss.length (scs (ls.set m ps[k].2))) := by
           rw [scs_set]; exact World.ownsRow.alloc HS2.out _
          have W0 : Hid (Bx ((wr.setCell ⟨g, m, none⟩ (.string ps[k].2)).alloc (.cells #[.int .i64 (m : Int), .string ps[k].2] 56)) w.heap.size (.slice a1 ss.length c1) (.slice (some ⟨b, off, none⟩) ps.length c2)) := ((V0.out.setO n1 _).alloc _)
          have W1 : Hid (Bx ((wr.setCell ⟨g, m, none⟩ (.string ps[k].2)).alloc (.cells #[.int .i64 (m : Int), .string ps[k].2] 56)) (w.heap.size + 1) (.slice none 0 0) (.slice none 0 0)) := ((V1.out.setO (by show g ≠ _; omega) _).alloc _)
          have W2 : Hid (Bx ((wr.setCell ⟨g, m, none⟩ (.string ps[k].2)).alloc (.cells #[.int .i64 (m : Int), .string ps[k].2] 56)) X (.slice (some ⟨g, 0, none⟩) ss.length d1) (.slice b2 ps.length d2)) := ((V2.out.setO n2 _).alloc _)
          have HB3 : Hid (Below w.heap.size w ((wr.setCell ⟨g, m, none⟩ (.string ps[k].2)).alloc (.cells #[.int .i64 (m : Int), .string ps[k].2] 56))) := ((HB.out.setCell (by show w.heap.size ≤ g; omega) _).alloc (by simp [World.setCell]; have := HB.out.size; omega) _)
          go_roundw
          case rel => exact ⟨k + 1, _, by omega, by go_num, HR2, HL3, HB3, W0, W1, W2, HW3⟩
          case measure => simp [intOf]; omega
       ·have hle' : decide ((k : Int) ≤ L) = false := by simp; omega
        have HLS : Hid (ls = crS ss ps ks t) := by have h := HR.out; rw [if_neg hle] at h; exact h
        have x0 := V2.out.c0
        have x1 := V2.out.c1
        have xf := V2.out.fz
        have xl := V2.out.lt
        have t0 := V1.out.c0
        have t1 := V1.out.c1
        have tf := V1.out.fz
        have tl := V1.out.lt
        have nX : w.heap.size + 1 ≠ X := by omega
        have HLE : Hid (ss.length = (crS ss ps ks t).length) := by show _ = _; rw [← HLS.out]; exact HRL.out.symm
        have HSF : Hid (SOwn wr (w.heap.size + 1 + 1) (.slice b1 (crS ss ps ks t).length d1) (crS ss ps ks t)) := by
         show World.ownsRow _ _ _ _ _ _ _
         rw [← HLE.out, ← HLS.out]
         exact HW.out
        have HNX : Hid ((Value.slice b1 (crS ss ps ks t).length d1).ownBlock ≠ some X) := fun e => by
         rw [← HLE.out] at e
         have := (HU.out X e).2
         omega
        go_wp2
        refine bodyPost_ret (v := .agg #[.slice b1 ss.length d1, .slice (some ⟨wr.heap.size, 0, none⟩) 0 0]) (by simp [results, Tryz.results38, go_sem, t0, t1, tl]) rfl ⟨b1, d1, some ⟨wr.heap.size, 0, none⟩, 0, ?_, ⟨?_, ?_⟩, ?_⟩
        ·rw [HE2.out, ← HLE.out]; rfl
        ·have h1 : SOwn (wr.setCell ⟨X, 1, none⟩ (.slice (some ⟨wr.heap.size, 0, none⟩) 0 0)) (w.heap.size + 1 + 1) (.slice b1 (crS ss ps ks t).length d1) (crS ss ps ks t) := own_set HSF.out HNX.out
         exact (((h1.set (by show w.heap.size + 1 < _; omega) _).set (by show w.heap.size + 1 < _; omega) _).alloc _).mono (by omega)
        ·rw [HE2.out]
         have h := POwn.empty (((wr.setCell ⟨X, 1, none⟩ (.slice (some ⟨wr.heap.size, 0, none⟩) 0 0)).setCell ⟨w.heap.size + 1, 0, none⟩ (.slice b1 ss.length d1)).setCell ⟨w.heap.size + 1, 1, none⟩ (.slice (some ⟨wr.heap.size, 0, none⟩) 0 0)) w.heap.size (by simp; omega)
         simpa using h
        ·exact (((HB.out.setCell (by show w.heap.size ≤ X; omega) _).setCell (by show _ ≤ w.heap.size + 1; omega) _).setCell (by show _ ≤ w.heap.size + 1; omega) _).alloc (by simp; omega) _
    ·have hr : t.tmod 65 = (nt : Int) := by have h := HTM.out; rw [if_neg hneg] at h; exact h
     by_cases hlt : k < ps.length
     ·have hlt' : (k : Int) < (ps.length : Int) := by omega
      have hkk' : decide ((k : Int) < (ks.length : Int)) = false := by simp; omega
      go_wp2
      go_loopw [11] (fun ti wr => ∃ (k : Nat) (ls : List ByteArray), (k : Int) ≤ L + 1 ∧ ti = .int .i64 k ∧ Hid (ls = if (k : Int) ≤ L then flush ss (chs ps ks k) else crS ss ps ks t) ∧ Hid (ls.length = ss.length) ∧ Hid (Below w.heap.size w wr) ∧ Hid (Bx wr w.heap.size (.slice a1 ss.length c1) (.slice a2 ps.length c2)) ∧ Hid (Bx wr (w.heap.size + 1) (.slice none 0 0) (.slice none 0 0)) ∧ Hid (Bx wr X (.slice b1 ss.length d1) (.slice b2 ps.length d2)) ∧ Hid (wr.ownsRow (w.heap.size + 1 + 1) 9 1 (.slice b1 ss.length d1) ss.length (scs ls))) (fun ti _ => (L + 1 - intOf ti).toNat)
      case atStart => exact ⟨0, ss, by omega, rfl, HST, rfl, HB2, V0, V1, V2, HD3.out.s⟩
      case round =>
       clear HB2 V0 V1 V2 HD3 HST
       obtain ⟨k, ls, hk, rfl, HR, HRL, HB, V0, V1, V2, HW⟩ := hrel
       have q1 := V0.out.c1
       by_cases hle : (k : Int) ≤ L
       ·obtain ⟨l, hl⟩ := Int.eq_ofNat_of_zero_le (show 0 ≤ L by omega)
        have HLq : Hid (lst ks ps.length = (l : Int)) := HLL.out.trans hl
        have HOD : Hid (oddAt ks l = true) := lst_odd ks _ l HLq.out
        have hlk := odd_lt HOD.out
        have hkl2 : k ≤ l := by omega
        have hlt : k < ps.length := by omega
        have hkk : k < ks.length := by omega
        have hk0 : (0 : Int) ≤ (k : Int) := by omega
        have hlt' : (k : Int) < (ps.length : Int) := by omega
        have hkk' : (k : Int) < (ks.length : Int) := by omega
        have HR1 : Hid (ls = flush ss (chs ps ks k)) := by have h := HR.out; rw [if_pos hle] at h; exact h
        obtain ⟨kb, koff, rfl, hkb, hkc⟩ := (HK.out.below HB.out) (by omega)
        have hck := hkc k hkk
        clear hkc
        have hmb1 : -2 < ks[k].tmod 2 := by
         have := Int.lt_tmod_of_pos ks[k] (show (0 : Int) < 2 by omega)
         omega
        have hmb2 : ks[k].tmod 2 < 2 := Int.tmod_lt_of_pos _ (by omega)
        have e1 : IntKind.i64.wrap (ks[k].tmod 2) = ks[k].tmod 2 := by rw [IntKind.wrap_i64]; omega
        by_cases hodd : ks[k].tmod 2 = 0
        ·have ho : (ks[k].tmod 2 == 0) = true := by simpa using hodd
         have HC : Hid (chs ps ks (k + 1) = chs ps ks k) := chs_no hlt (by simp [oddAt, hkk, hodd])
         have hne : k ≠ l := fun e => by
          have h := HOD.out
          rw [← e] at h
          simp [oddAt, hkk, hodd] at h
         have HR2 : Hid (ls = if ((k + 1 : Nat) : Int) ≤ L then flush ss (chs ps ks (k + 1)) else crS ss ps ks t) := by
          show _ = _
          rw [if_pos (by omega), HC.out]; exact HR1.out
         clear hodd
         go_wp2
         go_roundw
         case rel => exact ⟨k + 1, ls, by omega, by go_num, HR2, HRL, HB, V0, V1, V2, HW⟩
         case measure => simp [intOf]; omega
        ·have ho : (ks[k].tmod 2 == 0) = false := by rw [beq_eq_false_iff_ne]; exact hodd
         have HCY : Hid (chs ps ks (k + 1) = chs ps ks k ++ [ps[k]]) := chs_yes hlt (by simp [oddAt, hkk, hodd])
         clear hodd
         obtain ⟨b, off, rfl, hbl, hc⟩ := HD.out.p.prow (by omega)
         have hc0 := (HB.out.cell (p := ⟨b, off + k * 2, none⟩) hbl).trans (hc k hlt).1
         have hc1 := (HB.out.cell (p := ⟨b, off + k * 2 + 1, none⟩) hbl).trans (hc k hlt).2
         have hwk := HO.out.2.2.2.2 _ (List.getElem_mem hlt)
         obtain ⟨m, hm1⟩ := Int.eq_ofNat_of_zero_le hwk.1
         have HM : Hid (ps[k].1 = (m : Int)) := hm1
         have hmn : (m : Int) < (ss.length : Int) := by rw [← hm1]; exact hwk.2.1
         have hm0 : (0 : Int) ≤ (m : Int) := by omega
         have hpt : ps[k].2.size = 64 := hwk.2.2
         have HPT : Hid (ps[k].2.size = 64) := hpt
         obtain ⟨g, rfl, hbg, hgl⟩ := own_form HW.out (by omega)
         have hgX : g < X := (HU.out g rfl).2
         rw [hm1] at hc0
         clear hc hwk hm1
         have x0 := V2.out.c0
         have xl := V2.out.lt
         have hml0 : m < ls.length := by have := HRL.out; omega
         have cq : wr.cell? ⟨g, m, none⟩ = some (.string ls[m]) := by
          rw [World.ownsRow.cellAt HW.out m (by omega)]; simp [scs, hml0]
         have cf : wr.frozen? ⟨g, m, none⟩ = false := World.ownsRow.frozenAt HW.out m
         have hgw : g < wr.heap.size := by omega
         have n1 : g ≠ w.heap.size := by omega
         have n2 : g ≠ X := by omega
         have n4 : g ≠ wr.heap.size := by omega
         have n5 : X ≠ wr.heap.size := by omega
         by_cases heq : k = l
         ·have heq' : ((k : Int) == L) = true := by rw [beq_iff_eq]; omega
          have hl64 : ls[m].size = 64 := by
           have h1 := flush_64 ss (chs ps ks k) HO.out.2.2.2.1 (fun p hp => (HO.out.2.2.2.2 p (chs_mem ps ks _ p hp)).2.2)
           exact h1 _ (by rw [← HR1.out]; exact List.getElem_mem hml0)
          have HFIN : Hid (ls.set m (ps[k].2.extract 0 nt ++ ls[m].extract nt 64) = crS ss ps ks t) := by
           show _ = _
           have h := cr_last (t := t) HOK.out (HLq.out.trans (by rw [heq])) hlt HM.out HNT.out hnl
           rw [← HR1.out] at h
           have e : ls.getD m ByteArray.empty = ls[m] := by simp [hml0]
           rw [e] at h
           exact h
          have hnt1 : (nt : Int) ≤ (ps[k].2.size : Int) := by omega
          have hnt3 : (nt : Int) ≤ (ls[m].size : Int) := by omega
          have hnt0 : (0 : Int) ≤ (nt : Int) := by omega
          have hnt64 : (nt : Int) ≤ 64 := by omega
          have st := World.ownsRow.stored HW.out m (.string (ps[k].2.extract 0 nt ++ ls[m].extract nt 64))
          have HS2 : Hid _ := st.1
          clear st
          have X0' : Hid ((wr.alloc (.cells #[.int .i64 (m : Int), .string ps[k].2] 56)).cell? ⟨X, 0, none⟩ = some (.slice (some ⟨g, 0, none⟩) ss.length d1)) := (V2.out.alloc _).c0
          have Q0' : Hid ((wr.alloc (.cells #[.int .i64 (m : Int), .string ps[k].2] 56)).cell? ⟨wr.heap.size, 0, none⟩ = some (.int .i64 (m : Int)) ∧ (wr.alloc (.cells #[.int .i64 (m : Int), .string ps[k].2] 56)).cell? ⟨wr.heap.size, 1, none⟩ = some (.string ps[k].2)) := ⟨(Bx.new wr _ _ 56).c0, (Bx.new wr _ _ 56).c1⟩
          have C0' : Hid ((wr.alloc (.cells #[.int .i64 (m : Int), .string ps[k].2] 56)).cell? ⟨g, m, none⟩ = some (.string ls[m])) := (((belowRefl wr).alloc (Nat.le_refl _) _).cell (p := ⟨g, m, none⟩) hgw).trans cq
          have x0' := X0'.out
          have q0' := Q0'.out.1
          have q1' := Q0'.out.2
          have c0' := C0'.out
          have HR2 : Hid (ls.set m (ps[k].2.extract 0 nt ++ ls[m].extract nt 64) = if ((k + 1 : Nat) : Int) ≤ L then flush ss (chs ps ks (k + 1)) else crS ss ps ks t) := by
           show _ = _
           rw [if_neg (by omega)]; exact HFIN.out
          have HLM : Hid (ls[m].size = 64) := hl64
          have hsum : ¬ 9223372036854775807 < nt + (64 - nt) := by omega
          clear heq hl
          go_wp2
          refine wp_region_held_drew (S := fun w' => w'.cell? ⟨X, 0, none⟩ = some (.slice (some ⟨g, 0, none⟩) ss.length d1) ∧ w'.cell? ⟨wr.heap.size, 0, none⟩ = some (.int .i64 (m : Int)) ∧ w'.cell? ⟨wr.heap.size, 1, none⟩ = some (.string ps[k].2)) (by kernel_rfl) ⟨x0', q0', q1'⟩ (fun hHeld => ?_)
          (refine tk 0 ?_ rfl (Or.inl ⟨by rfl, ?_⟩) ?_; rotate_left; (focus (intro w h; (try dsimp only at h); go_simp; (try with_reducible rfl))); simp only [Act.put, tA, tB, tD, tE, tF])
          (refine tk 1 ?_ rfl (Or.inl ⟨by rfl, ?_⟩) ?_; rotate_left; (focus (intro w h; (try dsimp only at h); go_simp; (try with_reducible rfl))); simp only [Act.put, tA, tB, tC, tD, tE, tF])
          (refine tk 2 ?_ rfl (Or.inl ⟨by rfl, ?_⟩) ?_; rotate_left; (focus (intro w h; (try dsimp only at h); go_simp; (try with_reducible rfl))); simp only [Act.put, tA, tB, tC, tD, tE, tF])
          (refine tk 3 ?_ rfl (Or.inl ⟨by rfl, ?_⟩) ?_; rotate_left; (focus (intro w h; (try dsimp only at h); go_simp; (try with_reducible rfl))); simp only [Act.put, tA, tB, tC, tD, tE, tF])
          (refine tk 4 ?_ rfl (Or.inl ⟨by rfl, ?_⟩) ?_; rotate_left; (focus (intro w h; (try dsimp only at h); go_simp; (try with_reducible rfl))); simp only [Act.put, tA, tB, tC, tD, tE, tF])
          (refine tk 5 ?_ rfl (Or.inl ⟨by rfl, ?_⟩) ?_; rotate_left; (focus (intro w h; (try dsimp only at h); go_simp; (try with_reducible rfl))); simp only [Act.put, tA, tB, tC, tD, tE, tF])
          (refine tk 6 ?_ rfl (Or.inl ⟨by rfl, ?_⟩) ?_; rotate_left; (focus (intro w h; (try dsimp only at h); go_simp; (try with_reducible rfl))); simp only [Act.put, tA, tB, tC, tD, tE, tF])
          (refine tk 7 ?_ rfl (Or.inl ⟨by rfl, ?_⟩) ?_; rotate_left; (focus (intro w h; (try dsimp only at h); go_simp; (try with_reducible rfl))); simp only [Act.put, tA, tB, tC, tD, tE, tF])
          (refine tk 8 ?_ rfl (Or.inl ⟨by rfl, ?_⟩) ?_; rotate_left; (focus (intro w h; (try dsimp only at h); go_simp; (try with_reducible rfl))); simp only [Act.put, tA, tB, tC, tD, tE, tF])
          (refine tk 9 ?_ rfl (Or.inl ⟨by rfl, ?_⟩) ?_; rotate_left; (focus (intro w h; (try dsimp only at h); go_simp; (try with_reducible rfl))); simp only [Act.put, tA, tB, tC, tD, tE, tF])
          (refine tk 10 ?_ rfl (Or.inl ⟨by rfl, ?_⟩) ?_; rotate_left; (focus (intro w h; (try dsimp only at h); go_simp; (try with_reducible rfl))); simp only [Act.put, tA, tB, tC, tD, tE, tF])
          (refine tk 11 ?_ rfl (Or.inl ⟨by rfl, ?_⟩) ?_; rotate_left; (focus (intro w h; (try dsimp only at h); go_simp; (try with_reducible rfl))); simp only [Act.put, tA, tB, tC, tD, tE, tF])
          (refine tk 12 ?_ rfl (Or.inl ⟨by rfl, ?_⟩) ?_; rotate_left; (focus (intro w h; (try dsimp only at h); go_simp; (try with_reducible rfl))); simp only [Act.put, tA, tB, tC, tD, tE, tF])
          (refine tk 14 ?_ rfl (Or.inl ⟨by rfl, ?_⟩) ?_; rotate_left; (focus (intro w h; (try dsimp only at h); go_simp; (try with_reducible rfl))); simp only [Act.put, tA, tB, tC, tD, tE, tF])
          refine wpAnyH_ready (rs := [13]) (by kernel_rfl) (by simp) ?_
          refine AllReadyH.cons rfl (fun K hK => ?_) AllReadyH.nil
          go_simp
          refine hK.out _ _ ⟨x0', q0', q1'⟩ (fun hHeld2 => ?_)
          clear hK K
          (refine tk 15 ?_ rfl (Or.inl ⟨by rfl, ?_⟩) ?_; rotate_left; (focus (intro w h; (try dsimp only at h); go_simp; (try with_reducible rfl))); simp only [Act.put, tA, tB, tC, tD, tE, tF])
          (refine tk 16 ?_ rfl (Or.inl ⟨by rfl, ?_⟩) ?_; rotate_left; (focus (intro w h; (try dsimp only at h); go_simp; (try with_reducible rfl))); simp only [Act.put, tA, tB, tC, tD, tE, tF])
          (refine tk 17 ?_ rfl (Or.inl ⟨by rfl, ?_⟩) ?_; rotate_left; (focus (intro w h; (try dsimp only at h); go_simp; (try with_reducible rfl))); simp only [Act.put, tA, tB, tC, tD, tE, tF])
          refine wpAnyH_ready (rs := [18]) (by kernel_rfl) (by simp) ?_
          refine AllReadyH.cons rfl (fun K hK => ?_) AllReadyH.nil
          go_simp
          have SB : Hid (Bx (((wr.setCell ⟨g, m, none⟩ (.string (ps[k].2.extract 0 nt ++ ls[m].extract nt 64))).alloc (.cells #[.int .i64 (m : Int), .string ps[k].2] 56)).drew) wr.heap.size (.int .i64 (m : Int)) (.string ps[k].2)) := by
           have h := (Bx.new (wr.setCell ⟨g, m, none⟩ (.string (ps[k].2.extract 0 nt ++ ls[m].extract nt 64))) (.int .i64 (m : Int)) (.string ps[k].2) 56).drew
           show Bx _ _ _ _
           simpa [World.setCell] using h
          have SX : Hid (Bx (((wr.setCell ⟨g, m, none⟩ (.string (ps[k].2.extract 0 nt ++ ls[m].extract nt 64))).alloc (.cells #[.int .i64 (m : Int), .string ps[k].2] 56)).drew) X (.slice (some ⟨g, 0, none⟩) ss.length d1) (.slice b2 ps.length d2)) := ((V2.out.setO n2 _).alloc _).drew
          refine hK.out _ _ ⟨SX.out.c0, SB.out.c0, SB.out.c1⟩ (fun hHeld3 => ?_)
          clear hK K hHeld hHeld2 hHeld3 SB SX
          refine wpAnyH_done (by kernel_rfl) ?_ _
          have HL3 : Hid ((ls.set m (ps[k].2.extract 0 nt ++ ls[m].extract nt 64)).length = ss.length) := by show _ = _; rw [List.length_set]; exact HRL.out
          have HW3 : Hid (((wr.setCell ⟨g, m, none⟩ (.string (ps[k].2.extract 0 nt ++ ls[m].extract nt 64))).alloc (.cells #[.int .i64 (m : Int), .string ps[k].2] 56)).drew.ownsRow (w.heap.size + 1 + 1) 9 1 (.slice (some ⟨g, 0, none⟩) ss.length d1) ss.length (scs (ls.set m (ps[k].2.extract 0 nt ++ ls[m].extract nt 64)))) := by
           rw [scs_set]; exact World.ownsRow.alloc HS2.out _
          have W0 : Hid (Bx ((wr.setCell ⟨g, m, none⟩ (.string (ps[k].2.extract 0 nt ++ ls[m].extract nt 64))).alloc (.cells #[.int .i64 (m : Int), .string ps[k].2] 56)).drew w.heap.size (.slice a1 ss.length c1) (.slice (some ⟨b, off, none⟩) ps.length c2)) := ((V0.out.setO n1 _).alloc _).drew
          have W1 : Hid (Bx ((wr.setCell ⟨g, m, none⟩ (.string (ps[k].2.extract 0 nt ++ ls[m].extract nt 64))).alloc (.cells #[.int .i64 (m : Int), .string ps[k].2] 56)).drew (w.heap.size + 1) (.slice none 0 0) (.slice none 0 0)) := ((V1.out.setO (by show g ≠ _; omega) _).alloc _).drew
          have W2 : Hid (Bx ((wr.setCell ⟨g, m, none⟩ (.string (ps[k].2.extract 0 nt ++ ls[m].extract nt 64))).alloc (.cells #[.int .i64 (m : Int), .string ps[k].2] 56)).drew X (.slice (some ⟨g, 0, none⟩) ss.length d1) (.slice b2 ps.length d2)) := ((V2.out.setO n2 _).alloc _).drew
          have HB3 : Hid (Below w.heap.size w ((wr.setCell ⟨g, m, none⟩ (.string (ps[k].2.extract 0 nt ++ ls[m].extract nt 64))).alloc (.cells #[.int .i64 (m : Int), .string ps[k].2] 56)).drew) := ((HB.out.setCell (by show w.heap.size ≤ g; omega) _).alloc (by simp [World.setCell]; have := HB.out.size; omega) _).drew
          clear x0 cq cf hc0 hc1 q1 x0' q0' q1' c0' X0' Q0' C0'
          go_wp2
          go_roundw
          case rel => exact ⟨k + 1, _, by omega, by go_num, HR2, HL3, HB3, W0, W1, W2, HW3⟩
          case measure => simp [intOf]; omega
         ·have heq' : ((k : Int) == L) = false := by rw [beq_eq_false_iff_ne]; omega
          have HR2 : Hid (ls.set m ps[k].2 = if ((k + 1 : Nat) : Int) ≤ L then flush ss (chs ps ks (k + 1)) else crS ss ps ks t) := by
           show _ = _
           rw [if_pos (by omega), HCY.out, flush_snoc, ← HR1.out, HM.out]; rfl
          have st := World.ownsRow.stored HW.out m (.string ps[k].2)
          have HS2 : Hid _ := st.1
          clear st
          have X0' : Hid ((wr.alloc (.cells #[.int .i64 (m : Int), .string ps[k].2] 56)).cell? ⟨X, 0, none⟩ = some (.slice (some ⟨g, 0, none⟩) ss.length d1)) := (V2.out.alloc _).c0
          have C0' : Hid ((wr.alloc (.cells #[.int .i64 (m : Int), .string ps[k].2] 56)).cell? ⟨g, m, none⟩ = some (.string ls[m])) := (((belowRefl wr).alloc (Nat.le_refl _) _).cell (p := ⟨g, m, none⟩) hgw).trans cq
          have x0' := X0'.out
          have c0' := C0'.out
          go_wp2
          have HL3 : Hid ((ls.set m ps[k].2).length = ss.length) := by show _ = _; rw [List.length_set]; exact HRL.out
          have HW3 : Hid (((wr.setCell ⟨g, m, none⟩ (.string ps[k].2)).alloc (.cells #[.int .i64 (m : Int), .string ps[k].2] 56)).ownsRow (w.heap.size + 1 + 1) 9 1 (.slice (some ⟨g, 0, none⟩) ss.length d1) ss.length (scs (ls.set m ps[k].2))) := by
           rw [scs_set]; exact World.ownsRow.alloc HS2.out _
          have W0 : Hid (Bx ((wr.setCell ⟨g, m, none⟩ (.string ps[k].2)).alloc (.cells #[.int .i64 (m : Int), .string ps[k].2] 56)) w.heap.size (.slice a1 ss.length c1) (.slice (some ⟨b, off, none⟩) ps.length c2)) := ((V0.out.setO n1 _).alloc _)
          have W1 : Hid (Bx ((wr.setCell ⟨g, m, none⟩ (.string ps[k].2)).alloc (.cells #[.int .i64 (m : Int), .string ps[k].2] 56)) (w.heap.size + 1) (.slice none 0 0) (.slice none 0 0)) := ((V1.out.setO (by show g ≠ _; omega) _).alloc _)
          have W2 : Hid (Bx ((wr.setCell ⟨g, m, none⟩ (.string ps[k].2)).alloc (.cells #[.int .i64 (m : Int), .string ps[k].2] 56)) X (.slice (some ⟨g, 0, none⟩) ss.length d1) (.slice b2 ps.length d2)) := ((V2.out.setO n2 _).alloc _)
          have HB3 : Hid (Below w.heap.size w ((wr.setCell ⟨g, m, none⟩ (.string ps[k].2)).alloc (.cells #[.int .i64 (m : Int), .string ps[k].2] 56))) := ((HB.out.setCell (by show w.heap.size ≤ g; omega) _).alloc (by simp [World.setCell]; have := HB.out.size; omega) _)
          go_roundw
          case rel => exact ⟨k + 1, _, by omega, by go_num, HR2, HL3, HB3, W0, W1, W2, HW3⟩
          case measure => simp [intOf]; omega
       ·have hle' : decide ((k : Int) ≤ L) = false := by simp; omega
        have HLS : Hid (ls = crS ss ps ks t) := by have h := HR.out; rw [if_neg hle] at h; exact h
        have x0 := V2.out.c0
        have x1 := V2.out.c1
        have xf := V2.out.fz
        have xl := V2.out.lt
        have t0 := V1.out.c0
        have t1 := V1.out.c1
        have tf := V1.out.fz
        have tl := V1.out.lt
        have nX : w.heap.size + 1 ≠ X := by omega
        have HLE : Hid (ss.length = (crS ss ps ks t).length) := by show _ = _; rw [← HLS.out]; exact HRL.out.symm
        have HSF : Hid (SOwn wr (w.heap.size + 1 + 1) (.slice b1 (crS ss ps ks t).length d1) (crS ss ps ks t)) := by
         show World.ownsRow _ _ _ _ _ _ _
         rw [← HLE.out, ← HLS.out]
         exact HW.out
        have HNX : Hid ((Value.slice b1 (crS ss ps ks t).length d1).ownBlock ≠ some X) := fun e => by
         rw [← HLE.out] at e
         have := (HU.out X e).2
         omega
        go_wp2
        refine bodyPost_ret (v := .agg #[.slice b1 ss.length d1, .slice (some ⟨wr.heap.size, 0, none⟩) 0 0]) (by simp [results, Tryz.results38, go_sem, t0, t1, tl]) rfl ⟨b1, d1, some ⟨wr.heap.size, 0, none⟩, 0, ?_, ⟨?_, ?_⟩, ?_⟩
        ·rw [HE2.out, ← HLE.out]; rfl
        ·have h1 : SOwn (wr.setCell ⟨X, 1, none⟩ (.slice (some ⟨wr.heap.size, 0, none⟩) 0 0)) (w.heap.size + 1 + 1) (.slice b1 (crS ss ps ks t).length d1) (crS ss ps ks t) := own_set HSF.out HNX.out
         exact (((h1.set (by show w.heap.size + 1 < _; omega) _).set (by show w.heap.size + 1 < _; omega) _).alloc _).mono (by omega)
        ·rw [HE2.out]
         have h := POwn.empty (((wr.setCell ⟨X, 1, none⟩ (.slice (some ⟨wr.heap.size, 0, none⟩) 0 0)).setCell ⟨w.heap.size + 1, 0, none⟩ (.slice b1 ss.length d1)).setCell ⟨w.heap.size + 1, 1, none⟩ (.slice (some ⟨wr.heap.size, 0, none⟩) 0 0)) w.heap.size (by simp; omega)
         simpa using h
        ·exact (((HB.out.setCell (by show w.heap.size ≤ X; omega) _).setCell (by show _ ≤ w.heap.size + 1; omega) _).setCell (by show _ ≤ w.heap.size + 1; omega) _).alloc (by simp; omega) _
     ·have hlt' : decide ((k : Int) < (ps.length : Int)) = false := by simp; omega
      go_wp2
      go_loopw [11] (fun ti wr => ∃ (k : Nat) (ls : List ByteArray), (k : Int) ≤ L + 1 ∧ ti = .int .i64 k ∧ Hid (ls = if (k : Int) ≤ L then flush ss (chs ps ks k) else crS ss ps ks t) ∧ Hid (ls.length = ss.length) ∧ Hid (Below w.heap.size w wr) ∧ Hid (Bx wr w.heap.size (.slice a1 ss.length c1) (.slice a2 ps.length c2)) ∧ Hid (Bx wr (w.heap.size + 1) (.slice none 0 0) (.slice none 0 0)) ∧ Hid (Bx wr X (.slice b1 ss.length d1) (.slice b2 ps.length d2)) ∧ Hid (wr.ownsRow (w.heap.size + 1 + 1) 9 1 (.slice b1 ss.length d1) ss.length (scs ls))) (fun ti _ => (L + 1 - intOf ti).toNat)
      case atStart => exact ⟨0, ss, by omega, rfl, HST, rfl, HB2, V0, V1, V2, HD3.out.s⟩
      case round =>
       clear HB2 V0 V1 V2 HD3 HST
       obtain ⟨k, ls, hk, rfl, HR, HRL, HB, V0, V1, V2, HW⟩ := hrel
       have q1 := V0.out.c1
       by_cases hle : (k : Int) ≤ L
       ·obtain ⟨l, hl⟩ := Int.eq_ofNat_of_zero_le (show 0 ≤ L by omega)
        have HLq : Hid (lst ks ps.length = (l : Int)) := HLL.out.trans hl
        have HOD : Hid (oddAt ks l = true) := lst_odd ks _ l HLq.out
        have hlk := odd_lt HOD.out
        have hkl2 : k ≤ l := by omega
        have hlt : k < ps.length := by omega
        have hkk : k < ks.length := by omega
        have hk0 : (0 : Int) ≤ (k : Int) := by omega
        have hlt' : (k : Int) < (ps.length : Int) := by omega
        have hkk' : (k : Int) < (ks.length : Int) := by omega
        have HR1 : Hid (ls = flush ss (chs ps ks k)) := by have h := HR.out; rw [if_pos hle] at h; exact h
        obtain ⟨kb, koff, rfl, hkb, hkc⟩ := (HK.out.below HB.out) (by omega)
        have hck := hkc k hkk
        clear hkc
        have hmb1 : -2 < ks[k].tmod 2 := by
         have := Int.lt_tmod_of_pos ks[k] (show (0 : Int) < 2 by omega)
         omega
        have hmb2 : ks[k].tmod 2 < 2 := Int.tmod_lt_of_pos _ (by omega)
        have e1 : IntKind.i64.wrap (ks[k].tmod 2) = ks[k].tmod 2 := by rw [IntKind.wrap_i64]; omega
        by_cases hodd : ks[k].tmod 2 = 0
        ·have ho : (ks[k].tmod 2 == 0) = true := by simpa using hodd
         have HC : Hid (chs ps ks (k + 1) = chs ps ks k) := chs_no hlt (by simp [oddAt, hkk, hodd])
         have hne : k ≠ l := fun e => by
          have h := HOD.out
          rw [← e] at h
          simp [oddAt, hkk, hodd] at h
         have HR2 : Hid (ls = if ((k + 1 : Nat) : Int) ≤ L then flush ss (chs ps ks (k + 1)) else crS ss ps ks t) := by
          show _ = _
          rw [if_pos (by omega), HC.out]; exact HR1.out
         clear hodd
         go_wp2
         go_roundw
         case rel => exact ⟨k + 1, ls, by omega, by go_num, HR2, HRL, HB, V0, V1, V2, HW⟩
         case measure => simp [intOf]; omega
        ·have ho : (ks[k].tmod 2 == 0) = false := by rw [beq_eq_false_iff_ne]; exact hodd
         have HCY : Hid (chs ps ks (k + 1) = chs ps ks k ++ [ps[k]]) := chs_yes hlt (by simp [oddAt, hkk, hodd])
         clear hodd
         obtain ⟨b, off, rfl, hbl, hc⟩ := HD.out.p.prow (by omega)
         have hc0 := (HB.out.cell (p := ⟨b, off + k * 2, none⟩) hbl).trans (hc k hlt).1
         have hc1 := (HB.out.cell (p := ⟨b, off + k * 2 + 1, none⟩) hbl).trans (hc k hlt).2
         have hwk := HO.out.2.2.2.2 _ (List.getElem_mem hlt)
         obtain ⟨m, hm1⟩ := Int.eq_ofNat_of_zero_le hwk.1
         have HM : Hid (ps[k].1 = (m : Int)) := hm1
         have hmn : (m : Int) < (ss.length : Int) := by rw [← hm1]; exact hwk.2.1
         have hm0 : (0 : Int) ≤ (m : Int) := by omega
         have hpt : ps[k].2.size = 64 := hwk.2.2
         have HPT : Hid (ps[k].2.size = 64) := hpt
         obtain ⟨g, rfl, hbg, hgl⟩ := own_form HW.out (by omega)
         have hgX : g < X := (HU.out g rfl).2
         rw [hm1] at hc0
         clear hc hwk hm1
         have x0 := V2.out.c0
         have xl := V2.out.lt
         have hml0 : m < ls.length := by have := HRL.out; omega
         have cq : wr.cell? ⟨g, m, none⟩ = some (.string ls[m]) := by
          rw [World.ownsRow.cellAt HW.out m (by omega)]; simp [scs, hml0]
         have cf : wr.frozen? ⟨g, m, none⟩ = false := World.ownsRow.frozenAt HW.out m
         have hgw : g < wr.heap.size := by omega
         have n1 : g ≠ w.heap.size := by omega
         have n2 : g ≠ X := by omega
         have n4 : g ≠ wr.heap.size := by omega
         have n5 : X ≠ wr.heap.size := by omega
         by_cases heq : k = l
         ·have heq' : ((k : Int) == L) = true := by rw [beq_iff_eq]; omega
          have hl64 : ls[m].size = 64 := by
           have h1 := flush_64 ss (chs ps ks k) HO.out.2.2.2.1 (fun p hp => (HO.out.2.2.2.2 p (chs_mem ps ks _ p hp)).2.2)
           exact h1 _ (by rw [← HR1.out]; exact List.getElem_mem hml0)
          have HFIN : Hid (ls.set m (ps[k].2.extract 0 nt ++ ls[m].extract nt 64) = crS ss ps ks t) := by
           show _ = _
           have h := cr_last (t := t) HOK.out (HLq.out.trans (by rw [heq])) hlt HM.out HNT.out hnl
           rw [← HR1.out] at h
           have e : ls.getD m ByteArray.empty = ls[m] := by simp [hml0]
           rw [e] at h
           exact h
          have hnt1 : (nt : Int) ≤ (ps[k].2.size : Int) := by omega
          have hnt3 : (nt : Int) ≤ (ls[m].size : Int) := by omega
          have hnt0 : (0 : Int) ≤ (nt : Int) := by omega
          have hnt64 : (nt : Int) ≤ 64 := by omega
          have st := World.ownsRow.stored HW.out m (.string (ps[k].2.extract 0 nt ++ ls[m].extract nt 64))
          have HS2 : Hid _ := st.1
          clear st
          have X0' : Hid ((wr.alloc (.cells #[.int .i64 (m : Int), .string ps[k].2] 56)).cell? ⟨X, 0, none⟩ = some (.slice (some ⟨g, 0, none⟩) ss.length d1)) := (V2.out.alloc _).c0
          have Q0' : Hid ((wr.alloc (.cells #[.int .i64 (m : Int), .string ps[k].2] 56)).cell? ⟨wr.heap.size, 0, none⟩ = some (.int .i64 (m : Int)) ∧ (wr.alloc (.cells #[.int .i64 (m : Int), .string ps[k].2] 56)).cell? ⟨wr.heap.size, 1, none⟩ = some (.string ps[k].2)) := ⟨(Bx.new wr _ _ 56).c0, (Bx.new wr _ _ 56).c1⟩
          have C0' : Hid ((wr.alloc (.cells #[.int .i64 (m : Int), .string ps[k].2] 56)).cell? ⟨g, m, none⟩ = some (.string ls[m])) := (((belowRefl wr).alloc (Nat.le_refl _) _).cell (p := ⟨g, m, none⟩) hgw).trans cq
          have x0' := X0'.out
          have q0' := Q0'.out.1
          have q1' := Q0'.out.2
          have c0' := C0'.out
          have HR2 : Hid (ls.set m (ps[k].2.extract 0 nt ++ ls[m].extract nt 64) = if ((k + 1 : Nat) : Int) ≤ L then flush ss (chs ps ks (k + 1)) else crS ss ps ks t) := by
           show _ = _
           rw [if_neg (by omega)]; exact HFIN.out
          have HLM : Hid (ls[m].size = 64) := hl64
          have hsum : ¬ 9223372036854775807 < nt + (64 - nt) := by omega
          clear heq hl
          go_wp2
          refine wp_region_held_drew (S := fun w' => w'.cell? ⟨X, 0, none⟩ = some (.slice (some ⟨g, 0, none⟩) ss.length d1) ∧ w'.cell? ⟨wr.heap.size, 0, none⟩ = some (.int .i64 (m : Int)) ∧ w'.cell? ⟨wr.heap.size, 1, none⟩ = some (.string ps[k].2)) (by kernel_rfl) ⟨x0', q0', q1'⟩ (fun hHeld => ?_)
          (refine tk 0 ?_ rfl (Or.inl ⟨by rfl, ?_⟩) ?_; rotate_left; (focus (intro w h; (try dsimp only at h); go_simp; (try with_reducible rfl))); simp only [Act.put, tA, tB, tD, tE, tF])
          (refine tk 1 ?_ rfl (Or.inl ⟨by rfl, ?_⟩) ?_; rotate_left; (focus (intro w h; (try dsimp only at h); go_simp; (try with_reducible rfl))); simp only [Act.put, tA, tB, tC, tD, tE, tF])
          (refine tk 2 ?_ rfl (Or.inl ⟨by rfl, ?_⟩) ?_; rotate_left; (focus (intro w h; (try dsimp only at h); go_simp; (try with_reducible rfl))); simp only [Act.put, tA, tB, tC, tD, tE, tF])
          (refine tk 3 ?_ rfl (Or.inl ⟨by rfl, ?_⟩) ?_; rotate_left; (focus (intro w h; (try dsimp only at h); go_simp; (try with_reducible rfl))); simp only [Act.put, tA, tB, tC, tD, tE, tF])
          (refine tk 4 ?_ rfl (Or.inl ⟨by rfl, ?_⟩) ?_; rotate_left; (focus (intro w h; (try dsimp only at h); go_simp; (try with_reducible rfl))); simp only [Act.put, tA, tB, tC, tD, tE, tF])
          (refine tk 5 ?_ rfl (Or.inl ⟨by rfl, ?_⟩) ?_; rotate_left; (focus (intro w h; (try dsimp only at h); go_simp; (try with_reducible rfl))); simp only [Act.put, tA, tB, tC, tD, tE, tF])
          (refine tk 6 ?_ rfl (Or.inl ⟨by rfl, ?_⟩) ?_; rotate_left; (focus (intro w h; (try dsimp only at h); go_simp; (try with_reducible rfl))); simp only [Act.put, tA, tB, tC, tD, tE, tF])
          (refine tk 7 ?_ rfl (Or.inl ⟨by rfl, ?_⟩) ?_; rotate_left; (focus (intro w h; (try dsimp only at h); go_simp; (try with_reducible rfl))); simp only [Act.put, tA, tB, tC, tD, tE, tF])
          (refine tk 8 ?_ rfl (Or.inl ⟨by rfl, ?_⟩) ?_; rotate_left; (focus (intro w h; (try dsimp only at h); go_simp; (try with_reducible rfl))); simp only [Act.put, tA, tB, tC, tD, tE, tF])
          (refine tk 9 ?_ rfl (Or.inl ⟨by rfl, ?_⟩) ?_; rotate_left; (focus (intro w h; (try dsimp only at h); go_simp; (try with_reducible rfl))); simp only [Act.put, tA, tB, tC, tD, tE, tF])
          (refine tk 10 ?_ rfl (Or.inl ⟨by rfl, ?_⟩) ?_; rotate_left; (focus (intro w h; (try dsimp only at h); go_simp; (try with_reducible rfl))); simp only [Act.put, tA, tB, tC, tD, tE, tF])
          (refine tk 11 ?_ rfl (Or.inl ⟨by rfl, ?_⟩) ?_; rotate_left; (focus (intro w h; (try dsimp only at h); go_simp; (try with_reducible rfl))); simp only [Act.put, tA, tB, tC, tD, tE, tF])
          (refine tk 12 ?_ rfl (Or.inl ⟨by rfl, ?_⟩) ?_; rotate_left; (focus (intro w h; (try dsimp only at h); go_simp; (try with_reducible rfl))); simp only [Act.put, tA, tB, tC, tD, tE, tF])
          (refine tk 14 ?_ rfl (Or.inl ⟨by rfl, ?_⟩) ?_; rotate_left; (focus (intro w h; (try dsimp only at h); go_simp; (try with_reducible rfl))); simp only [Act.put, tA, tB, tC, tD, tE, tF])
          refine wpAnyH_ready (rs := [13]) (by kernel_rfl) (by simp) ?_
          refine AllReadyH.cons rfl (fun K hK => ?_) AllReadyH.nil
          go_simp
          refine hK.out _ _ ⟨x0', q0', q1'⟩ (fun hHeld2 => ?_)
          clear hK K
          (refine tk 15 ?_ rfl (Or.inl ⟨by rfl, ?_⟩) ?_; rotate_left; (focus (intro w h; (try dsimp only at h); go_simp; (try with_reducible rfl))); simp only [Act.put, tA, tB, tC, tD, tE, tF])
          (refine tk 16 ?_ rfl (Or.inl ⟨by rfl, ?_⟩) ?_; rotate_left; (focus (intro w h; (try dsimp only at h); go_simp; (try with_reducible rfl))); simp only [Act.put, tA, tB, tC, tD, tE, tF])
          (refine tk 17 ?_ rfl (Or.inl ⟨by rfl, ?_⟩) ?_; rotate_left; (focus (intro w h; (try dsimp only at h); go_simp; (try with_reducible rfl))); simp only [Act.put, tA, tB, tC, tD, tE, tF])
          refine wpAnyH_ready (rs := [18]) (by kernel_rfl) (by simp) ?_
          refine AllReadyH.cons rfl (fun K hK => ?_) AllReadyH.nil
          go_simp
          have SB : Hid (Bx (((wr.setCell ⟨g, m, none⟩ (.string (ps[k].2.extract 0 nt ++ ls[m].extract nt 64))).alloc (.cells #[.int .i64 (m : Int), .string ps[k].2] 56)).drew) wr.heap.size (.int .i64 (m : Int)) (.string ps[k].2)) := by
           have h := (Bx.new (wr.setCell ⟨g, m, none⟩ (.string (ps[k].2.extract 0 nt ++ ls[m].extract nt 64))) (.int .i64 (m : Int)) (.string ps[k].2) 56).drew
           show Bx _ _ _ _
           simpa [World.setCell] using h
          have SX : Hid (Bx (((wr.setCell ⟨g, m, none⟩ (.string (ps[k].2.extract 0 nt ++ ls[m].extract nt 64))).alloc (.cells #[.int .i64 (m : Int), .string ps[k].2] 56)).drew) X (.slice (some ⟨g, 0, none⟩) ss.length d1) (.slice b2 ps.length d2)) := ((V2.out.setO n2 _).alloc _).drew
          refine hK.out _ _ ⟨SX.out.c0, SB.out.c0, SB.out.c1⟩ (fun hHeld3 => ?_)
          clear hK K hHeld hHeld2 hHeld3 SB SX
          refine wpAnyH_done (by kernel_rfl) ?_ _
          have HL3 : Hid ((ls.set m (ps[k].2.extract 0 nt ++ ls[m].extract nt 64)).length = ss.length) := by show _ = _; rw [List.length_set]; exact HRL.out
          have HW3 : Hid (((wr.setCell ⟨g, m, none⟩ (.string (ps[k].2.extract 0 nt ++ ls[m].extract nt 64))).alloc (.cells #[.int .i64 (m : Int), .string ps[k].2] 56)).drew.ownsRow (w.heap.size + 1 + 1) 9 1 (.slice (some ⟨g, 0, none⟩) ss.length d1) ss.length (scs (ls.set m (ps[k].2.extract 0 nt ++ ls[m].extract nt 64)))) := by
           rw [scs_set]; exact World.ownsRow.alloc HS2.out _
          have W0 : Hid (Bx ((wr.setCell ⟨g, m, none⟩ (.string (ps[k].2.extract 0 nt ++ ls[m].extract nt 64))).alloc (.cells #[.int .i64 (m : Int), .string ps[k].2] 56)).drew w.heap.size (.slice a1 ss.length c1) (.slice (some ⟨b, off, none⟩) ps.length c2)) := ((V0.out.setO n1 _).alloc _).drew
          have W1 : Hid (Bx ((wr.setCell ⟨g, m, none⟩ (.string (ps[k].2.extract 0 nt ++ ls[m].extract nt 64))).alloc (.cells #[.int .i64 (m : Int), .string ps[k].2] 56)).drew (w.heap.size + 1) (.slice none 0 0) (.slice none 0 0)) := ((V1.out.setO (by show g ≠ _; omega) _).alloc _).drew
          have W2 : Hid (Bx ((wr.setCell ⟨g, m, none⟩ (.string (ps[k].2.extract 0 nt ++ ls[m].extract nt 64))).alloc (.cells #[.int .i64 (m : Int), .string ps[k].2] 56)).drew X (.slice (some ⟨g, 0, none⟩) ss.length d1) (.slice b2 ps.length d2)) := ((V2.out.setO n2 _).alloc _).drew
          have HB3 : Hid (Below w.heap.size w ((wr.setCell ⟨g, m, none⟩ (.string (ps[k].2.extract 0 nt ++ ls[m].extract nt 64))).alloc (.cells #[.int .i64 (m : Int), .string ps[k].2] 56)).drew) := ((HB.out.setCell (by show w.heap.size ≤ g; omega) _).alloc (by simp [World.setCell]; have := HB.out.size; omega) _).drew
          clear x0 cq cf hc0 hc1 q1 x0' q0' q1' c0' X0' Q0' C0'
          go_wp2
          go_roundw
          case rel => exact ⟨k + 1, _, by omega, by go_num, HR2, HL3, HB3, W0, W1, W2, HW3⟩
          case measure => simp [intOf]; omega
         ·have heq' : ((k : Int) == L) = false := by rw [beq_eq_false_iff_ne]; omega
          have HR2 : Hid (ls.set m ps[k].2 = if ((k + 1 : Nat) : Int) ≤ L then flush ss (chs ps ks (k + 1)) else crS ss ps ks t) := by
           show _ = _
           rw [if_pos (by omega), HCY.out, flush_snoc, ← HR1.out, HM.out]; rfl
          have st := World.ownsRow.stored HW.out m (.string ps[k].2)
          have HS2 : Hid _ := st.1
          clear st
          have X0' : Hid ((wr.alloc (.cells #[.int .i64 (m : Int), .string ps[k].2] 56)).cell? ⟨X, 0, none⟩ = some (.slice (some ⟨g, 0, none⟩) ss.length d1)) := (V2.out.alloc _).c0
          have C0' : Hid ((wr.alloc (.cells #[.int .i64 (m : Int), .string ps[k].2] 56)).cell? ⟨g, m, none⟩ = some (.string ls[m])) := (((belowRefl wr).alloc (Nat.le_refl _) _).cell (p := ⟨g, m, none⟩) hgw).trans cq
          have x0' := X0'.out
          have c0' := C0'.out
          go_wp2
          have HL3 : Hid ((ls.set m ps[k].2).length = ss.length) := by show _ = _; rw [List.length_set]; exact HRL.out
          have HW3 : Hid (((wr.setCell ⟨g, m, none⟩ (.string ps[k].2)).alloc (.cells #[.int .i64 (m : Int), .string ps[k].2] 56)).ownsRow (w.heap.size + 1 + 1) 9 1 (.slice (some ⟨g, 0, none⟩) ss.length d1) ss.length (scs (ls.set m ps[k].2))) := by
           rw [scs_set]; exact World.ownsRow.alloc HS2.out _
          have W0 : Hid (Bx ((wr.setCell ⟨g, m, none⟩ (.string ps[k].2)).alloc (.cells #[.int .i64 (m : Int), .string ps[k].2] 56)) w.heap.size (.slice a1 ss.length c1) (.slice (some ⟨b, off, none⟩) ps.length c2)) := ((V0.out.setO n1 _).alloc _)
          have W1 : Hid (Bx ((wr.setCell ⟨g, m, none⟩ (.string ps[k].2)).alloc (.cells #[.int .i64 (m : Int), .string ps[k].2] 56)) (w.heap.size + 1) (.slice none 0 0) (.slice none 0 0)) := ((V1.out.setO (by show g ≠ _; omega) _).alloc _)
          have W2 : Hid (Bx ((wr.setCell ⟨g, m, none⟩ (.string ps[k].2)).alloc (.cells #[.int .i64 (m : Int), .string ps[k].2] 56)) X (.slice (some ⟨g, 0, none⟩) ss.length d1) (.slice b2 ps.length d2)) := ((V2.out.setO n2 _).alloc _)
          have HB3 : Hid (Below w.heap.size w ((wr.setCell ⟨g, m, none⟩ (.string ps[k].2)).alloc (.cells #[.int .i64 (m : Int), .string ps[k].2] 56))) := ((HB.out.setCell (by show w.heap.size ≤ g; omega) _).alloc (by simp [World.setCell]; have := HB.out.size; omega) _)
          go_roundw
          case rel => exact ⟨k + 1, _, by omega, by go_num, HR2, HL3, HB3, W0, W1, W2, HW3⟩
          case measure => simp [intOf]; omega
       ·have hle' : decide ((k : Int) ≤ L) = false := by simp; omega
        have HLS : Hid (ls = crS ss ps ks t) := by have h := HR.out; rw [if_neg hle] at h; exact h
        have x0 := V2.out.c0
        have x1 := V2.out.c1
        have xf := V2.out.fz
        have xl := V2.out.lt
        have t0 := V1.out.c0
        have t1 := V1.out.c1
        have tf := V1.out.fz
        have tl := V1.out.lt
        have nX : w.heap.size + 1 ≠ X := by omega
        have HLE : Hid (ss.length = (crS ss ps ks t).length) := by show _ = _; rw [← HLS.out]; exact HRL.out.symm
        have HSF : Hid (SOwn wr (w.heap.size + 1 + 1) (.slice b1 (crS ss ps ks t).length d1) (crS ss ps ks t)) := by
         show World.ownsRow _ _ _ _ _ _ _
         rw [← HLE.out, ← HLS.out]
         exact HW.out
        have HNX : Hid ((Value.slice b1 (crS ss ps ks t).length d1).ownBlock ≠ some X) := fun e => by
         rw [← HLE.out] at e
         have := (HU.out X e).2
         omega
        go_wp2
        refine bodyPost_ret (v := .agg #[.slice b1 ss.length d1, .slice (some ⟨wr.heap.size, 0, none⟩) 0 0]) (by simp [results, Tryz.results38, go_sem, t0, t1, tl]) rfl ⟨b1, d1, some ⟨wr.heap.size, 0, none⟩, 0, ?_, ⟨?_, ?_⟩, ?_⟩
        ·rw [HE2.out, ← HLE.out]; rfl
        ·have h1 : SOwn (wr.setCell ⟨X, 1, none⟩ (.slice (some ⟨wr.heap.size, 0, none⟩) 0 0)) (w.heap.size + 1 + 1) (.slice b1 (crS ss ps ks t).length d1) (crS ss ps ks t) := own_set HSF.out HNX.out
         exact (((h1.set (by show w.heap.size + 1 < _; omega) _).set (by show w.heap.size + 1 < _; omega) _).alloc _).mono (by omega)
        ·rw [HE2.out]
         have h := POwn.empty (((wr.setCell ⟨X, 1, none⟩ (.slice (some ⟨wr.heap.size, 0, none⟩) 0 0)).setCell ⟨w.heap.size + 1, 0, none⟩ (.slice b1 ss.length d1)).setCell ⟨w.heap.size + 1, 1, none⟩ (.slice (some ⟨wr.heap.size, 0, none⟩) 0 0)) w.heap.size (by simp; omega)
         simpa using h
        ·exact (((HB.out.setCell (by show w.heap.size ≤ X; omega) _).setCell (by show _ ≤ w.heap.size + 1; omega) _).setCell (by show _ ≤ w.heap.size + 1; omega) _).alloc (by simp; omega) _
 ·have hok' : okB ss ps = false := by simpa using hok
  have HE : Hid (crS ss ps ks t = ss) := crS_no hok'
  have HE2 : Hid (flP ss ps = ps) := flP_no hok'
  have x0 := V2.out.c0
  have x1 := V2.out.c1
  have t0 := V1.out.c0
  have t1 := V1.out.c1
  have tf := V1.out.fz
  clear hok
  go_wp2
  refine bodyPost_ret (v := .agg #[.slice b1 ss.length d1, .slice b2 ps.length d2]) (by simp [results, Tryz.results38, go_sem, t0, t1]) rfl ⟨b1, d1, b2, d2, ?_, ⟨?_, ?_⟩, ?_⟩
  ·rw [HE.out, HE2.out]
  ·rw [HE.out]
   exact ((HD3.out.s.set (by show w.heap.size + 1 < _; omega) _).set (by show w.heap.size + 1 < _; omega) _).mono (by omega)
  ·rw [HE2.out]
   exact ((HD3.out.p.set (by show w.heap.size + 1 < _; omega) _).set (by show w.heap.size + 1 < _; omega) _).mono (by omega)
  ·exact (HB2.out.setCell (by show _ ≤ w.heap.size + 1; omega) _).setCell (by show _ ≤ w.heap.size + 1; omega) _
end Go.Proofs.YtekjpoenbcnhdaaGreat

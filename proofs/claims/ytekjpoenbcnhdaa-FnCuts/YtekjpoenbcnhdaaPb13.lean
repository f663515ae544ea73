/- What spec.FlushDisk returns. -/
import Derived.Test.YtekjpoenbcnhdaaPb12
namespace Go.Proofs.Ytekjpoenbcnhdaa
open Go.RowKit
open DM
attribute [local go_sem ↓] Go.wp_at_zero Go.wp_at_succ

theorem flush_succ (ss : List ByteArray) (ps : List Wr) (k m : Nat) (hk : k < ps.length) (hm : ps[k].1 = (m : Int)) : flush ss (ps.take (k + 1)) = (flush ss (ps.take k)).set m ps[k].2 := by
  rw [take_succ_p ps k hk, flush_snoc, hm]; rfl
theorem scs_set (ss : List ByteArray) (m : Nat) (t : ByteArray) : scs (ss.set m t) = (scs ss).set m (.string t) := by simp [scs, List.map_set]

set_option maxRecDepth 100000 in
set_option maxHeartbeats 4000000 in
theorem sflush38 (ss : List ByteArray) (ps : List Wr) (a1 a2 : Option Addr) (c1 c2 B0 : Nat) (hn : ss.length ≤ 90000000) (hm : ps.length ≤ 80000000) (w : World) (hd : DOwn w B0 a1 c1 a2 c2 ss ps) :
    Calls Try.prog 27 #[.agg #[.slice a1 ss.length c1, .slice a2 ps.length c2]] w fun e w' => ∃ b1 d1 b2 d2, e = .returned (.agg #[.slice b1 (flS ss ps).length d1, .slice b2 (flP ss ps).length d2]) ∧ DOwn w' w.heap.size b1 d1 b2 d2 (flS ss ps) (flP ss ps) ∧ Below w.heap.size w w' := by
  have HD : Hid (DOwn w B0 a1 c1 a2 c2 ss ps) := hd
  clear hd
  have b0 : Hid (Below w.heap.size w ((w.alloc (.cells #[.slice a1 ss.length c1, .slice a2 ps.length c2] 27)).alloc (.cells #[.slice none 0 0, .slice none 0 0] 27))) := ((belowRefl w).alloc (Nat.le_refl _) _).alloc (by simp) _
  have X0 : Hid (Bx ((w.alloc (.cells #[.slice a1 ss.length c1, .slice a2 ps.length c2] 27)).alloc (.cells #[.slice none 0 0, .slice none 0 0] 27)) w.heap.size (.slice a1 ss.length c1) (.slice a2 ps.length c2)) := (Bx.new w _ _ _).alloc _
  have X1 : Hid (Bx ((w.alloc (.cells #[.slice a1 ss.length c1, .slice a2 ps.length c2] 27)).alloc (.cells #[.slice none 0 0, .slice none 0 0] 27)) (w.heap.size + 1) (.slice none 0 0) (.slice none 0 0)) := by
    have h := Bx.new (w.alloc (.cells #[.slice a1 ss.length c1, .slice a2 ps.length c2] 27)) (.slice none 0 0) (.slice none 0 0) 27
    show Bx _ _ _ _
    simpa using h
  go_enter Try.func27, Try.ntmps27
  go_wp2_with fail
  refine (copy64 ss ps a1 a2 c1 c2 B0 (by omega) (by omega) _ (HD.out.below b0.out)).mono ?_
  rintro e w1 ⟨b1, d1, b2, d2, rfl, hd1, hb1⟩
  have hz1 : w.heap.size + 1 + 1 ≤ w1.heap.size := by have := hb1.size; simp at this; omega
  have HD1 : Hid (DOwn w1 (w.heap.size + 1 + 1) b1 d1 b2 d2 ss ps) := hd1.mono (by simp)
  have HU : Hid (∀ k, (Value.slice b1 ss.length d1).ownBlock = some k → w.heap.size + 1 + 1 ≤ k ∧ k < w1.heap.size) := World.ownsRow.lt HD1.out.s
  have Y0 : Hid (Bx (w1.alloc (.cells #[.slice b1 ss.length d1, .slice b2 ps.length d2] 27)) w.heap.size (.slice a1 ss.length c1) (.slice a2 ps.length c2)) := (X0.out.keep hb1 X0.out.lt).alloc _
  have Y1 : Hid (Bx (w1.alloc (.cells #[.slice b1 ss.length d1, .slice b2 ps.length d2] 27)) (w.heap.size + 1) (.slice none 0 0) (.slice none 0 0)) := (X1.out.keep hb1 X1.out.lt).alloc _
  have HB1 : Hid (Below w.heap.size w (w1.alloc (.cells #[.slice b1 ss.length d1, .slice b2 ps.length d2] 27))) := (b0.out.trans (hb1.mono b0.out.size)).alloc (by omega) _
  have Z1 : Hid (Bx (w1.alloc (.cells #[.slice b1 ss.length d1, .slice b2 ps.length d2] 27)) w1.heap.size (.slice b1 ss.length d1) (.slice b2 ps.length d2)) := Bx.new _ _ _ _
  have HD2 : Hid (DOwn (w1.alloc (.cells #[.slice b1 ss.length d1, .slice b2 ps.length d2] 27)) (w.heap.size + 1 + 1) b1 d1 b2 d2 ss ps) := ⟨HD1.out.s.alloc _, HD1.out.p.alloc _⟩
  have g0 := Y0.out.c0
  have g1 := Y0.out.c1
  clear hd1 hb1 X0 X1 b0
  go_wp2_with fail
  refine (sok37 ss ps a1 a2 c1 c2 (by omega) (by omega) _ (HD.out.s.srow.below HB1.out) (HD.out.p.prow.below HB1.out)).mono ?_
  rintro e w2 ⟨rfl, hb2⟩
  have HB2 : Hid (Below w.heap.size w w2) := HB1.out.trans (hb2.mono HB1.out.size)
  have V0 : Hid (Bx w2 w.heap.size (.slice a1 ss.length c1) (.slice a2 ps.length c2)) := Y0.out.keep hb2 Y0.out.lt
  have V1 : Hid (Bx w2 (w.heap.size + 1) (.slice none 0 0) (.slice none 0 0)) := Y1.out.keep hb2 Y1.out.lt
  have V2 : Hid (Bx w2 w1.heap.size (.slice b1 ss.length d1) (.slice b2 ps.length d2)) := Z1.out.keep hb2 Z1.out.lt
  have HD3 : Hid (DOwn w2 (w.heap.size + 1 + 1) b1 d1 b2 d2 ss ps) := HD2.out.below hb2
  clear hb2 Y0 Y1 Z1 HD1 HD2 HB1 g0 g1
  by_cases hok : okB ss ps = true
  · have HO : Hid (OkD ss ps) := okB_iff.1 hok
    have HE : Hid (flush ss ps = flS ss ps) := (flS_yes hok).symm
    have HE2 : Hid (flP ss ps = []) := flP_yes hok
    have hp60 : ps.length ≤ 1000 := by have := HO.out.2.2.1; omega
    generalize hXX : w1.heap.size = X at *
    go_wp2
    go_loopw [4] (fun t wr => ∃ (k : Nat) (ls : List ByteArray), k ≤ ps.length ∧ t = .int .i64 k ∧ Hid (ls = flush ss (ps.take k)) ∧ Hid (ls.length = ss.length) ∧ Hid (Below w.heap.size w wr) ∧ Hid (Bx wr w.heap.size (.slice a1 ss.length c1) (.slice a2 ps.length c2)) ∧ Hid (Bx wr (w.heap.size + 1) (.slice none 0 0) (.slice none 0 0)) ∧ Hid (Bx wr X (.slice b1 ss.length d1) (.slice b2 ps.length d2)) ∧ Hid (wr.ownsRow (w.heap.size + 1 + 1) 9 1 (.slice b1 ss.length d1) ss.length (scs ls))) (fun t _ => ps.length - (intOf t).toNat)
    case atStart => exact ⟨0, ss, Nat.zero_le _, rfl, rfl, rfl, HB2, V0, V1, V2, HD3.out.s⟩
    case round =>
      clear HB2 V0 V1 V2 HD3
      obtain ⟨k, ls, hk, rfl, HR, HRL, HB, V0, V1, V2, HW⟩ := hrel
      have q1 := V0.out.c1
      by_cases hlt : k < ps.length
      · have hlt' : (k : Int) < (ps.length : Int) := by omega
        have h0 : (0 : Int) ≤ (k : Int) := by omega
        obtain ⟨b, off, rfl, hbl, hc⟩ := HD.out.p.prow (by omega)
        have hc0 := (HB.out.cell (p := ⟨b, off + k * 2, none⟩) hbl).trans (hc k hlt).1
        have hc1 := (HB.out.cell (p := ⟨b, off + k * 2 + 1, none⟩) hbl).trans (hc k hlt).2
        have hwk := HO.out.2.2.2.2 _ (List.getElem_mem hlt)
        obtain ⟨m, hm1⟩ := Int.eq_ofNat_of_zero_le hwk.1
        have HM : Hid (ps[k].1 = (m : Int)) := hm1
        have hmn : (m : Int) < (ss.length : Int) := by rw [← hm1]; exact hwk.2.1
        have hm0 : (0 : Int) ≤ (m : Int) := by omega
        obtain ⟨g, rfl, hbg, hgl⟩ := own_form HW.out (by omega)
        have hgX : g < X := (HU.out g rfl).2
        rw [hm1] at hc0
        clear hc hwk hm1
        have x0 := V2.out.c0
        have hml : m < (scs ls).length := by rw [scs_len, HRL.out]; omega
        have HQ : Hid (wr.cell? ⟨g, m, none⟩ = some ((scs ls)[m]'hml)) := by show _ = _; rw [World.ownsRow.cellAt HW.out m (by omega)]; simp
        have cq := HQ.out
        have cf : wr.frozen? ⟨g, m, none⟩ = false := World.ownsRow.frozenAt HW.out m
        have st := World.ownsRow.stored HW.out m (.string ps[k].2)
        have HS2 : Hid _ := st.1
        have n1 : g ≠ w.heap.size := by omega
        have n2 : g ≠ X := by omega
        have n3 : g ≠ b := by omega
        have HK : Hid ((wr.setCell ⟨g, m, none⟩ (.string ps[k].2)).cell? ⟨w.heap.size, 1, none⟩ = some (.slice (some ⟨b, off, none⟩) ps.length c2) ∧ (wr.setCell ⟨g, m, none⟩ (.string ps[k].2)).cell? ⟨X, 0, none⟩ = some (.slice (some ⟨g, 0, none⟩) ss.length d1) ∧ (wr.setCell ⟨g, m, none⟩ (.string ps[k].2)).cell? ⟨b, off + k * 2, none⟩ = some (.int .i64 (m : Int)) ∧ (wr.setCell ⟨g, m, none⟩ (.string ps[k].2)).cell? ⟨b, off + k * 2 + 1, none⟩ = some (.string ps[k].2)) :=
          ⟨(V0.out.setO n1 _).c1, (V2.out.setO n2 _).c0, (World.cell?_setCell_other _ _ _ _ (fun e => n3 (by cases e; rfl))).trans hc0, (World.cell?_setCell_other _ _ _ _ (fun e => n3 (by cases e; rfl))).trans hc1⟩
        clear st
        go_wp2
        go_region_held3 (fun w' => w'.cell? ⟨w.heap.size, 1, none⟩ = some (.slice (some ⟨b, off, none⟩) ps.length c2) ∧ w'.cell? ⟨X, 0, none⟩ = some (.slice (some ⟨g, 0, none⟩) ss.length d1) ∧ w'.cell? ⟨b, off + k * 2, none⟩ = some (.int .i64 (m : Int)) ∧ w'.cell? ⟨b, off + k * 2 + 1, none⟩ = some (.string ps[k].2)) (first | exact HK.out | go_keep) ((fail))
        all_goals
          have HR3 : Hid (ls.set m ps[k].2 = flush ss (ps.take (k + 1))) := by
            show _ = _
            rw [flush_succ ss ps k m hlt HM.out, ← HR.out]
          have HL3 : Hid ((ls.set m ps[k].2).length = ss.length) := by show _ = _; rw [List.length_set]; exact HRL.out
          have HW3 : Hid ((wr.setCell ⟨g, m, none⟩ (.string ps[k].2)).drew.ownsRow (w.heap.size + 1 + 1) 9 1 (.slice (some ⟨g, 0, none⟩) ss.length d1) ss.length (scs (ls.set m ps[k].2))) := by
            rw [scs_set]; exact HS2.out
          have W0 : Hid (Bx (wr.setCell ⟨g, m, none⟩ (.string ps[k].2)).drew w.heap.size (.slice a1 ss.length c1) (.slice (some ⟨b, off, none⟩) ps.length c2)) := (V0.out.setO n1 _).drew
          have W1 : Hid (Bx (wr.setCell ⟨g, m, none⟩ (.string ps[k].2)).drew (w.heap.size + 1) (.slice none 0 0) (.slice none 0 0)) := (V1.out.setO (by show g ≠ _; omega) _).drew
          have W2 : Hid (Bx (wr.setCell ⟨g, m, none⟩ (.string ps[k].2)).drew X (.slice (some ⟨g, 0, none⟩) ss.length d1) (.slice b2 ps.length d2)) := (V2.out.setO n2 _).drew
          have HB3 : Hid (Below w.heap.size w (wr.setCell ⟨g, m, none⟩ (.string ps[k].2)).drew) := (HB.out.setCell (by show w.heap.size ≤ g; omega) _).drew
          clear x0 cq cf hc0 hc1 q1
          go_wp2
          go_roundw
          case rel => exact ⟨k + 1, _, by omega, by go_num, HR3, HL3, HB3, W0, W1, W2, HW3⟩
          case measure => simp [intOf]; omega
      · have hlt' : ¬ (k : Int) < (ps.length : Int) := by omega
        obtain rfl : k = ps.length := by omega
        have HLS : Hid (ls = flS ss ps) := by have h := HR.out; rw [List.take_length] at h; exact h.trans HE.out
        have x0 := V2.out.c0
        have x1 := V2.out.c1
        have xf := V2.out.fz
        have xl := V2.out.lt
        have t0 := V1.out.c0
        have t1 := V1.out.c1
        have tf := V1.out.fz
        have tl := V1.out.lt
        have nX : w.heap.size + 1 ≠ X := by omega
        have HLE : Hid (ss.length = (flS ss ps).length) := by show _ = _; rw [← HLS.out]; exact HRL.out.symm
        have HSF : Hid (SOwn wr (w.heap.size + 1 + 1) (.slice b1 (flS ss ps).length d1) (flS ss ps)) := by
          show World.ownsRow _ _ _ _ _ _ _
          rw [← HLE.out, ← HLS.out]
          exact HW.out
        have HNX : Hid ((Value.slice b1 (flS ss ps).length d1).ownBlock ≠ some X) := fun e => by
          rw [← HLE.out] at e
          have := (HU.out X e).2
          omega
        go_wp2
        refine bodyPost_ret (v := .agg #[.slice b1 ss.length d1, .slice (some ⟨wr.heap.size, 0, none⟩) 0 0]) (by simp [results, Try.results27, go_sem, t0, t1, tl]) rfl ⟨b1, d1, some ⟨wr.heap.size, 0, none⟩, 0, ?_, ⟨?_, ?_⟩, ?_⟩
        · rw [HE2.out, ← HLE.out]; rfl
        · have h1 : SOwn (wr.setCell ⟨X, 1, none⟩ (.slice (some ⟨wr.heap.size, 0, none⟩) 0 0)) (w.heap.size + 1 + 1) (.slice b1 (flS ss ps).length d1) (flS ss ps) := own_set HSF.out HNX.out
          exact (((h1.set (by show w.heap.size + 1 < _; omega) _).set (by show w.heap.size + 1 < _; omega) _).alloc _).mono (by omega)
        · rw [HE2.out]
          have h := POwn.empty (((wr.setCell ⟨X, 1, none⟩ (.slice (some ⟨wr.heap.size, 0, none⟩) 0 0)).setCell ⟨w.heap.size + 1, 0, none⟩ (.slice b1 ss.length d1)).setCell ⟨w.heap.size + 1, 1, none⟩ (.slice (some ⟨wr.heap.size, 0, none⟩) 0 0)) w.heap.size (by simp; omega)
          simpa using h
        · exact (((HB.out.setCell (by show w.heap.size ≤ X; omega) _).setCell (by show _ ≤ w.heap.size + 1; omega) _).setCell (by show _ ≤ w.heap.size + 1; omega) _).alloc (by simp; omega) _
  · have hok' : okB ss ps = false := by simpa using hok
    have HE : Hid (flS ss ps = ss) := flS_no hok'
    have HE2 : Hid (flP ss ps = ps) := flP_no hok'
    have x0 := V2.out.c0
    have x1 := V2.out.c1
    have t0 := V1.out.c0
    have t1 := V1.out.c1
    have tf := V1.out.fz
    clear hok
    go_wp2
    refine bodyPost_ret (v := .agg #[.slice b1 ss.length d1, .slice b2 ps.length d2]) (by simp [results, Try.results27, go_sem, t0, t1]) rfl ⟨b1, d1, b2, d2, ?_, ⟨?_, ?_⟩, ?_⟩
    · rw [HE.out, HE2.out]
    · rw [HE.out]
      exact ((HD3.out.s.set (by show w.heap.size + 1 < _; omega) _).set (by show w.heap.size + 1 < _; omega) _).mono (by omega)
    · rw [HE2.out]
      exact ((HD3.out.p.set (by show w.heap.size + 1 < _; omega) _).set (by show w.heap.size + 1 < _; omega) _).mono (by omega)
    · exact (HB2.out.setCell (by show _ ≤ w.heap.size + 1; omega) _).setCell (by show _ ≤ w.heap.size + 1; omega) _
end Go.Proofs.Ytekjpoenbcnhdaa

namespace Go.Proofs.Ytekjpoenbcnhdaa
open Go.RowKit
open DM

def spl (b : ByteArray) (p : Nat) (l : List UInt8) : ByteArray := ⟨(b.data.toList.take p ++ l ++ b.data.toList.drop (p + l.length)).toArray⟩
theorem spl_size (b : ByteArray) (p : Nat) (l : List UInt8) (h : p + l.length ≤ b.size) : (spl b p l).size = b.size := by
  show (b.data.toList.take p ++ l ++ b.data.toList.drop (p + l.length)).toArray.size = b.size
  have e : b.data.toList.length = b.size := by simp
  simp only [List.size_toArray, List.length_append, List.length_take, List.length_drop]
  omega
theorem spl_cat (b x : ByteArray) (p i n : Nat) (hn : i + n ≤ x.size) : (b.extract 0 p ++ x.extract i (i + n)) ++ b.extract (p + n) b.size = spl b p ((x.data.toList.drop i).take n) := by
  have e : x.data.toList.length = x.size := by simp
  have hl : ((x.data.toList.drop i).take n).length = n := by
    rw [List.length_take, List.length_drop]; omega
  unfold spl
  rw [hl]
  apply ByteArray.ext
  apply Array.toList_inj.1
  rw [ByteArray.data_append, ByteArray.data_append, Array.toList_append, Array.toList_append, Lib.extract_data, Lib.extract_data, Lib.extract_data]
  have e2 : (b.data.toList.drop (p + n)).take (b.size - (p + n)) = b.data.toList.drop (p + n) := by
    apply List.take_of_length_le
    have e3 : b.data.toList.length = b.size := by simp
    rw [List.length_drop]; omega
  rw [e2, show i + n - i = n by omega]
  simp

def wbGo (ss : List ByteArray) (k0 : Nat) : Nat → List Wr → Nat → List UInt8 → List Wr
  | 0, cur, _, _ => cur
  | f + 1, cur, q, rest => if rest = [] then cur else
      wbGo ss k0 f (cur ++ [(((k0 + q / 64 : Nat) : Int), spl (rdR ss cur ((k0 + q / 64 : Nat) : Int)) (q % 64) (rest.take (64 - q % 64)))]) (q + min (64 - q % 64) rest.length) (rest.drop (64 - q % 64))
def wb (ss : List ByteArray) (k0 q : Nat) (l : List UInt8) : List Wr := wbGo ss k0 l.length [] q l
theorem wbGo_nil {ss : List ByteArray} {k0 f q : Nat} {cur W : List Wr} (h : wbGo ss k0 f cur q [] = W) : cur = W := by
  cases f with
  | zero => exact h
  | succ f => simpa [wbGo] using h
theorem wbGo_step {ss : List ByteArray} {k0 f q : Nat} {cur W : List Wr} {rest : List UInt8} (h : wbGo ss k0 f cur q rest = W) (hr : rest ≠ []) (hf : rest.length ≤ f) :
    ∃ f', (rest.drop (64 - q % 64)).length ≤ f' ∧ wbGo ss k0 f' (cur ++ [(((k0 + q / 64 : Nat) : Int), spl (rdR ss cur ((k0 + q / 64 : Nat) : Int)) (q % 64) (rest.take (64 - q % 64)))]) (q + min (64 - q % 64) rest.length) (rest.drop (64 - q % 64)) = W := by
  have h0 : 0 < rest.length := List.length_pos_iff.2 hr
  cases f with
  | zero => omega
  | succ f =>
    refine ⟨f, by rw [List.length_drop]; omega, ?_⟩
    simpa [wbGo, hr] using h
theorem rdR_is64 {ss : List ByteArray} {ps : List Wr} (h : OkD ss ps) {a : Int} (ha : hasB a ss.length = true) : (rdR ss ps a).size = 64 := by
  have hh := hasB_iff.1 ha
  rw [show rdR ss ps a = rd ss ps a from if_pos ha]
  unfold rd
  cases hb : back ps a ps.length with
  | some t =>
    obtain ⟨p, hm, rfl⟩ := back_mem _ hb
    exact (h.2.2.2.2 p hm).2.2
  | none =>
    have hl : a.toNat < ss.length := by omega
    simp only [Option.getD_none]
    rw [List.getD_eq_getElem?_getD, List.getElem?_eq_getElem hl]
    exact h.2.2.2.1 _ (List.getElem_mem hl)
end Go.Proofs.Ytekjpoenbcnhdaa

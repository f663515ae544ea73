/- What impl.bytesLeft and impl.chosen return. -/
import Derived.Test.YtekjpoenbcnhdaaPb12
import Derived.Test.YtekjpoenbcnhdaaPb18
import Derived.Deep.Cut
import Derived.Deep.CutRange
import Derived.Deep.RegionHeld3
namespace Go.Proofs.Ytekjpoenbcnhdaa
open Go.RowKit
open DM
attribute [local go_sem ↓] Go.wp_at_zero Go.wp_at_succ

def KRow (w : World) (a : Option Addr) (ks : List Int) : Prop :=
  0 < ks.length → ∃ b off, a = some ⟨b, off, none⟩ ∧ b < w.heap.size ∧ ∀ j (hj : j < ks.length), w.cell? ⟨b, off + j, none⟩ = some (.int .i64 ks[j])
theorem KRow.below {w w' : World} {a : Option Addr} {ks : List Int} (h : KRow w a ks) (hb : Below w.heap.size w w') : KRow w' a ks := fun h0 => by
  obtain ⟨b, off, rfl, hlt, hc⟩ := h h0
  exact ⟨b, off, rfl, Nat.lt_of_lt_of_le hlt hb.size, fun j hj => (hb.cell (p := ⟨b, off + j, none⟩) hlt).trans (hc j hj)⟩

theorem tmod65 (t : Int) : (if t.tmod 65 < 0 then t.tmod 65 + 65 else t.tmod 65) = t % 65 := by
  have h1 := Int.emod_emod_of_dvd t (show (65 : Int) ∣ 65 from ⟨1, by omega⟩)
  rcases Int.le_total 0 t with h | h
  · rw [Int.tmod_eq_emod_of_nonneg h]
    have := Int.emod_nonneg t (show (65 : Int) ≠ 0 by omega)
    rw [if_neg (by omega)]
  · have h2 : t.tmod 65 = -((-t) % 65) := by
      have := Int.neg_tmod (-t) 65
      rw [Int.neg_neg] at this
      rw [this, Int.tmod_eq_emod_of_nonneg (by omega)]
    rw [h2]
    split <;> omega

set_option maxHeartbeats 400000 in
theorem left60 (t : Int) (w : World) :
    Calls Try.prog 66 #[.int .i64 t] w fun e w' => e = .returned (.int .i64 (t % 65)) ∧ w' = w := by
  have HT : Hid ((if t.tmod 65 < 0 then t.tmod 65 + 65 else t.tmod 65) = t % 65) := tmod65 t
  have hb1 : -65 < t.tmod 65 := by
    have := Int.lt_tmod_of_pos t (show (0 : Int) < 65 by omega)
    omega
  have hb2 : t.tmod 65 < 65 := Int.tmod_lt_of_pos t (by omega)
  by_cases hneg : t.tmod 65 < 0
  · have HV : Hid (t.tmod 65 + 65 = t % 65) := by have h := HT.out; rw [if_pos hneg] at h; exact h
    have e1 : IntKind.i64.wrap (t.tmod 65) = t.tmod 65 := by rw [IntKind.wrap_i64]; omega
    go_enter Try.func66, Try.ntmps66
    go_wp2
    go_ret
    exact ⟨ret_int HV.out, rfl⟩
  · have hneg' : ¬ t.tmod 65 < 0 := hneg
    have HV : Hid (t.tmod 65 = t % 65) := by have h := HT.out; rw [if_neg hneg] at h; exact h
    have e1 : IntKind.i64.wrap (t.tmod 65) = t.tmod 65 := by rw [IntKind.wrap_i64]; omega
    go_enter Try.func66, Try.ntmps66
    go_wp2
    go_ret
    exact ⟨ret_int HV.out, rfl⟩

def oddAt (ks : List Int) (i : Nat) : Bool := match ks[i]? with
  | some k => decide (k.tmod 2 ≠ 0)
  | none => false
def chs (ps : List Wr) (ks : List Int) : Nat → List Wr
  | 0 => []
  | n + 1 => chs ps ks n ++ (match ps[n]? with
    | some p => if oddAt ks n = true then [p] else []
    | none => [])
theorem chs_yes {ps : List Wr} {ks : List Int} {n : Nat} (h : n < ps.length) (ho : oddAt ks n = true) : chs ps ks (n + 1) = chs ps ks n ++ [ps[n]] := by simp [chs, h, ho]
theorem chs_no {ps : List Wr} {ks : List Int} {n : Nat} (h : n < ps.length) (ho : oddAt ks n = false) : chs ps ks (n + 1) = chs ps ks n := by simp [chs, h, ho]
theorem chs_len (ps : List Wr) (ks : List Int) : ∀ n, (chs ps ks n).length ≤ n
  | 0 => by simp [chs]
  | n + 1 => by
    have := chs_len ps ks n
    simp only [chs, List.length_append]
    split
    · split <;> simp <;> omega
    · simp; omega
theorem chs_mem (ps : List Wr) (ks : List Int) : ∀ n, ∀ p ∈ chs ps ks n, p ∈ ps
  | 0, p, h => by simp [chs] at h
  | n + 1, p, h => by
    simp only [chs, List.mem_append] at h
    rcases h with h | h
    · exact chs_mem ps ks n p h
    · split at h
      · rename_i q hq
        split at h
        · rw [List.mem_singleton.1 h]; exact List.mem_of_getElem? hq
        · simp at h
      · simp at h

set_option maxRecDepth 100000 in
set_option maxHeartbeats 4000000 in
theorem chosen59 (ps : List Wr) (ks : List Int) (a2 ak : Option Addr) (c2 ck : Nat) (hm : ps.length ≤ 1000) (hk : ks.length ≤ 9223372036854775807) (w : World) (hp : PRow w a2 ps) (hkr : KRow w ak ks) :
    Calls Try.prog 65 #[.slice a2 ps.length c2, .slice ak ks.length ck] w fun e w' => ∃ b1 d1, e = .returned (.slice b1 (chs ps ks ps.length).length d1) ∧ POwn w' w.heap.size (.slice b1 (chs ps ks ps.length).length d1) (chs ps ks ps.length) ∧ Below w.heap.size w w' := by
  have HP : Hid (PRow w a2 ps) := hp
  have HK : Hid (KRow w ak ks) := hkr
  clear hp hkr
  go_enter Try.func65, Try.ntmps65
  go_wp2
  go_loopw [5, 10] (fun v t wr => ∃ (k q : Nat) (av : Option Addr) (cv : Nat), k ≤ ps.length ∧ q ≤ k ∧ t = .int .i64 k ∧ v = .slice av q cv ∧ Hid (q = (chs ps ks k).length) ∧ Hid (Below w.heap.size w wr) ∧ Hid (wr.ownsRow w.heap.size 69 2 (.slice av q cv) q (pcs (chs ps ks k)))) (fun _ t _ => ps.length - (intOf t).toNat)
  case atStart => exact ⟨0, 0, none, 0, Nat.zero_le _, Nat.le_refl _, rfl, rfl, rfl, belowRefl w, World.ownsRow_nil _ _ _ _⟩
  case round =>
    obtain ⟨k, q, av, cv, hk1, hq, rfl, rfl, HQ, HB, HO⟩ := hrel
    by_cases hlt : k < ps.length
    · have hlt' : (k : Int) < (ps.length : Int) := by omega
      have h0 : (0 : Int) ≤ (k : Int) := by omega
      obtain ⟨b, off, rfl, hbl, hc⟩ := (HP.out.below HB.out) (by omega)
      have hck := (hc k hlt).1
      have hcl := (hc k hlt).2
      clear hc
      have HB1 : Hid (Below w.heap.size w (wr.alloc (.cells #[.int .i64 ps[k].1, .string ps[k].2] 69))) := HB.out.alloc HB.out.size _
      have HO1 : Hid ((wr.alloc (.cells #[.int .i64 ps[k].1, .string ps[k].2] 69)).ownsRow w.heap.size 69 2 (.slice av q cv) q (pcs (chs ps ks k))) := World.ownsRow.alloc HO.out _
      by_cases hkl : k < ks.length
      · have hkl' : (k : Int) < (ks.length : Int) := by omega
        obtain ⟨bk, ok, rfl, hkb, hkc⟩ := (HK.out.below HB1.out) (by omega)
        have hkk := hkc k hkl
        clear hkc
        by_cases hodd : ks[k].tmod 2 = 0
        · have ho : (ks[k].tmod 2 != 0) = false := by rw [bne_eq_false_iff_eq]; exact hodd
          have HC : Hid (chs ps ks (k + 1) = chs ps ks k) := chs_no hlt (by simp [oddAt, hkl, hodd])
          clear hodd
          go_wp2
          go_roundw
          case rel => exact ⟨k + 1, q, av, cv, by omega, by omega, by go_num, rfl, by rw [HC.out]; exact HQ, HB1, by rw [HC.out]; exact HO1⟩
          case measure => simp [intOf]; omega
        · have ho : (ks[k].tmod 2 != 0) = true := by rw [bne_iff_ne]; exact hodd
          have HC : Hid (chs ps ks (k + 1) = chs ps ks k ++ [ps[k]]) := chs_yes hlt (by simp [oddAt, hkl, hodd])
          clear hodd
          go_wp2_with (at_builtin; refine wpAppH 25 69 2 24 (.agg #[.int .i64 0, .string ByteArray.empty]) Try.underlying25 Try.info69 rfl (by decide) (by omega) (by rfl) _ _ (by rfl) (base := w.heap.size) (n := q) [.int .i64 ps[k].1, .string ps[k].2] (by rfl) (World.ownsRow.alloc HO1.out _) (by rfl) (by exact hblk_new (by simp)) rfl (by simp [Value.oneCell']) (by omega) (by have := HB1.out.size; simp at this ⊢; omega) ?_)
          intro g' cap w3 hown3 hb3 hg3
          have HO3 : Hid (w3.ownsRow w.heap.size 69 2 (.slice (some ⟨g', 0, none⟩) (q + 1) cap) (q + 1) (pcs (chs ps ks (k + 1)))) := by
            rw [HC.out, pcs_app]; exact hown3
          have HQ3 : Hid (q + 1 = (chs ps ks (k + 1)).length) := by show _ = _; rw [HC.out, List.length_append, ← HQ.out]; rfl
          have HB3 : Hid (Below w.heap.size w w3) := (HB1.out.alloc HB1.out.size _).trans hb3
          clear hown3 hb3 hg3 hck hcl hkk
          go_wp2
          go_roundw
          case rel => exact ⟨k + 1, q + 1, _, _, by omega, by omega, by go_num, rfl, HQ3, HB3, HO3⟩
          case measure => simp [intOf]; omega
      · have hkl' : decide ((k : Int) < (ks.length : Int)) = false := by simp; omega
        have HC : Hid (chs ps ks (k + 1) = chs ps ks k) := chs_no hlt (by simp [oddAt, hkl])
        go_wp2
        go_roundw
        case rel => exact ⟨k + 1, q, av, cv, by omega, by omega, by go_num, rfl, by rw [HC.out]; exact HQ, HB1, by rw [HC.out]; exact HO1⟩
        case measure => simp [intOf]; omega
    · have hlt' : ¬ (k : Int) < (ps.length : Int) := by omega
      obtain rfl : k = ps.length := by omega
      have HD : Hid (POwn wr w.heap.size (.slice av (chs ps ks ps.length).length cv) (chs ps ks ps.length)) := by
        show World.ownsRow _ _ _ _ _ _ _
        rw [← HQ.out]; exact HO.out
      go_wp2
      go_ret
      exact ⟨av, cv, by rw [← HQ.out]; rfl, HD.out, HB.out⟩
end Go.Proofs.Ytekjpoenbcnhdaa

namespace Go.Proofs.Ytekjpoenbcnhdaa
open Go.RowKit
open DM
attribute [local go_sem ↓] Go.wp_at_zero Go.wp_at_succ

def tornL (ws : List Wr) (n : Nat) : List Wr := ws.set (ws.length - 1) ((ws.getD (ws.length - 1) (0, ByteArray.empty)).1, (ws.getD (ws.length - 1) (0, ByteArray.empty)).2.extract 0 n)
theorem tornL_len (ws : List Wr) (n : Nat) : (tornL ws n).length = ws.length := by simp [tornL]
theorem tornL_nil (n : Nat) : tornL [] n = [] := rfl
theorem tornL_last (ws : List Wr) (n l : Nat) (h : ws.length = l + 1) : tornL ws n = ws.set l ((ws[l]'(by omega)).1, (ws[l]'(by omega)).2.extract 0 n) := by
  have e : ws.length - 1 = l := by omega
  have hl : l < ws.length := by omega
  unfold tornL
  rw [e]
  simp [hl]
theorem pcs_set1 : ∀ (ws : List Wr) (i : Nat) (hi : i < ws.length) (t : ByteArray), pcs (ws.set i (ws[i].1, t)) = (pcs ws).set (i * 2 + 1) (.string t)
  | p :: ws, 0, _, t => rfl
  | p :: ws, i + 1, h, t => by
    have hi : i < ws.length := by simpa using h
    have := pcs_set1 ws i hi t
    show pc p ++ pcs (ws.set i (ws[i].1, t)) = (pc p ++ pcs ws).set ((i + 1) * 2 + 1) (.string t)
    rw [this, List.set_append_right _ _ (by simp [pc]; omega)]
    simp only [pc, List.length_cons, List.length_nil]
    rw [show (i + 1) * 2 + 1 - (0 + 1 + 1) = i * 2 + 1 by omega]

def crK (ps : List Wr) (ks : List Int) (t : Int) : List Wr := tornL (chs ps ks ps.length) (t % 65).toNat
def crS (ss : List ByteArray) (ps : List Wr) (ks : List Int) (t : Int) : List ByteArray := if okB ss ps = true then txs (wrt (bys ss) (crK ps ks t)) else ss
theorem crS_yes {ss : List ByteArray} {ps : List Wr} {ks : List Int} {t : Int} (h : okB ss ps = true) : crS ss ps ks t = txs (wrt (bys ss) (crK ps ks t)) := if_pos h
theorem crS_no {ss : List ByteArray} {ps : List Wr} {ks : List Int} {t : Int} (h : okB ss ps = false) : crS ss ps ks t = ss := if_neg (by simp [h])

theorem tornL_ok {ws : List Wr} {n m : Nat} (h : ∀ p ∈ ws, 0 ≤ p.1 ∧ p.1 < (m : Int) ∧ p.2.size = 64) : WOk (tornL ws n) m := fun p hp => by
  unfold tornL at hp
  rcases List.mem_or_eq_of_mem_set hp with h1 | h1
  · have := h p h1
    exact ⟨this.1, this.2.1, by omega⟩
  · by_cases h0 : ws.length = 0
    · have : ws = [] := List.length_eq_zero_iff.1 h0
      subst this
      simp at hp
    · have hl : ws.length - 1 < ws.length := by omega
      have e : ws.getD (ws.length - 1) (0, ByteArray.empty) = ws[ws.length - 1] := by simp [hl]
      rw [e] at h1
      have := h _ (List.getElem_mem hl)
      rw [h1]
      refine ⟨this.1, this.2.1, ?_⟩
      have hs : (ws[ws.length - 1].2.extract 0 n).size = min n ws[ws.length - 1].2.size - 0 := ByteArray.size_extract
      show (ws[ws.length - 1].2.extract 0 n).size ≤ 64
      omega

set_option maxRecDepth 100000 in
set_option maxHeartbeats 4000000 in
theorem icrash23 (ss : List ByteArray) (ps : List Wr) (ks : List Int) (t : Int) (a1 a2 ak : Option Addr) (c1 c2 ck : Nat) (hn : ss.length ≤ 90000000) (hm : ps.length ≤ 80000000) (hkl : ks.length ≤ 9223372036854775807) (hls : ∀ s ∈ ss, s.size ≤ 1000000000) (hlp : ∀ p ∈ ps, p.2.size ≤ 1000000000) (w : World) (hs : SRow w a1 ss) (hp : PRow w a2 ps) (hk : KRow w ak ks) :
    Calls Try.prog 34 #[.agg #[.slice a1 ss.length c1, .slice a2 ps.length c2], .slice ak ks.length ck, .int .i64 t] w fun e w' => ∃ b1 d1 b2 d2, e = .returned (.agg #[.slice b1 (crS ss ps ks t).length d1, .slice b2 (flP ss ps).length d2]) ∧ DOwn w' w.heap.size b1 d1 b2 d2 (crS ss ps ks t) (flP ss ps) ∧ Below w.heap.size w w' := by
  have HS : Hid (SRow w a1 ss) := hs
  have HP : Hid (PRow w a2 ps) := hp
  have HK : Hid (KRow w ak ks) := hk
  have HLS : Hid (∀ s ∈ ss, s.size ≤ 1000000000) := hls
  have HLP : Hid (∀ p ∈ ps, p.2.size ≤ 1000000000) := hlp
  clear hs hp hls hlp hk
  have b0 : Hid (Below w.heap.size w ((w.alloc (.cells #[.slice a1 ss.length c1, .slice a2 ps.length c2] 27)).alloc (.cells #[.slice none 0 0, .slice none 0 0] 27))) := ((belowRefl w).alloc (Nat.le_refl _) _).alloc (by simp) _
  have X0 : Hid (Bx ((w.alloc (.cells #[.slice a1 ss.length c1, .slice a2 ps.length c2] 27)).alloc (.cells #[.slice none 0 0, .slice none 0 0] 27)) w.heap.size (.slice a1 ss.length c1) (.slice a2 ps.length c2)) := (Bx.new w _ _ _).alloc _
  have X1 : Hid (Bx ((w.alloc (.cells #[.slice a1 ss.length c1, .slice a2 ps.length c2] 27)).alloc (.cells #[.slice none 0 0, .slice none 0 0] 27)) (w.heap.size + 1) (.slice none 0 0) (.slice none 0 0)) := by
    have h := Bx.new (w.alloc (.cells #[.slice a1 ss.length c1, .slice a2 ps.length c2] 27)) (.slice none 0 0) (.slice none 0 0) 27
    show Bx _ _ _ _
    simpa using h
  go_enter Try.func34, Try.ntmps34
  go_wp2_with fail
  refine (iok22 ss ps a1 a2 c1 c2 (by omega) (by omega) _ (HS.out.below b0.out) (HP.out.below b0.out)).mono ?_
  rintro e w1 ⟨rfl, hb1⟩
  have Y0 : Hid (Bx w1 w.heap.size (.slice a1 ss.length c1) (.slice a2 ps.length c2)) := X0.out.keep hb1 X0.out.lt
  have Y1 : Hid (Bx w1 (w.heap.size + 1) (.slice none 0 0) (.slice none 0 0)) := X1.out.keep hb1 X1.out.lt
  have HB1 : Hid (Below w.heap.size w w1) := b0.out.trans (hb1.mono b0.out.size)
  have hz1 : w.heap.size + 1 < w1.heap.size := Y1.out.lt
  clear hb1 X0 X1 b0
  have g0 := Y0.out.c0
  have g1 := Y0.out.c1
  by_cases hok : okB ss ps = true
  · have HO : Hid (OkD ss ps) := okB_iff.1 hok
    have HE : Hid (txs (wrt (bys ss) (crK ps ks t)) = crS ss ps ks t) := (crS_yes hok).symm
    have HE2 : Hid (flP ss ps = []) := flP_yes hok
    have HBL : Hid ((bys ss).length = ss.length) := bys_len ss
    have hs100 : ss.length ≤ 1000 := by have := HO.out.2.1; omega
    have hp60 : ps.length ≤ 1000 := by have := HO.out.2.2.1; omega
    have HC64 : Hid (∀ p ∈ chs ps ks ps.length, 0 ≤ p.1 ∧ p.1 < (ss.length : Int) ∧ p.2.size = 64) := fun p hp => HO.out.2.2.2.2 p (chs_mem ps ks _ p hp)
    have HCL : Hid ((chs ps ks ps.length).length ≤ 1000) := Nat.le_trans (chs_len ps ks _) hp60
    have HWO : Hid (WOk (crK ps ks t) (bys ss).length) := by show WOk _ _; rw [bys_len]; exact tornL_ok HC64.out
    have HCK : Hid (crK ps ks t = tornL (chs ps ks ps.length) (t % 65).toNat) := rfl
    go_wp2_with fail
    refine (chosen59 ps ks a2 ak c2 ck hp60 hkl _ (HP.out.below HB1.out) (HK.out.below HB1.out)).mono ?_
    rintro e w2 ⟨y1, y2, rfl, hd2, hb2⟩
    have HD2 : Hid (POwn w2 w1.heap.size (.slice y1 (chs ps ks ps.length).length y2) (chs ps ks ps.length)) := hd2
    have HB2 : Hid (Below w.heap.size w w2) := HB1.out.trans (hb2.mono HB1.out.size)
    have U0 : Hid (Bx w2 w.heap.size (.slice a1 ss.length c1) (.slice a2 ps.length c2)) := Y0.out.keep hb2 Y0.out.lt
    have U1 : Hid (Bx w2 (w.heap.size + 1) (.slice none 0 0) (.slice none 0 0)) := Y1.out.keep hb2 Y1.out.lt
    have hz2 : w.heap.size + 1 < w2.heap.size := U1.out.lt
    clear hd2 hb2 g0 g1 Y0 Y1
    generalize crK ps ks t = cw at *
    generalize chs ps ks ps.length = ws at *
    obtain ⟨nt, hnt⟩ := Int.eq_ofNat_of_zero_le (Int.emod_nonneg t (show (65 : Int) ≠ 0 by omega))
    have hnt2 : t % 65 < 65 := Int.emod_lt_of_pos t (by omega)
    have HNT : Hid (t % 65 = (nt : Int)) := hnt
    have hnl : nt ≤ 64 := by rw [hnt] at hnt2; omega
    have HCW : Hid (cw = tornL ws nt) := by have h := HCK.out; rw [hnt] at h; exact h
    clear hnt hnt2 HCK
    have hwl : ws.length ≤ 1000 := HCL.out
    by_cases hl0 : ws.length = 0
    · have hlt : ¬ (0 : Int) ≤ (ws.length : Int) - 1 := by omega
      have HR : Hid (PRow w2 y1 cw) := by
        have e : ws = [] := List.length_eq_zero_iff.1 hl0
        show PRow _ _ _
        rw [HCW.out, e]
        exact PRow.nil _ _
      have HRL : Hid (cw.length = ws.length) := by show _ = _; rw [HCW.out, tornL_len]
      have HL0 : Hid (ws.length = 0) := hl0
      clear hl0
      have g0 := U0.out.c0
      have g1 := U0.out.c1
      go_wp2_with fail
      refine (secs56 ss (.slice a2 ps.length c2) a1 c1 hs100 HO.out.2.2.2.1 _ (HS.out.below HB2.out)).mono ?_
      rintro e w4 ⟨z1, z2, rfl, hd4, hb4⟩
      have HD4 : Hid (AOwn w4 w2.heap.size (.slice z1 (bys ss).length z2) (bys ss)) := hd4
      have HB4 : Hid (Below w2.heap.size w2 w4) := hb4
      clear hd4 hb4 g0 g1
      go_wp2_with fail
      have c := wrt55 (bys ss) cw z1 y1 z2 y2 (by rw [HBL.out]; exact hs100) (by rw [HRL.out]; exact hwl) HWO.out w2 w4 HB4.out HD4.out HR.out
      rw [HRL.out] at c
      refine c.mono ?_
      clear c
      rintro e w5 ⟨v1, v2, rfl, hs5, hb5⟩
      have HS5 : Hid (SOwn w5 (w.heap.size + 1 + 1) (.slice v1 (crS ss ps ks t).length v2) (crS ss ps ks t)) := by
        have h := hs5
        rw [HE.out] at h
        exact h.mono hz2
      have HLL : Hid ((bys ss).length = (crS ss ps ks t).length) := by show _ = _; rw [← HE.out, txs_len, wrt_len]
      have HB5 : Hid (Below w.heap.size w w5) := HB2.out.trans (hb5.mono HB2.out.size)
      have V1 : Hid (Bx w5 (w.heap.size + 1) (.slice none 0 0) (.slice none 0 0)) := U1.out.keep hb5 U1.out.lt
      have t0 := V1.out.c0
      have t1 := V1.out.c1
      have tf := V1.out.fz
      clear hs5 hb5
      go_wp2
      refine bodyPost_ret (v := .agg #[.slice v1 (bys ss).length v2, .slice none 0 0]) (by simp [results, Try.results34, go_sem, t0, t1]) rfl ⟨v1, v2, none, 0, ?_, ⟨?_, ?_⟩, ?_⟩
      · rw [HE2.out, HLL.out]; rfl
      · exact ((HS5.out.set (by show w.heap.size + 1 < _; omega) _).set (by show w.heap.size + 1 < _; omega) _).mono (by omega)
      · rw [HE2.out]; exact POwn.nil _ _
      · exact (HB5.out.setCell (by show _ ≤ w.heap.size + 1; omega) _).setCell (by show _ ≤ w.heap.size + 1; omega) _
    · obtain ⟨l, hl⟩ : ∃ l, ws.length = l + 1 := ⟨ws.length - 1, by omega⟩
      have HL : Hid (ws.length = l + 1) := hl
      have hge : (0 : Int) ≤ (ws.length : Int) - 1 := by omega
      have hll : l < ws.length := by omega
      have e1 : (ws.length : Int) - 1 = (l : Int) := by omega
      have hlt : (l : Int) < (ws.length : Int) := by omega
      have h0 : (0 : Int) ≤ (l : Int) := by omega
      obtain ⟨g, rfl, hbg, hgl⟩ := own_form HD2.out (by omega)
      have H64 : Hid ((ws[l]'hll).2.size = 64) := (HC64.out _ (List.getElem_mem hll)).2.2
      have hsz : (nt : Int) ≤ ((ws[l]'hll).2.size : Int) := by rw [H64.out]; omega
      have hnt0 : (0 : Int) ≤ (nt : Int) := by omega
      have HQ : Hid (w2.cell? ⟨g, l * 2 + 1, none⟩ = some (.string (ws[l]'hll).2)) := by
        show _ = _
        rw [World.ownsRow.cellAt HD2.out (l * 2 + 1) (by omega), (pcs_at ws l hll).2]
      have cq := HQ.out
      have cf : w2.frozen? ⟨g, l * 2 + 1, none⟩ = false := World.ownsRow.frozenAt HD2.out (l * 2 + 1)
      have st := World.ownsRow.stored HD2.out (l * 2 + 1) (.string ((ws[l]'hll).2.extract 0 nt))
      have HRL : Hid (cw.length = ws.length) := by show _ = _; rw [HCW.out, tornL_len]
      have HP3 : Hid (POwn (w2.setCell ⟨g, l * 2 + 1, none⟩ (.string ((ws[l]'hll).2.extract 0 nt))) w1.heap.size (.slice (some ⟨g, 0, none⟩) cw.length y2) cw) := by
        show World.ownsRow _ _ _ _ _ _ _
        rw [HRL.out, HCW.out, tornL_last ws nt l HL.out, pcs_set1 ws l hll]
        exact st.1
      have n1 : g ≠ w.heap.size := by omega
      have n2 : g ≠ w.heap.size + 1 := by omega
      have W0 : Hid (Bx (w2.setCell ⟨g, l * 2 + 1, none⟩ (.string ((ws[l]'hll).2.extract 0 nt))) w.heap.size (.slice a1 ss.length c1) (.slice a2 ps.length c2)) := U0.out.setO n1 _
      have W1 : Hid (Bx (w2.setCell ⟨g, l * 2 + 1, none⟩ (.string ((ws[l]'hll).2.extract 0 nt))) (w.heap.size + 1) (.slice none 0 0) (.slice none 0 0)) := U1.out.setO n2 _
      have HB3 : Hid (Below w.heap.size w (w2.setCell ⟨g, l * 2 + 1, none⟩ (.string ((ws[l]'hll).2.extract 0 nt)))) := HB2.out.setCell (by show w.heap.size ≤ g; omega) _
      clear st hl
      go_wp2
      go_region_law ((go_simp; go_at_call 66; refine (left60 _ _).mono ?_; rintro e w3 ⟨rfl, hw3⟩; subst hw3; rw [HNT.out]))
      all_goals
        have W0d : Hid (Bx (w2.setCell ⟨g, l * 2 + 1, none⟩ (.string ((ws[l]'hll).2.extract 0 nt))).drew w.heap.size (.slice a1 ss.length c1) (.slice a2 ps.length c2)) := W0.out.drew
        have W1d : Hid (Bx (w2.setCell ⟨g, l * 2 + 1, none⟩ (.string ((ws[l]'hll).2.extract 0 nt))).drew (w.heap.size + 1) (.slice none 0 0) (.slice none 0 0)) := W1.out.drew
        have HB3d : Hid (Below w.heap.size w (w2.setCell ⟨g, l * 2 + 1, none⟩ (.string ((ws[l]'hll).2.extract 0 nt))).drew) := HB3.out.drew
        have HR : Hid (PRow (w2.setCell ⟨g, l * 2 + 1, none⟩ (.string ((ws[l]'hll).2.extract 0 nt))).drew (some ⟨g, 0, none⟩) cw) := HP3.out.prow
        have hz3 : w.heap.size + 1 + 1 ≤ (w2.setCell ⟨g, l * 2 + 1, none⟩ (.string ((ws[l]'hll).2.extract 0 nt))).drew.heap.size := W1d.out.lt
        clear cq cf W0 W1 HB3 HP3 e1
        generalize (w2.setCell ⟨g, l * 2 + 1, none⟩ (.string ((ws[l]'hll).2.extract 0 nt))).drew = w3 at *
        have g0 := W0d.out.c0
        have g1 := W0d.out.c1
        go_wp2_with fail
        refine (secs56 ss (.slice a2 ps.length c2) a1 c1 hs100 HO.out.2.2.2.1 _ (HS.out.below HB3d.out)).mono ?_
        rintro e w4 ⟨z1, z2, rfl, hd4, hb4⟩
        have HD4 : Hid (AOwn w4 w3.heap.size (.slice z1 (bys ss).length z2) (bys ss)) := hd4
        have HB4 : Hid (Below w3.heap.size w3 w4) := hb4
        clear hd4 hb4 g0 g1
        go_wp2_with fail
        have c := wrt55 (bys ss) cw z1 (some ⟨g, 0, none⟩) z2 y2 (by rw [HBL.out]; exact hs100) (by rw [HRL.out]; exact hwl) HWO.out w3 w4 HB4.out HD4.out HR.out
        rw [HRL.out] at c
        refine c.mono ?_
        clear c
        rintro e w5 ⟨v1, v2, rfl, hs5, hb5⟩
        have HS5 : Hid (SOwn w5 (w.heap.size + 1 + 1) (.slice v1 (crS ss ps ks t).length v2) (crS ss ps ks t)) := by
          have h := hs5
          rw [HE.out] at h
          exact h.mono hz3
        have HLL : Hid ((bys ss).length = (crS ss ps ks t).length) := by show _ = _; rw [← HE.out, txs_len, wrt_len]
        have HB5 : Hid (Below w.heap.size w w5) := HB3d.out.trans (hb5.mono HB3d.out.size)
        have V1 : Hid (Bx w5 (w.heap.size + 1) (.slice none 0 0) (.slice none 0 0)) := W1d.out.keep hb5 W1d.out.lt
        have t0 := V1.out.c0
        have t1 := V1.out.c1
        have tf := V1.out.fz
        clear hs5 hb5
        go_wp2
        refine bodyPost_ret (v := .agg #[.slice v1 (bys ss).length v2, .slice none 0 0]) (by simp [results, Try.results34, go_sem, t0, t1]) rfl ⟨v1, v2, none, 0, ?_, ⟨?_, ?_⟩, ?_⟩
        · rw [HE2.out, HLL.out]; rfl
        · exact ((HS5.out.set (by show w.heap.size + 1 < _; omega) _).set (by show w.heap.size + 1 < _; omega) _).mono (by omega)
        · rw [HE2.out]; exact POwn.nil _ _
        · exact (HB5.out.setCell (by show _ ≤ w.heap.size + 1; omega) _).setCell (by show _ ≤ w.heap.size + 1; omega) _
  · have hok' : okB ss ps = false := by simpa using hok
    have HE : Hid (crS ss ps ks t = ss) := crS_no hok'
    have HE2 : Hid (flP ss ps = ps) := flP_no hok'
    clear hok
    go_wp2_with fail
    refine (copy53 ss ps a1 a2 c1 c2 hn (by omega) HLS.out HLP.out _ (HS.out.below HB1.out) (HP.out.below HB1.out)).mono ?_
    rintro e w6 ⟨p1, q1, p2, q2, rfl, hd6, hb6⟩
    have HD6 : Hid (DOwn w6 (w.heap.size + 1 + 1) p1 q1 p2 q2 ss ps) := hd6.mono hz1
    have HB6 : Hid (Below w.heap.size w w6) := HB1.out.trans (hb6.mono HB1.out.size)
    have R1 : Hid (Bx w6 (w.heap.size + 1) (.slice none 0 0) (.slice none 0 0)) := Y1.out.keep hb6 Y1.out.lt
    have t0 := R1.out.c0
    have t1 := R1.out.c1
    have tf := R1.out.fz
    clear hd6 hb6 g0 g1
    go_wp2
    refine bodyPost_ret (v := .agg #[.slice p1 ss.length q1, .slice p2 ps.length q2]) (by simp [results, Try.results34, go_sem, t0, t1]) rfl ⟨p1, q1, p2, q2, ?_, ⟨?_, ?_⟩, ?_⟩
    · rw [HE.out, HE2.out]
    · rw [HE.out]
      exact ((HD6.out.s.set (by show w.heap.size + 1 < _; omega) _).set (by show w.heap.size + 1 < _; omega) _).mono (by omega)
    · rw [HE2.out]
      exact ((HD6.out.p.set (by show w.heap.size + 1 < _; omega) _).set (by show w.heap.size + 1 < _; omega) _).mono (by omega)
    · exact (HB6.out.setCell (by show _ ≤ w.heap.size + 1; omega) _).setCell (by show _ ≤ w.heap.size + 1; omega) _
end Go.Proofs.Ytekjpoenbcnhdaa

namespace Go.Proofs.Ytekjpoenbcnhdaa
open Go.RowKit
open DM
attribute [local go_sem ↓] Go.wp_at_zero Go.wp_at_succ

def caS (ss : List ByteArray) (ps : List Wr) (t : ByteArray) (st : Int) (ks : List Int) (tr : Int) : List ByteArray :=
  if prB ss ps (act ss ps) t = true then
    (if st = 0 then crS ss (recW ss ps (act ss ps) t) ks tr
     else if st = 1 then crS (flS ss (recW ss ps (act ss ps) t)) (wb (flS ss (recW ss ps (act ss ps) t)) (af (act ss ps)).toNat 0 [UInt8.ofNat ((cnt ss ps (act ss ps)).toNat + 1)]) ks tr
     else putS ss ps (act ss ps) t)
  else ss
theorem caS_no {ss : List ByteArray} {ps : List Wr} {t : ByteArray} {st : Int} {ks : List Int} {tr : Int} (h : prB ss ps (act ss ps) t = false) : caS ss ps t st ks tr = ss := if_neg (by simp [h])
theorem caS_0 {ss : List ByteArray} {ps : List Wr} {t : ByteArray} {ks : List Int} {tr : Int} (h : prB ss ps (act ss ps) t = true) : caS ss ps t 0 ks tr = crS ss (recW ss ps (act ss ps) t) ks tr := by
  unfold caS
  rw [if_pos h, if_pos rfl]
theorem caS_1 {ss : List ByteArray} {ps : List Wr} {t : ByteArray} {ks : List Int} {tr : Int} (h : prB ss ps (act ss ps) t = true) : caS ss ps t 1 ks tr = crS (flS ss (recW ss ps (act ss ps) t)) (wb (flS ss (recW ss ps (act ss ps) t)) (af (act ss ps)).toNat 0 [UInt8.ofNat ((cnt ss ps (act ss ps)).toNat + 1)]) ks tr := by
  unfold caS
  rw [if_pos h, if_neg (by decide), if_pos rfl]
theorem caS_2 {ss : List ByteArray} {ps : List Wr} {t : ByteArray} {st : Int} {ks : List Int} {tr : Int} (h : prB ss ps (act ss ps) t = true) (h0 : st ≠ 0) (h1 : st ≠ 1) : caS ss ps t st ks tr = putS ss ps (act ss ps) t := by
  unfold caS
  rw [if_pos h, if_neg h0, if_neg h1]

end Go.Proofs.Ytekjpoenbcnhdaa

/- What a crash leaves of the bytes of a log. -/
import Derived.Test.YtekjpoenbcnhdaaPa20
import Derived.Test.YtekjpoenbcnhdaaPa31
import Derived.Test.YtekjpoenbcnhdaaPa32
import Derived.Test.YtekjpoenbcnhdaaPa14
import Derived.Deep.Cut
import Derived.Deep.CutRange
import Derived.Test.YtekjpoenbcnhdaaPa13
import Derived.Deep.RegionHeld3
namespace Go.Proofs.Ytekjpoenbcnhdaa
open Go.RowKit
open DM
open FM

end Go.Proofs.Ytekjpoenbcnhdaa

namespace Go.Proofs.Ytekjpoenbcnhdaa
open Go.RowKit
open DM

def lst (ks : List Int) : Nat → Int
  | 0 => -1
  | n + 1 => if oddAt ks n = true then (n : Int) else lst ks n
theorem lst_no {ks : List Int} {n : Nat} (h : oddAt ks n = false) : lst ks (n + 1) = lst ks n := if_neg (by simp [h])
theorem odd_out {ks : List Int} {n : Nat} (h : ks.length ≤ n) : oddAt ks n = false := by
  unfold oddAt
  rw [List.getElem?_eq_none h]
theorem lst_last (ks : List Int) : ∀ n j, lst ks n < (j : Nat) → j < n → oddAt ks j = false
  | 0, j, _, h => by omega
  | n + 1, j, h, hj => by
    simp only [lst] at h
    split at h
    · omega
    · rename_i ho
      by_cases e : j = n
      · subst e; simpa using ho
      · exact lst_last ks n j h (by omega)
theorem chs_same {ps : List Wr} {ks : List Int} {m : Nat} : ∀ n, m ≤ n → (∀ j, m ≤ j → j < n → oddAt ks j = false) → chs ps ks n = chs ps ks m
  | 0, h, _ => by
    obtain rfl : m = 0 := by omega
    rfl
  | n + 1, h, ho => by
    by_cases e : m = n + 1
    · subst e; rfl
    · have h1 := chs_same (ps := ps) (ks := ks) n (by omega) (fun j h1 h2 => ho j h1 (by omega))
      have h2 := ho n (by omega) (by omega)
      simp only [chs]
      rw [h1, h2]
      cases ps[n]? <;> simp

theorem cr_none {ss : List ByteArray} {ps : List Wr} {ks : List Int} {t : Int} (hok : okB ss ps = true) (h : lst ks ps.length = -1) : crS ss ps ks t = ss := by
  have h1 : chs ps ks ps.length = [] := chs_same (m := 0) _ (Nat.zero_le _) (fun j _ hj => lst_last ks _ j (by rw [h]; omega) hj)
  rw [crS_yes hok, crK, h1, tornL_nil]
  exact txs_bys ss

theorem tornL_snoc (ws : List Wr) (p : Wr) (n : Nat) : tornL (ws ++ [p]) n = ws ++ [(p.1, p.2.extract 0 n)] := by
  rw [tornL_last (ws ++ [p]) n ws.length (by simp)]
  simp

end Go.Proofs.Ytekjpoenbcnhdaa

namespace Go.Proofs.Ytekjpoenbcnhdaa
open Go.RowKit
open DM

theorem lst_nil : ∀ n, lst [] n = -1
  | 0 => rfl
  | n + 1 => by rw [lst_no (odd_out (by simp)), lst_nil n]
end Go.Proofs.Ytekjpoenbcnhdaa

namespace Go.Proofs.Ytekjpoenbcnhdaa
open Go.RowKit
open DM
open FM

def txOf (ss : List ByteArray) (ps : List Wr) : List ByteArray := oL (raO ss ps (act ss ps))
theorem tx_flat {ss : List ByteArray} (hok : okB ss [] = true) (h97 : ss.length = 97) : txOf ss [] = oL (raF (flat ss) ((fsF (flat ss) : Int) % 2)) := by
  have hO := okB_iff.1 hok
  have ha := act_flat hO.2.2.2.1 (by omega)
  unfold txOf
  rw [raO_flat hO.2.2.2.1 h97 (act_01 ss []), ha.2]
theorem agree_raF {F F' : List UInt8} (hF : F.length = 6208) (hF' : F'.length = 6208) {a : Int} (hA : isA a = true) {l : List ByteArray} {E : Nat} (hra : raF F a = some (l, E)) (h : ∀ x, (x < (af a + 1).toNat * 64 + E ∨ (af a + 1).toNat * 64 + 3008 ≤ x) → F'[x]? = F[x]?) {b : Int} (hB : isA b = true) : raF F' b = raF F b := by
  have ha := af_off hA
  have hb := af_off hB
  by_cases hab : b = a
  · subst hab
    have hc : cnF F' b = cnF F b := by
      unfold cnF
      rw [h _ (Or.inl (by omega))]
    rw [hra]
    unfold raF at hra ⊢
    rw [hc]
    have z1 : (piece F ((af b + 1).toNat * 64) 3008).length = 3008 := piece_len _ _ _ (by omega)
    have z2 : (piece F' ((af b + 1).toNat * 64) 3008).length = 3008 := piece_len _ _ _ (by omega)
    refine recs_loc (s := ⟨(arF F b).toArray⟩) (s' := ⟨(arF F' b).toArray⟩) ?_ _ _ _ _ _ hra (fun i hi => ?_)
    · show (arF F' b).toArray.size = (arF F b).toArray.size
      rw [List.size_toArray, List.size_toArray]
      unfold arF
      rw [z1, z2]
    · show (arF F b)[i]? = (arF F' b)[i]?
      unfold arF
      by_cases hi2 : i < 3008
      · rw [piece_get _ _ _ _ hi2, piece_get _ _ _ _ hi2]
        exact (h _ (Or.inl (by omega))).symm
      · rw [List.getElem?_eq_none (by omega), List.getElem?_eq_none (by omega)]
  · have h2 := af_two hA hB hab
    have hc : cnF F' b = cnF F b := by
      unfold cnF
      rw [h _ (by omega)]
    have e : arF F' b = arF F b := by
      unfold arF
      apply List.ext_getElem?
      intro i
      by_cases hi2 : i < 3008
      · rw [piece_get _ _ _ _ hi2, piece_get _ _ _ _ hi2]
        exact h _ (by omega)
      · rw [List.getElem?_eq_none (by rw [piece_len _ _ _ (by omega)]; omega), List.getElem?_eq_none (by rw [piece_len _ _ _ (by omega)]; omega)]
    unfold raF
    rw [hc, e]
theorem agree_log {ss cr : List ByteArray} (hlog : logB ss [] = true) (hok : okB cr [] = true) (hl : cr.length = 97) {a : Int} (hA : isA a = true) (h : ∀ x, (x < (af a + 1).toNat * 64 + oE (raO ss [] a) ∨ (af a + 1).toNat * 64 + 3008 ≤ x) → (flat cr)[x]? = (flat ss)[x]?) : logB cr [] = true ∧ txOf cr [] = txOf ss [] := by
  have hp := logB_parts hlog
  have hO := okB_iff.1 hp.1
  obtain ⟨⟨l, E⟩, hz⟩ := logB_some hlog hA
  have hra : raO ss [] a = some (l, E) := by rw [raO_flat hO.2.2.2.1 hp.2.1 hA]; exact hz
  have hE : oE (raO ss [] a) = E := by rw [hra]; rfl
  rw [hE] at h
  have hF := flat97 hp.1 hp.2.1
  have hF' := flat97 hok hl
  have ha := af_off hA
  refine ⟨logB_all hok hl (fun b hB => ?_), ?_⟩
  · rw [agree_raF hF hF' hA hz h hB]; exact logB_some hlog hB
  · have hf : fsF (flat cr) = fsF (flat ss) := by
      unfold fsF
      rw [h 0 (Or.inl (by omega))]
    rw [tx_flat hok hl, tx_flat hp.1 hp.2.1, hf, agree_raF hF hF' hA hz h (act_flat hO.2.2.2.1 (by omega) |>.2 ▸ act_01 ss [])]
theorem recW_eq {ss : List ByteArray} {a : Int} {t : ByteArray} (hr : recB ss [] a t = true) : recW ss [] a t = wb ss (af a + 1).toNat (oE (raO ss [] a)) (recL t) := if_pos hr
theorem rec_fits {ss : List ByteArray} {a : Int} {t : ByteArray} (hlog : logB ss [] = true) (hr : recB ss [] a t = true) : (recL t).length ≤ 3008 ∧ (af a + 1).toNat * 64 + oE (raO ss [] a) + (recL t).length ≤ ss.length * 64 ∧ (af a + 1).toNat * 64 + oE (raO ss [] a) + (recL t).length ≤ (af a + 1).toNat * 64 + 3008 := by
  have hp := recB_parts hr
  have hl := logB_parts hlog
  have ha := af_off hp.2.2.2.2
  rw [hl.2.1]
  omega
theorem rec_flushed {ss : List ByteArray} {a : Int} {t : ByteArray} (hlog : logB ss [] = true) (hr : recB ss [] a t = true) : logB (flS ss (recW ss [] a t)) [] = true ∧ txOf (flS ss (recW ss [] a t)) [] = txOf ss [] := by
  have hp := logB_parts hlog
  have hA := (recB_parts hr).2.2.2.2
  have hf := rec_fits hlog hr
  have hF := flat97 hp.1 hp.2.1
  rw [recW_eq hr]
  have hc := fl_wb hp.1 (af a + 1).toNat (oE (raO ss [] a)) (recL t) hf.1 hf.2.1
  refine agree_log hlog hc.1 (by rw [hc.2.1, hp.2.1]) hA (fun x hx => ?_)
  rw [hc.2.2, splL_get _ _ _ (by rw [hF]; rw [hp.2.1] at hf; omega)]
  rcases hx with hx | hx
  · rw [if_pos hx]
  · rw [if_neg (by omega), if_neg (by omega)]
theorem kept_byte {ss : List ByteArray} {k0 : Nat} {x : UInt8} {ks : List Int} {tr : Int} (hok : okB ss [] = true) (hk : k0 < ss.length) (h0 : oddAt ks 0 = true) (ht : tr % 65 = 64) : crS ss (wb ss k0 0 [x]) ks tr = flS ss (wb ss k0 0 [x]) := by
  have hO := okB_iff.1 hok
  have hWo := wb_ok hok k0 0 [x] (by simp) (by simp; omega)
  have hWO := okB_iff.1 hWo
  obtain ⟨p, hp⟩ : ∃ p, wb ss k0 0 [x] = [p] := by
    unfold wb
    simp only [List.length_singleton, wbGo]
    rw [if_neg (by simp)]
    exact ⟨_, rfl⟩
  rw [hp] at hWo hWO ⊢
  have hz : p.2.size = 64 := (hWO.2.2.2.2 p (List.mem_singleton.2 rfl)).2.2
  have e1 : chs [p] ks 1 = [p] := by
    unfold chs
    unfold chs
    simp [h0]
  have e2 : crK [p] ks tr = [p] := by
    unfold crK
    show tornL (chs [p] ks 1) (tr % 65).toNat = [p]
    rw [e1, ht]
    show tornL ([] ++ [p]) 64 = [p]
    rw [tornL_snoc]
    have e3 : p.2.extract 0 64 = p.2 := by
      rw [← hz]
      simp
    rw [e3]
    rfl
  rw [crS_yes hWo, e2, flS_yes hWo, wrt_flush ss [p] hO.2.2.2.1 (fun q hq => by rw [List.mem_singleton.1 hq]; exact hz), txs_bys]
theorem none_kept {ss : List ByteArray} {W : List Wr} {tr : Int} (hok : okB ss W = true) : crS ss W [] tr = ss := cr_none hok (lst_nil _)

theorem caS_kept {ss : List ByteArray} {t : ByteArray} {ks : List Int} {tr : Int} (hlog : logB ss [] = true) (hr : recB ss [] (act ss []) t = true) (h0 : oddAt ks 0 = true) (ht : tr % 65 = 64) : caS ss [] t 1 ks tr = putS ss [] (act ss []) t := by
  have hB : prB ss [] (act ss []) t = true := by unfold prB; rw [hlog, hr]; rfl
  have hA := act_01 ss []
  have q1 := rec_flushed hlog hr
  have hp := logB_parts q1.1
  rw [caS_1 hB, kept_byte hp.1 (by rw [hp.2.1]; have := af_off hA; omega) h0 ht]
  rfl
theorem caS_none {ss : List ByteArray} {t : ByteArray} {tr : Int} (hlog : logB ss [] = true) (hr : recB ss [] (act ss []) t = true) : logB (caS ss [] t 1 [] tr) [] = true ∧ txOf (caS ss [] t 1 [] tr) [] = txOf ss [] := by
  have hB : prB ss [] (act ss []) t = true := by unfold prB; rw [hlog, hr]; rfl
  have hA := act_01 ss []
  have q1 := rec_flushed hlog hr
  have hp := logB_parts q1.1
  rw [caS_1 hB, none_kept (wb_ok hp.1 _ 0 [_] (by simp) (by simp; rw [hp.2.1]; have := af_off hA; omega))]
  exact q1
theorem fill_tx {ss : List ByteArray} {ts : List ByteArray} (hlog : logB ss [] = true) (hts : ∀ t ∈ ts, t.size ≤ 1048576) : logB (fillO (1 - act ss []) (zrS ss (1 - act ss [])) ts).1 [] = true ∧ txOf (fillO (1 - act ss []) (zrS ss (1 - act ss [])) ts).1 [] = txOf ss [] := by
  have hA : isA (1 - act ss []) = true := oth_A ss []
  have hz := zr_read hlog hA
  have ha := (fill_act (a := 1 - act ss []) ts _ hts hz.2.2).trans (zr_act hlog hA)
  have h1 := isA_iff.1 (act_01 ss [])
  refine ⟨fill_log hts hlog, ?_⟩
  unfold txOf
  rw [ha, fill_other ts _ hts hz.2.2 _ (act_01 ss []) (by show act ss [] ≠ 1 - act ss []; omega), hz.2.1 _ (act_01 ss []) (by show act ss [] ≠ 1 - act ss []; omega)]
theorem csS_kept {ss : List ByteArray} {ts : List ByteArray} {ks : List Int} {tr : Int} (hlog : logB ss [] = true) (hts : ∀ t ∈ ts, t.size ≤ 1048576) (hB : swB ss [] ts = true) (h0 : oddAt ks 0 = true) (ht : tr % 65 = 64) : csS ss [] ts 2 ks tr = swS ss [] ts := by
  have hf := fill_tx hlog hts
  have hp := logB_parts hf.1
  have hfb : (fillO (1 - act ss []) (zrS ss (1 - act ss [])) ts).2 = true := by
    unfold swB at hB
    exact (Bool.and_eq_true_iff.1 hB).2
  rw [csS_2 hB, (sw_yes hlog hfb).2]
  exact kept_byte hp.1 (by rw [hp.2.1]; decide) h0 ht
theorem csS_none {ss : List ByteArray} {ts : List ByteArray} {tr : Int} (hlog : logB ss [] = true) (hts : ∀ t ∈ ts, t.size ≤ 1048576) (hB : swB ss [] ts = true) : logB (csS ss [] ts 2 [] tr) [] = true ∧ txOf (csS ss [] ts 2 [] tr) [] = txOf ss [] := by
  have hf := fill_tx hlog hts
  have hp := logB_parts hf.1
  rw [csS_2 hB]
  unfold tuW
  rw [none_kept (wb_ok hp.1 0 0 [_] (by simp) (by simp; omega))]
  exact hf
end Go.Proofs.Ytekjpoenbcnhdaa

namespace Go.Proofs.Ytekjpoenbcnhdaa
open Go.RowKit
open DM
attribute [local go_sem ↓] Go.wp_at_zero Go.wp_at_succ

end Go.Proofs.Ytekjpoenbcnhdaa

namespace Go.Proofs.Ytekjpoenbcnhdaa
open Go.RowKit
open DM
attribute [local go_sem ↓] Go.wp_at_zero Go.wp_at_succ

theorem hide0 {p : Prop} (h : p) : Hid p := h
def LaI (ss : List ByteArray) (ps : List Wr) : Prop := ss.length ≤ 1048576 ∧ ps.length ≤ 1048576 ∧ (∀ s ∈ ss, s.size ≤ 1048576) ∧ (∀ p ∈ ps, p.2.size ≤ 1048576)
theorem LaI.ok {ss : List ByteArray} {ps : List Wr} (h : okB ss ps = true) : LaI ss ps := by
  have hO := okB_iff.1 h
  exact ⟨by have := hO.2.1; omega, by have := hO.2.2.1; omega, fun s hs => by have := hO.2.2.2.1 s hs; omega, fun p hp => by have := (hO.2.2.2.2 p hp).2.2; omega⟩
end Go.Proofs.Ytekjpoenbcnhdaa

namespace Go.Proofs.Ytekjpoenbcnhdaa
open Go.RowKit
open DM
attribute [local go_sem ↓] Go.wp_at_zero Go.wp_at_succ

theorem SOwn.app {w : World} {base g cap : Nat} {ts : List ByteArray} {x : ByteArray} (h : w.ownsRow base 9 1 (.slice (some ⟨g, 0, none⟩) (ts.length + 1) cap) (ts.length + 1) (scs ts ++ [.string x])) : SOwn w base (.slice (some ⟨g, 0, none⟩) (ts.length + 1) cap) (ts ++ [x]) := by
  unfold SOwn
  rw [scs_app, List.length_append]
  exact h
end Go.Proofs.Ytekjpoenbcnhdaa

namespace Go.Proofs.Ytekjpoenbcnhdaa
open Go.RowKit
open DM
attribute [local go_sem ↓] Go.wp_at_zero Go.wp_at_succ

def LbI (ss : List ByteArray) (ps : List Wr) : Prop := ss.length ≤ 100 ∧ ps.length ≤ 100 ∧ (∀ s ∈ ss, s.size ≤ 64) ∧ (∀ p ∈ ps, p.2.size ≤ 64)
theorem LbI.ok {ss : List ByteArray} {ps : List Wr} (h : okB ss ps = true) : LbI ss ps := by
  have hO := okB_iff.1 h
  exact ⟨by have := hO.2.1; omega, by have := hO.2.2.1; omega, fun s hs => by have := hO.2.2.2.1 s hs; omega, fun p hp => by have := (hO.2.2.2.2 p hp).2.2; omega⟩
theorem LbI.wide {ss : List ByteArray} {ps : List Wr} (h : LbI ss ps) : LaI ss ps := ⟨Nat.le_trans h.1 (by omega), Nat.le_trans h.2.1 (by omega), fun s hs => Nat.le_trans (h.2.2.1 s hs) (by omega), fun p hp => Nat.le_trans (h.2.2.2 p hp) (by omega)⟩
theorem rdR_b {ss : List ByteArray} {ps : List Wr} (h : LbI ss ps) (a : Int) : (rdR ss ps a).size ≤ 64 := by
  unfold rdR
  split
  · unfold rd
    cases h1 : back ps a ps.length with
    | some t =>
      obtain ⟨p, hm, rfl⟩ := back_mem _ h1
      exact h.2.2.2 p hm
    | none =>
      simp only [Option.getD_none]
      rw [List.getD_eq_getElem?_getD]
      cases h2 : ss[a.toNat]? with
      | some s => exact h.2.2.1 s (List.mem_of_getElem? h2)
      | none => exact Nat.zero_le 64
  · exact Nat.zero_le 64
theorem stx_b {ss : List ByteArray} {ps : List Wr} (h : LbI ss ps) (f : Int) : ∀ k, (stx ss ps f k).length ≤ k * 64
  | 0 => by simp [stx]
  | k + 1 => by
    have h1 := stx_b h f k
    have h2 := rdR_b h (f + k)
    have e : (rdR ss ps (f + k)).data.toList.length = (rdR ss ps (f + k)).size := by simp
    simp only [stx, List.length_append]
    omega
theorem arT_b {ss : List ByteArray} {ps : List Wr} (h : LbI ss ps) (a : Int) : (arT ss ps a).size ≤ 20000 := by
  unfold arT stT
  split
  · show (stx ss ps (af a + 1) 47).toArray.size ≤ 20000
    have := stx_b h (af a + 1) 47
    simp only [List.size_toArray]
    omega
  · exact Nat.zero_le 20000
end Go.Proofs.Ytekjpoenbcnhdaa

namespace Go.Proofs.Ytekjpoenbcnhdaa
open Go.RowKit
open DM
open FM
attribute [local go_sem ↓] Go.wp_at_zero Go.wp_at_succ

theorem shape3 {w : World} {base : Nat} {v : Value} {l : List ByteArray} (h : SOwn w base v l) : ∃ va vc, v = .slice va l.length vc := by
  obtain ⟨ao, cap, e, _⟩ := h.row
  exact ⟨ao, cap, e⟩
theorem toList_dataN (s : ByteArray) : s.toList = s.data.toList := by
  obtain ⟨⟨l⟩⟩ := s
  exact ByteArray.toList_mk l
theorem ba_of_list {x y : ByteArray} (h : x.toList = y.toList) : x = y := by
  rw [toList_dataN, toList_dataN] at h
  obtain ⟨⟨a⟩⟩ := x
  obtain ⟨⟨b⟩⟩ := y
  have h' : a = b := h
  rw [h']
theorem toList_ne {x y : ByteArray} (h : x ≠ y) : ¬ x.toList = y.toList := fun e => h (ba_of_list e)

set_option maxRecDepth 100000 in
set_option maxHeartbeats 8000000 in
theorem equ40 (xs ys : List ByteArray) (a1 a2 : Option Addr) (c1 c2 : Nat) (hn : xs.length ≤ 100000000) (_hm : ys.length ≤ 100000000) (b : Bool) (hb : b = true ↔ xs = ys) (w : World) (h1 : SRow w a1 xs) (h2 : SRow w a2 ys) :
    Calls Try.prog 40 #[.slice a1 xs.length c1, .slice a2 ys.length c2] w fun e w' => e = .returned (.bool b) ∧ Below w.heap.size w w' := by
  have H1 : Hid (SRow w a1 xs) := h1
  have H2 : Hid (SRow w a2 ys) := h2
  have HB0 : Hid (b = true ↔ xs = ys) := hb
  clear h1 h2 hb
  by_cases hl : xs.length = ys.length
  · have HL : Hid (xs.length = ys.length) := hl
    rw [← hl]
    clear hl
    go_enter Try.func40, Try.ntmps40
    go_wp2
    go_loopw [13] (fun t wr => ∃ k : Nat, k ≤ xs.length ∧ t = .int .i64 k ∧ Hid (∀ j (h1 : j < xs.length) (h2 : j < ys.length), j < k → xs[j] = ys[j]) ∧ Hid (Below w.heap.size w wr)) (fun t _ => xs.length - (intOf t).toNat)
    case atStart => exact ⟨0, Nat.zero_le _, rfl, fun j _ _ h => by omega, Below.refl _ _⟩
    case round =>
      obtain ⟨k, hk, rfl, HJ, HB⟩ := hrel
      by_cases hlt : k < xs.length
      · have hlt' : (k : Int) < (xs.length : Int) := by omega
        have h0 : (0 : Int) ≤ (k : Int) := by omega
        have hlt2 : k < ys.length := by rw [← HL.out]; exact hlt
        obtain ⟨b1, off1, rfl, hl1, q1⟩ := (H1.out.below HB.out) (by omega)
        obtain ⟨b2, off2, rfl, hl2, q2⟩ := (H2.out.below HB.out) (by omega)
        have r1 := q1 k hlt
        have r2 := q2 k hlt2
        clear q1 q2
        by_cases he : xs[k] = ys[k]
        · have HE : Hid (xs[k] = ys[k]) := he
          rw [← he] at r2
          clear he
          go_wp2
          go_quiet (fail)
          go_wp2
          go_roundw
          case rel => exact ⟨k + 1, by omega, by go_num, fun j g1 g2 g3 => by
            by_cases hj : j = k
            · subst hj; exact HE.out
            · exact HJ.out j g1 g2 (by omega), below_drewN HB.out _⟩
          case measure => simp [intOf]; omega
        · have hq0 := toList_ne he
          have hq1 : (xs[k].toList == ys[k].toList) = false := by simp [hq0]
          have HE : Hid (¬ xs[k] = ys[k]) := he
          have hbf : b = false := by
            cases hbb : b with
            | false => rfl
            | true =>
              have e := HB0.out.1 hbb
              exact absurd (by simp [e]) he
          clear he
          go_wp2
          go_quiet (fail)
          go_wp2
          go_ret
          exact ⟨by first | rfl | (rw [hbf]; rfl) | simp [hbf], below_drewN HB.out _⟩
      · have hd : ¬ (k : Int) < (xs.length : Int) := by omega
        have hbt : b = true := HB0.out.2 (List.ext_getElem HL.out (fun j g1 g2 => HJ.out j g1 g2 (by omega)))
        go_wp2
        go_ret
        exact ⟨by first | rfl | (rw [hbt]; rfl) | simp [hbt], HB.out⟩
  · have hl' : ¬ (xs.length : Int) = (ys.length : Int) := by omega
    have hbf : b = false := by
      cases hbb : b with
      | false => rfl
      | true => exact absurd (by rw [HB0.out.1 hbb]) hl
    clear HB0 H1 H2
    go_enter Try.func40, Try.ntmps40
    go_wp2
    go_ret
    exact ⟨by first | rfl | (rw [hbf]; rfl) | simp [hbf], Below.refl _ _⟩

theorem tx_len {ss : List ByteArray} {ps : List Wr} : (txOf ss ps).length ≤ 1000 := by
  unfold txOf raO
  split
  · split
    · cases h : recsGo (arT ss ps (act ss ps)) (cnt ss ps (act ss ps)).toNat [] 0 with
      | none => exact Nat.zero_le 1000
      | some q =>
        obtain ⟨l, n⟩ := q
        have h1 := recs_len _ _ _ _ _ h
        have h2 := cnt_le ss ps (act ss ps)
        show l.length ≤ 1000
        simp at h1
        omega
    · exact Nat.zero_le 1000
  · exact Nat.zero_le 1000

set_option maxRecDepth 100000 in
set_option maxHeartbeats 8000000 in
theorem isame14 (s1 : List ByteArray) (p1 : List Wr) (s2 : List ByteArray) (p2 : List Wr) (x1 : Option Addr) (x2 : Nat) (x3 : Option Addr) (x4 : Nat) (y1 : Option Addr) (y2 : Nat) (y3 : Option Addr) (y4 : Nat) (hI : LbI s1 p1) (hJ : LbI s2 p2) (b : Bool) (hb : b = true ↔ txOf s1 p1 = txOf s2 p2) (w : World) (hs1 : SRow w x1 s1) (hp1 : PRow w x3 p1) (hs2 : SRow w y1 s2) (hp2 : PRow w y3 p2) :
    Calls Try.prog 14 #[.agg #[.slice x1 s1.length x2, .slice x3 p1.length x4], .agg #[.slice y1 s2.length y2, .slice y3 p2.length y4]] w fun e w' => e = .returned (.bool b) ∧ Below w.heap.size w w' := by
  have H1 : Hid (∀ W : World, Below w.heap.size w W → Calls Try.prog 41 #[.agg #[.slice x1 s1.length x2, .slice x3 p1.length x4]] W fun e w' => ∃ va vc, e = .returned (.slice va (txOf s1 p1).length vc) ∧ SRow w' va (txOf s1 p1) ∧ Below W.heap.size W w') := fun W h => by
    refine (ilt32 s1 p1 x1 x3 x2 x4 hI.wide.1 hI.wide.2.1 hI.wide.2.2.1 hI.wide.2.2.2 (fun b => arT_b hI b) W (hs1.below h) (hp1.below h)).mono ?_
    rintro e w' ⟨v, rfl, h3, h4⟩
    obtain ⟨va, vc, rfl⟩ := shape3 h3
    exact ⟨va, vc, rfl, h3.srow, h4⟩
  have H2 : Hid (∀ W : World, Below w.heap.size w W → Calls Try.prog 41 #[.agg #[.slice y1 s2.length y2, .slice y3 p2.length y4]] W fun e w' => ∃ va vc, e = .returned (.slice va (txOf s2 p2).length vc) ∧ SRow w' va (txOf s2 p2) ∧ Below W.heap.size W w') := fun W h => by
    refine (ilt32 s2 p2 y1 y3 y2 y4 hJ.wide.1 hJ.wide.2.1 hJ.wide.2.2.1 hJ.wide.2.2.2 (fun b => arT_b hJ b) W (hs2.below h) (hp2.below h)).mono ?_
    rintro e w' ⟨v, rfl, h3, h4⟩
    obtain ⟨va, vc, rfl⟩ := shape3 h3
    exact ⟨va, vc, rfl, h3.srow, h4⟩
  have hz1 := tx_len (ss := s1) (ps := p1)
  have hz2 := tx_len (ss := s2) (ps := p2)
  clear hs1 hp1 hs2 hp2 hI hJ
  generalize txOf s1 p1 = T1 at *
  generalize txOf s2 p2 = T2 at *
  have b0 : Hid (Below w.heap.size w ((w.alloc (.cells #[.slice x1 s1.length x2, .slice x3 p1.length x4] 27)).alloc (.cells #[.slice y1 s2.length y2, .slice y3 p2.length y4] 27))) := ((belowRefl w).alloc (Nat.le_refl _) _).alloc (by simp) _
  have X0 : Hid (Bx ((w.alloc (.cells #[.slice x1 s1.length x2, .slice x3 p1.length x4] 27)).alloc (.cells #[.slice y1 s2.length y2, .slice y3 p2.length y4] 27)) w.heap.size (.slice x1 s1.length x2) (.slice x3 p1.length x4)) := (Bx.new w _ _ _).alloc _
  have X1 : Hid (Bx ((w.alloc (.cells #[.slice x1 s1.length x2, .slice x3 p1.length x4] 27)).alloc (.cells #[.slice y1 s2.length y2, .slice y3 p2.length y4] 27)) (w.heap.size + 1) (.slice y1 s2.length y2) (.slice y3 p2.length y4)) := by
    have h := Bx.new (w.alloc (.cells #[.slice x1 s1.length x2, .slice x3 p1.length x4] 27)) (.slice y1 s2.length y2) (.slice y3 p2.length y4) 27
    rw [World.size_alloc] at h
    exact h
  go_enter Try.func14, Try.ntmps14
  go_upto_region 1 with fail
  generalize ((w.alloc (.cells #[.slice x1 s1.length x2, .slice x3 p1.length x4] 27)).alloc (.cells #[.slice y1 s2.length y2, .slice y3 p2.length y4] 27)) = v0 at *
  refine wp_region_held_drew (S := fun w' => w'.cell? ⟨w.heap.size, 0, none⟩ = some (.slice x1 s1.length x2) ∧ w'.cell? ⟨w.heap.size, 1, none⟩ = some (.slice x3 p1.length x4) ∧ w'.cell? ⟨w.heap.size + 1, 0, none⟩ = some (.slice y1 s2.length y2) ∧ w'.cell? ⟨w.heap.size + 1, 1, none⟩ = some (.slice y3 p2.length y4)) (by kernel_rfl) ⟨X0.out.c0, X0.out.c1, X1.out.c0, X1.out.c1⟩ (fun hHeld => ?_)
  (refine wpAnyH_take (i := 0) (v := ?_) rfl (by kernel_rfl) (by kernel_rfl) (by kernel_rfl) (fun _ _ _ h => h) (Or.inl ⟨by rfl, ?_⟩) (by assumption) ?_; rotate_left; (focus (intro w hSw; (try dsimp only at hSw); go_simp; (try with_reducible rfl); done)); simp only [Act.put, List.getElem_toArray, List.getElem_cons_zero, List.setIfInBounds_toArray, List.set_cons_zero, List.set_cons_succ])
  (refine wpAnyH_take (i := 2) (v := ?_) rfl (by kernel_rfl) (by kernel_rfl) (by kernel_rfl) (fun _ _ _ h => h) (Or.inl ⟨by rfl, ?_⟩) (by assumption) ?_; rotate_left; (focus (intro w hSw; (try dsimp only at hSw); go_simp; (try with_reducible rfl); done)); simp only [Act.put, List.getElem_toArray, List.getElem_cons_zero, List.getElem_cons_succ, List.setIfInBounds_toArray, List.set_cons_zero, List.set_cons_succ])
  refine wpAnyH_ready (rs := [1]) (by kernel_rfl) (by simp) ?_
  refine AllReadyH.cons rfl (fun K hK => ?_) AllReadyH.nil
  go_simp
  go_wp2_with fail
  refine (H1.out _ b0.out.drew).mono ?_
  rintro e w1 ⟨va, vc, rfl, hv, hb1⟩
  replace hb1 := undrew hb1
  replace X0 : Hid (Bx w1 w.heap.size (.slice x1 s1.length x2) (.slice x3 p1.length x4)) := X0.out.keep hb1 X0.out.lt
  replace X1 : Hid (Bx w1 (w.heap.size + 1) (.slice y1 s2.length y2) (.slice y3 p2.length y4)) := X1.out.keep hb1 X1.out.lt
  replace b0 : Hid (Below w.heap.size w w1) := b0.out.trans (hb1.mono b0.out.size)
  have V1 : Hid (SRow w1 va T1) := hv
  clear hv hb1
  go_wp2_with fail
  refine hK.out _ _ ⟨X0.out.c0, X0.out.c1, X1.out.c0, X1.out.c1⟩ (fun hHeld1 => ?_)
  clear hK K
  refine wpAnyH_ready (rs := [3]) (by kernel_rfl) (by simp) ?_
  refine AllReadyH.cons rfl (fun K hK => ?_) AllReadyH.nil
  go_simp
  go_wp2_with fail
  refine (H2.out _ b0.out).mono ?_
  rintro e w2 ⟨vb, vd, rfl, hv, hb1⟩
  replace X0 : Hid (Bx w2 w.heap.size (.slice x1 s1.length x2) (.slice x3 p1.length x4)) := X0.out.keep hb1 X0.out.lt
  replace X1 : Hid (Bx w2 (w.heap.size + 1) (.slice y1 s2.length y2) (.slice y3 p2.length y4)) := X1.out.keep hb1 X1.out.lt
  replace b0 : Hid (Below w.heap.size w w2) := b0.out.trans (hb1.mono b0.out.size)
  replace V1 : Hid (SRow w2 va T1) := V1.out.below hb1
  have V2 : Hid (SRow w2 vb T2) := hv
  clear hv hb1
  go_wp2_with fail
  refine hK.out _ _ ⟨X0.out.c0, X0.out.c1, X1.out.c0, X1.out.c1⟩ (fun hHeld2 => ?_)
  clear hK K
  refine wpAnyH_ready (rs := [4]) (by kernel_rfl) (by simp) ?_
  refine AllReadyH.cons rfl (fun K hK => ?_) AllReadyH.nil
  go_simp
  go_wp2_with fail
  refine (equ40 T1 T2 va vb vc vd (by omega) (by omega) b hb _ V1.out V2.out).mono ?_
  rintro e w3 ⟨rfl, hb1⟩
  replace X0 : Hid (Bx w3 w.heap.size (.slice x1 s1.length x2) (.slice x3 p1.length x4)) := X0.out.keep hb1 X0.out.lt
  replace X1 : Hid (Bx w3 (w.heap.size + 1) (.slice y1 s2.length y2) (.slice y3 p2.length y4)) := X1.out.keep hb1 X1.out.lt
  replace b0 : Hid (Below w.heap.size w w3) := b0.out.trans (hb1.mono b0.out.size)
  clear hb1
  go_wp2_with fail
  refine hK.out _ _ ⟨X0.out.c0, X0.out.c1, X1.out.c0, X1.out.c1⟩ (fun hHeld3 => ?_)
  clear hK K
  (refine wpAnyH_take (i := 5) (v := ?_) rfl (by kernel_rfl) (by kernel_rfl) (by kernel_rfl) (fun _ _ _ h => h) (Or.inl ⟨by rfl, ?_⟩) (by assumption) ?_; rotate_left; (focus (intro w hSw; (try dsimp only at hSw); go_simp; (try with_reducible rfl); done)); simp only [Act.put, List.getElem_toArray, List.getElem_cons_zero, List.getElem_cons_succ, List.setIfInBounds_toArray, List.set_cons_zero, List.set_cons_succ])
  refine wpAnyH_done (by kernel_rfl) ?_ _
  go_wp2
  go_ret
  exact ⟨rfl, b0.out⟩

end Go.Proofs.Ytekjpoenbcnhdaa

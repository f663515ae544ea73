/- What a crash leaves of the bytes of a log. -/
import Derived.Test.YtekjpoenbcnhdaaPb19
import Derived.Test.YtekjpoenbcnhdaaPb30
import Derived.Test.YtekjpoenbcnhdaaPb31
import Derived.Test.YtekjpoenbcnhdaaPb13
import Derived.Deep.Cut
import Derived.Deep.CutRange
import Derived.Test.YtekjpoenbcnhdaaPb12
import Derived.Deep.RegionHeld3
namespace Go.Proofs.Ytekjpoenbcnhdaa
open Go.RowKit
open DM
open FM

def at2 (rows : List (List UInt8)) (j i : Nat) : Option UInt8 := (rows[j]?).bind fun r => r[i]?
structure Gd (n : Nat) (r0 : List (List UInt8)) (V : Nat → Nat → Option UInt8 → Prop) (rows : List (List UInt8)) : Prop where
  len : rows.length = n
  a64 : All64 rows
  eq : ∀ j i, i < 64 → at2 rows j i = at2 r0 j i ∨ V j i (at2 rows j i)
def Wq (n : Nat) (r0 : List (List UInt8)) (V : Nat → Nat → Option UInt8 → Prop) (q : Wr) : Prop :=
  0 ≤ q.1 ∧ q.1.toNat < n ∧ q.2.size ≤ 64 ∧ ∀ i, i < q.2.size → q.2.data.toList[i]? = at2 r0 q.1.toNat i ∨ V q.1.toNat i (q.2.data.toList[i]?)
theorem Gd.one {n : Nat} {r0 : List (List UInt8)} {V : Nat → Nat → Option UInt8 → Prop} {rows : List (List UInt8)} (h : Gd n r0 V rows) {q : Wr} (hq : Wq n r0 V q) : Gd n r0 V (rows.set q.1.toNat (putL (rows.getD q.1.toNat []) q.2)) := by
  obtain ⟨h0, h1, h2, h3⟩ := hq
  have hm : q.1.toNat < rows.length := by rw [h.len]; exact h1
  have hr : rows.getD q.1.toNat [] = rows[q.1.toNat] := by rw [List.getD_eq_getElem?_getD, List.getElem?_eq_getElem hm]; rfl
  have hz : q.2.data.toList.length = q.2.size := Array.length_toList
  refine ⟨by rw [List.length_set]; exact h.len, h.a64.set _ (putL_len _ _ (by rw [hr]; exact h.a64 _ (List.getElem_mem hm)) h2), fun j i hi => ?_⟩
  by_cases hj : j = q.1.toNat
  · subst hj
    have e : at2 (rows.set q.1.toNat (putL (rows.getD q.1.toNat []) q.2)) q.1.toNat i = (putL (rows.getD q.1.toNat []) q.2)[i]? := by
      unfold at2
      rw [List.getElem?_set_self hm]
      rfl
    rw [e]
    unfold putL
    by_cases hi2 : i < q.2.size
    · rw [List.getElem?_append_left (by rw [hz]; exact hi2)]
      exact h3 i hi2
    · rw [List.getElem?_append_right (by rw [hz]; omega), hz, List.getElem?_drop, hr, show q.2.size + (i - q.2.size) = i by omega]
      have h4 := h.eq q.1.toNat i hi
      have e2 : at2 rows q.1.toNat i = rows[q.1.toNat][i]? := by
        unfold at2
        rw [List.getElem?_eq_getElem hm]
        rfl
      rw [e2] at h4
      exact h4
  · have e : at2 (rows.set q.1.toNat (putL (rows.getD q.1.toNat []) q.2)) j i = at2 rows j i := by
      unfold at2
      rw [List.getElem?_set_ne (fun h => hj h.symm)]
    rw [e]
    exact h.eq j i hi
theorem Gd.wr {n : Nat} {r0 : List (List UInt8)} {V : Nat → Nat → Option UInt8 → Prop} : ∀ (ws : List Wr) (rows : List (List UInt8)), Gd n r0 V rows → (∀ q ∈ ws, Wq n r0 V q) → Gd n r0 V (wrt rows ws)
  | [], _, h, _ => h
  | q :: ws, rows, h, hw => by
    unfold wrt
    exact Gd.wr ws _ (h.one (hw q (List.mem_cons_self ..))) (fun p hp => hw p (List.mem_cons_of_mem _ hp))
theorem mem_chs {ps : List Wr} {ks : List Int} {q : Wr} : ∀ n, q ∈ chs ps ks n → q ∈ ps
  | 0, h => by cases h
  | n + 1, h => by
    unfold chs at h
    rcases List.mem_append.1 h with h | h
    · exact mem_chs n h
    · split at h
      · rename_i p hp
        split at h
        · rw [List.mem_singleton.1 h]; exact List.mem_of_getElem? hp
        · cases h
      · cases h
theorem mem_torn {ws : List Wr} {k : Nat} {q : Wr} (h : q ∈ tornL ws k) : q ∈ ws ∨ ∃ p ∈ ws, q = (p.1, p.2.extract 0 k) := by
  by_cases hn : ws.length = 0
  · have h0 : ws = [] := List.length_eq_zero_iff.1 hn
    subst h0
    rw [tornL_nil] at h
    cases h
  · unfold tornL at h
    rcases List.mem_or_eq_of_mem_set h with h | h
    · exact Or.inl h
    · refine Or.inr ⟨ws.getD (ws.length - 1) (0, ByteArray.empty), ?_, h⟩
      have hl : ws.length - 1 < ws.length := by omega
      rw [List.getD_eq_getElem?_getD, List.getElem?_eq_getElem hl]
      exact List.getElem_mem hl
theorem wq_torn {n : Nat} {r0 : List (List UInt8)} {V : Nat → Nat → Option UInt8 → Prop} {p : Wr} (h : Wq n r0 V p) (k : Nat) : Wq n r0 V (p.1, p.2.extract 0 k) := by
  obtain ⟨h0, h1, h2, h3⟩ := h
  have hz : (p.2.extract 0 k).size = min k p.2.size := by simp [ByteArray.size_extract]
  refine ⟨h0, h1, by show (p.2.extract 0 k).size ≤ 64; omega, fun i hi => ?_⟩
  have hi2 : i < min k p.2.size := by rw [← hz]; exact hi
  have e : (p.2.extract 0 k).data.toList[i]? = p.2.data.toList[i]? := by
    have e1 : (p.2.extract 0 k).data.toList = p.2.data.toList.take k := by simp
    rw [e1, List.getElem?_take_of_lt (by omega)]
  show (p.2.extract 0 k).data.toList[i]? = _ ∨ V p.1.toNat i ((p.2.extract 0 k).data.toList[i]?)
  rw [e]
  exact h3 i (by omega)
theorem at2_bys (ss : List ByteArray) (j i : Nat) : at2 (bys ss) j i = (ss[j]?).bind fun s => s.data.toList[i]? := by
  unfold at2 bys
  rw [List.getElem?_map]
  cases ss[j]? <;> rfl
theorem gd_refl {ss : List ByteArray} (h64 : ∀ s ∈ ss, s.size = 64) (V : Nat → Nat → Option UInt8 → Prop) : Gd ss.length (bys ss) V (bys ss) := ⟨bys_len ss, bys_64 h64, fun _ _ _ => Or.inl rfl⟩
theorem crash_gd {ss : List ByteArray} {W : List Wr} {ks : List Int} {t : Int} {V : Nat → Nat → Option UInt8 → Prop} (hok : okB ss W = true) (hw : ∀ q ∈ W, Wq ss.length (bys ss) V q) :
    okB (crS ss W ks t) [] = true ∧ (crS ss W ks t).length = ss.length ∧ ∀ x, (flat (crS ss W ks t))[x]? = (flat ss)[x]? ∨ V (x / 64) (x % 64) ((flat (crS ss W ks t))[x]?) := by
  have hO := okB_iff.1 hok
  have hg : Gd ss.length (bys ss) V (wrt (bys ss) (crK W ks t)) := Gd.wr _ _ (gd_refl hO.2.2.2.1 V) (fun q hq => by
    rcases mem_torn hq with h | ⟨p, h, rfl⟩
    · exact hw q (mem_chs _ h)
    · exact wq_torn (hw p (mem_chs _ h)) _)
  have e : crS ss W ks t = txs (wrt (bys ss) (crK W ks t)) := crS_yes hok
  have h64 : ∀ s ∈ crS ss W ks t, s.size = 64 := fun s hs => by
    rw [e] at hs
    obtain ⟨r, hr, rfl⟩ := List.mem_map.1 hs
    show r.toArray.size = 64
    rw [List.size_toArray]
    exact hg.a64 r hr
  have hl : (crS ss W ks t).length = ss.length := by rw [e, txs_len]; exact hg.len
  have eb : bys (crS ss W ks t) = wrt (bys ss) (crK W ks t) := by
    rw [e]
    unfold bys txs
    rw [List.map_map]
    conv => rhs; rw [← List.map_id (wrt (List.map (fun s => s.data.toList) ss) (crK W ks t))]
    rfl
  refine ⟨okB_iff.2 ⟨by rw [hl]; exact hO.1, by rw [hl]; exact hO.2.1, Nat.zero_le _, h64, fun p hp => by cases hp⟩, hl, fun x => ?_⟩
  have hx : x / 64 * 64 + x % 64 = x := by omega
  have g1 := flat_get (crS ss W ks t) h64 (x / 64) (x % 64) (by omega)
  have g2 := flat_get ss hO.2.2.2.1 (x / 64) (x % 64) (by omega)
  rw [hx, ← at2_bys, eb] at g1
  rw [hx, ← at2_bys] at g2
  rw [g1, g2]
  exact hg.eq _ _ (by omega)
theorem wbGo_wq (ss : List ByteArray) (h64 : ∀ s ∈ ss, s.size = 64) (k0 lo hi : Nat) (V : Nat → Nat → Option UInt8 → Prop) (hV : ∀ j i o, lo ≤ j * 64 + i → j * 64 + i < hi → V j i o) : ∀ (f : Nat) (cur : List Wr) (q : Nat) (rest : List UInt8), (∀ p ∈ cur, okW ss.length p) → (∀ p ∈ cur, Wq ss.length (bys ss) V p) → k0 * 64 + q + rest.length ≤ ss.length * 64 → lo ≤ k0 * 64 + q → k0 * 64 + q + rest.length ≤ hi → ∀ p ∈ wbGo ss k0 f cur q rest, Wq ss.length (bys ss) V p
  | 0, cur, q, rest, _, hc, _, _, _ => hc
  | f + 1, cur, q, rest, ho, hc, hr, h1, h2 => by
    simp only [wbGo]
    by_cases hn : rest = []
    · rw [if_pos hn]; exact hc
    · rw [if_neg hn]
      have hpos : 0 < rest.length := List.length_pos_iff.2 hn
      have hjl : k0 + q / 64 < ss.length := by omega
      have hS64 : ∀ s ∈ flush ss cur, s.size = 64 := flush_64 ss cur h64 (fun p hp => (ho p hp).2.2)
      have hjf : k0 + q / 64 < (flush ss cur).length := by rw [flush_len]; exact hjl
      have hrd : rdR ss cur ((k0 + q / 64 : Nat) : Int) = (flush ss cur)[k0 + q / 64] := by
        rw [rdR_flush ss cur ho _ hjl, List.getD_eq_getElem?_getD, List.getElem?_eq_getElem hjf]
        rfl
      have hsz : (rdR ss cur ((k0 + q / 64 : Nat) : Int)).size = 64 := by
        rw [hrd]
        exact hS64 _ (List.getElem_mem hjf)
      have hss : (spl (rdR ss cur ((k0 + q / 64 : Nat) : Int)) (q % 64) (rest.take (64 - q % 64))).size = 64 := by rw [spl_size _ _ _ (by rw [hsz, List.length_take]; omega), hsz]
      have hg : Gd ss.length (bys ss) V (bys (flush ss cur)) := by
        rw [← wrt_flush ss cur h64 (fun p hp => (ho p hp).2.2)]
        exact Gd.wr _ _ (gd_refl h64 V) hc
      have hnew : Wq ss.length (bys ss) V (((k0 + q / 64 : Nat) : Int), spl (rdR ss cur ((k0 + q / 64 : Nat) : Int)) (q % 64) (rest.take (64 - q % 64))) := by
        refine ⟨by show (0 : Int) ≤ ((k0 + q / 64 : Nat) : Int); omega, by show ((k0 + q / 64 : Nat) : Int).toNat < _; omega, by show (spl _ _ _).size ≤ 64; omega, fun i hi => ?_⟩
        have hi64 : i < 64 := by have : i < (spl (rdR ss cur ((k0 + q / 64 : Nat) : Int)) (q % 64) (rest.take (64 - q % 64))).size := hi; omega
        show (spl _ _ _).data.toList[i]? = at2 (bys ss) (((k0 + q / 64 : Nat) : Int).toNat) i ∨ V (((k0 + q / 64 : Nat) : Int).toNat) i ((spl _ _ _).data.toList[i]?)
        rw [show (((k0 + q / 64 : Nat) : Int).toNat) = k0 + q / 64 from rfl]
        have hl64 : (rdR ss cur ((k0 + q / 64 : Nat) : Int)).data.toList.length = 64 := Eq.trans Array.length_toList hsz
        have e0 : at2 (bys (flush ss cur)) (k0 + q / 64) i = (rdR ss cur ((k0 + q / 64 : Nat) : Int)).data.toList[i]? := by
          rw [at2_bys, List.getElem?_eq_getElem hjf, hrd]
          rfl
        have h5 := hg.eq (k0 + q / 64) i hi64
        rw [e0] at h5
        rw [spl_toList, splL_get _ _ _ (by rw [hl64, List.length_take]; omega)]
        by_cases c1 : i < q % 64
        · rw [if_pos c1]; exact h5
        · rw [if_neg c1]
          by_cases c2 : i < q % 64 + (rest.take (64 - q % 64)).length
          · rw [if_pos c2]
            rw [List.length_take] at c2
            exact Or.inr (hV _ _ _ (by omega) (by omega))
          · rw [if_neg c2]; exact h5
      refine wbGo_wq ss h64 k0 lo hi V hV f _ _ _ (fun p hp => ?_) (fun p hp => ?_) (by rw [List.length_drop]; omega) (by omega) (by rw [List.length_drop]; omega)
      · rcases List.mem_append.1 hp with h | h
        · exact ho p h
        · rw [List.mem_singleton.1 h]
          exact ⟨by show (0 : Int) ≤ ((k0 + q / 64 : Nat) : Int); omega, by show ((k0 + q / 64 : Nat) : Int) < _; omega, hss⟩
      · rcases List.mem_append.1 hp with h | h
        · exact hc p h
        · rw [List.mem_singleton.1 h]; exact hnew
theorem crash_wb {ss : List ByteArray} {k0 q : Nat} {l : List UInt8} {ks : List Int} {t : Int} (hok : okB ss [] = true) (hl : l.length ≤ 3008) (h : k0 * 64 + q + l.length ≤ ss.length * 64) :
    okB (crS ss (wb ss k0 q l) ks t) [] = true ∧ (crS ss (wb ss k0 q l) ks t).length = ss.length ∧ ∀ x, (x < k0 * 64 + q ∨ k0 * 64 + q + l.length ≤ x) → (flat (crS ss (wb ss k0 q l) ks t))[x]? = (flat ss)[x]? := by
  have hO := okB_iff.1 hok
  have hw := wbGo_wq ss hO.2.2.2.1 k0 (k0 * 64 + q) (k0 * 64 + q + l.length) (fun j i _ => k0 * 64 + q ≤ j * 64 + i ∧ j * 64 + i < k0 * 64 + q + l.length) (fun j i _ h1 h2 => ⟨h1, h2⟩) l.length [] q l (fun p hp => by cases hp) (fun p hp => by cases hp) h (Nat.le_refl _) (Nat.le_refl _)
  have hc := crash_gd (ks := ks) (t := t) (wb_ok hok k0 q l hl h) hw
  refine ⟨hc.1, hc.2.1, fun x hx => ?_⟩
  rcases hc.2.2 x with h2 | ⟨h2, h3⟩
  · exact h2
  · omega
theorem crash_one {ss : List ByteArray} {k0 : Nat} {x : UInt8} {ks : List Int} {t : Int} (hok : okB ss [] = true) (h : k0 < ss.length) :
    okB (crS ss (wb ss k0 0 [x]) ks t) [] = true ∧ (crS ss (wb ss k0 0 [x]) ks t).length = ss.length ∧ (flat (crS ss (wb ss k0 0 [x]) ks t) = flat ss ∨ flat (crS ss (wb ss k0 0 [x]) ks t) = splL (flat ss) (k0 * 64) [x]) := by
  have hO := okB_iff.1 hok
  have hWo := wb_ok hok k0 0 [x] (by simp) (by simp; omega)
  have hd : ss.getD k0 ByteArray.empty = ss[k0] := by rw [List.getD_eq_getElem?_getD, List.getElem?_eq_getElem h]; rfl
  have e : wb ss k0 0 [x] = [((k0 : Int), spl ss[k0] 0 [x])] := by
    unfold wb
    simp only [List.length_singleton, wbGo]
    rw [if_neg (by simp)]
    simp only [Nat.zero_div, Nat.add_zero, Nat.zero_mod, Nat.sub_zero, List.nil_append]
    rw [rdR_nil ss k0 h, hd]
    rfl
  have hs64 : (ss[k0]).size = 64 := hO.2.2.2.1 _ (List.getElem_mem h)
  have hl64 : (ss[k0]).data.toList.length = 64 := by rw [← hs64]; exact Array.length_toList
  have hw : ∀ p ∈ wb ss k0 0 [x], Wq ss.length (bys ss) (fun j i o => j = k0 ∧ i = 0 ∧ o = some x) p := fun p hp => by
    rw [e] at hp
    rw [List.mem_singleton.1 hp]
    have hz : (spl ss[k0] 0 [x]).size = 64 := by rw [spl_size _ _ _ (by rw [hs64]; simp), hs64]
    refine ⟨by show (0 : Int) ≤ (k0 : Int); omega, by show ((k0 : Nat) : Int).toNat < _; omega, by show (spl _ _ _).size ≤ 64; omega, fun i _ => ?_⟩
    show (spl _ _ _).data.toList[i]? = at2 (bys ss) k0 i ∨ (k0 = k0 ∧ i = 0 ∧ (spl _ _ _).data.toList[i]? = some x)
    rw [spl_toList, splL_get _ _ _ (by rw [hl64]; simp), at2_bys, List.getElem?_eq_getElem h]
    by_cases hi : i = 0
    · subst hi
      exact Or.inr ⟨rfl, rfl, by simp⟩
    · rw [if_neg (by omega), if_neg (by simp; omega)]
      exact Or.inl rfl
  have hc := crash_gd (ks := ks) (t := t) hWo hw
  refine ⟨hc.1, hc.2.1, ?_⟩
  have hfl : (flat ss).length = ss.length * 64 := flat_len ss hO.2.2.2.1
  by_cases hb : (flat (crS ss (wb ss k0 0 [x]) ks t))[k0 * 64]? = (flat ss)[k0 * 64]?
  · left
    apply List.ext_getElem?
    intro y
    rcases hc.2.2 y with h2 | ⟨h2, h3, _⟩
    · exact h2
    · rw [show y = k0 * 64 by omega]
      exact hb
  · right
    apply List.ext_getElem?
    intro y
    rw [splL_get _ _ _ (by rw [hfl]; simp; omega)]
    by_cases hy : y = k0 * 64
    · subst hy
      rw [if_neg (by omega), if_pos (by simp)]
      rcases hc.2.2 (k0 * 64) with h2 | ⟨_, _, h3⟩
      · exact absurd h2 hb
      · rw [h3]; simp
    · rcases hc.2.2 y with h2 | ⟨h2, h3, _⟩
      · rw [h2]
        by_cases c1 : y < k0 * 64
        · rw [if_pos c1]
        · rw [if_neg c1, if_neg (by simp; omega)]
      · exact absurd (by omega) hy
end Go.Proofs.Ytekjpoenbcnhdaa

namespace Go.Proofs.Ytekjpoenbcnhdaa
open Go.RowKit
open DM

end Go.Proofs.Ytekjpoenbcnhdaa

namespace Go.Proofs.Ytekjpoenbcnhdaa
open Go.RowKit
open DM

end Go.Proofs.Ytekjpoenbcnhdaa

namespace Go.Proofs.Ytekjpoenbcnhdaa
open Go.RowKit
open DM
open FM

def txOf (ss : List ByteArray) (ps : List Wr) : List ByteArray := oL (raO ss ps (act ss ps))
theorem tx_flat {ss : List ByteArray} (hok : okB ss [] = true) (h97 : ss.length = 97) : txOf ss [] = oL (raF (flat ss) ((fsF (flat ss) : Int) % 2)) := by
  have hO := okB_iff.1 hok
  have ha := act_flat hO.2.2.2.1 (by omega)
  unfold txOf
  rw [raO_flat hO.2.2.2.1 h97 (act_01 ss []), ha.2]
theorem same_bytes {x y : List ByteArray} (hx : okB x [] = true) (hxl : x.length = 97) (hy : logB y [] = true) (hf : flat x = flat y) : logB x [] = true ∧ txOf x [] = txOf y [] := by
  have hyp := logB_parts hy
  refine ⟨logB_all hx hxl (fun a hA => ?_), ?_⟩
  · rw [hf]; exact logB_some hy hA
  · rw [tx_flat hx hxl, tx_flat hyp.1 hyp.2.1, hf]
theorem agree_raF {F F' : List UInt8} (hF : F.length = 6208) (hF' : F'.length = 6208) {a : Int} (hA : isA a = true) {l : List ByteArray} {E : Nat} (hra : raF F a = some (l, E)) (h : ∀ x, (x < (af a + 1).toNat * 64 + E ∨ (af a + 1).toNat * 64 + 3008 ≤ x) → F'[x]? = F[x]?) {b : Int} (hB : isA b = true) : raF F' b = raF F b := by
  have ha := af_off hA
  have hb := af_off hB
  by_cases hab : b = a
  · subst hab
    have hc : cnF F' b = cnF F b := by
      unfold cnF
      rw [h _ (Or.inl (by omega))]
    rw [hra]
    unfold raF at hra ⊢
    rw [hc]
    have z1 : (piece F ((af b + 1).toNat * 64) 3008).length = 3008 := piece_len _ _ _ (by omega)
    have z2 : (piece F' ((af b + 1).toNat * 64) 3008).length = 3008 := piece_len _ _ _ (by omega)
    refine recs_loc (s := ⟨(arF F b).toArray⟩) (s' := ⟨(arF F' b).toArray⟩) ?_ _ _ _ _ _ hra (fun i hi => ?_)
    · show (arF F' b).toArray.size = (arF F b).toArray.size
      rw [List.size_toArray, List.size_toArray]
      unfold arF
      rw [z1, z2]
    · show (arF F b)[i]? = (arF F' b)[i]?
      unfold arF
      by_cases hi2 : i < 3008
      · rw [piece_get _ _ _ _ hi2, piece_get _ _ _ _ hi2]
        exact (h _ (Or.inl (by omega))).symm
      · rw [List.getElem?_eq_none (by omega), List.getElem?_eq_none (by omega)]
  · have h2 := af_two hA hB hab
    have hc : cnF F' b = cnF F b := by
      unfold cnF
      rw [h _ (by omega)]
    have e : arF F' b = arF F b := by
      unfold arF
      apply List.ext_getElem?
      intro i
      by_cases hi2 : i < 3008
      · rw [piece_get _ _ _ _ hi2, piece_get _ _ _ _ hi2]
        exact h _ (by omega)
      · rw [List.getElem?_eq_none (by rw [piece_len _ _ _ (by omega)]; omega), List.getElem?_eq_none (by rw [piece_len _ _ _ (by omega)]; omega)]
    unfold raF
    rw [hc, e]
theorem agree_log {ss cr : List ByteArray} (hlog : logB ss [] = true) (hok : okB cr [] = true) (hl : cr.length = 97) {a : Int} (hA : isA a = true) (h : ∀ x, (x < (af a + 1).toNat * 64 + oE (raO ss [] a) ∨ (af a + 1).toNat * 64 + 3008 ≤ x) → (flat cr)[x]? = (flat ss)[x]?) : logB cr [] = true ∧ txOf cr [] = txOf ss [] := by
  have hp := logB_parts hlog
  have hO := okB_iff.1 hp.1
  obtain ⟨⟨l, E⟩, hz⟩ := logB_some hlog hA
  have hra : raO ss [] a = some (l, E) := by rw [raO_flat hO.2.2.2.1 hp.2.1 hA]; exact hz
  have hE : oE (raO ss [] a) = E := by rw [hra]; rfl
  rw [hE] at h
  have hF := flat97 hp.1 hp.2.1
  have hF' := flat97 hok hl
  have ha := af_off hA
  refine ⟨logB_all hok hl (fun b hB => ?_), ?_⟩
  · rw [agree_raF hF hF' hA hz h hB]; exact logB_some hlog hB
  · have hf : fsF (flat cr) = fsF (flat ss) := by
      unfold fsF
      rw [h 0 (Or.inl (by omega))]
    rw [tx_flat hok hl, tx_flat hp.1 hp.2.1, hf, agree_raF hF hF' hA hz h (act_flat hO.2.2.2.1 (by omega) |>.2 ▸ act_01 ss [])]
theorem recW_eq {ss : List ByteArray} {a : Int} {t : ByteArray} (hr : recB ss [] a t = true) : recW ss [] a t = wb ss (af a + 1).toNat (oE (raO ss [] a)) (recL t) := if_pos hr
theorem rec_fits {ss : List ByteArray} {a : Int} {t : ByteArray} (hlog : logB ss [] = true) (hr : recB ss [] a t = true) : (recL t).length ≤ 3008 ∧ (af a + 1).toNat * 64 + oE (raO ss [] a) + (recL t).length ≤ ss.length * 64 ∧ (af a + 1).toNat * 64 + oE (raO ss [] a) + (recL t).length ≤ (af a + 1).toNat * 64 + 3008 := by
  have hp := recB_parts hr
  have hl := logB_parts hlog
  have ha := af_off hp.2.2.2.2
  rw [hl.2.1]
  omega
theorem cut_rec {ss : List ByteArray} {a : Int} {t : ByteArray} {ks : List Int} {tr : Int} (hlog : logB ss [] = true) (hr : recB ss [] a t = true) : logB (crS ss (recW ss [] a t) ks tr) [] = true ∧ txOf (crS ss (recW ss [] a t) ks tr) [] = txOf ss [] := by
  have hp := logB_parts hlog
  have hA := (recB_parts hr).2.2.2.2
  have hf := rec_fits hlog hr
  rw [recW_eq hr]
  have hc := crash_wb (ks := ks) (t := tr) hp.1 hf.1 hf.2.1
  exact agree_log hlog hc.1 (by rw [hc.2.1, hp.2.1]) hA (fun x hx => hc.2.2 x (by omega))
theorem rec_flushed {ss : List ByteArray} {a : Int} {t : ByteArray} (hlog : logB ss [] = true) (hr : recB ss [] a t = true) : logB (flS ss (recW ss [] a t)) [] = true ∧ txOf (flS ss (recW ss [] a t)) [] = txOf ss [] := by
  have hp := logB_parts hlog
  have hA := (recB_parts hr).2.2.2.2
  have hf := rec_fits hlog hr
  have hF := flat97 hp.1 hp.2.1
  rw [recW_eq hr]
  have hc := fl_wb hp.1 (af a + 1).toNat (oE (raO ss [] a)) (recL t) hf.1 hf.2.1
  refine agree_log hlog hc.1 (by rw [hc.2.1, hp.2.1]) hA (fun x hx => ?_)
  rw [hc.2.2, splL_get _ _ _ (by rw [hF]; rw [hp.2.1] at hf; omega)]
  rcases hx with hx | hx
  · rw [if_pos hx]
  · rw [if_neg (by omega), if_neg (by omega)]
theorem cut_byte {ss : List ByteArray} {k0 : Nat} {x : UInt8} {ks : List Int} {tr : Int} (hlog : logB ss [] = true) (hk : k0 < 97) (hthen : logB (flS ss (wb ss k0 0 [x])) [] = true) : logB (crS ss (wb ss k0 0 [x]) ks tr) [] = true ∧ (txOf (crS ss (wb ss k0 0 [x]) ks tr) [] = txOf ss [] ∨ txOf (crS ss (wb ss k0 0 [x]) ks tr) [] = txOf (flS ss (wb ss k0 0 [x])) []) := by
  have hp := logB_parts hlog
  have hc := crash_one (x := x) (ks := ks) (t := tr) hp.1 (k0 := k0) (by omega)
  have hfw := fl_wb hp.1 k0 0 [x] (by simp) (by simp; omega)
  have hl : (crS ss (wb ss k0 0 [x]) ks tr).length = 97 := by rw [hc.2.1, hp.2.1]
  rcases hc.2.2 with h | h
  · have q := same_bytes hc.1 hl hlog h
    exact ⟨q.1, Or.inl q.2⟩
  · have q := same_bytes hc.1 hl hthen (by rw [h, hfw.2.2]; rfl)
    exact ⟨q.1, Or.inr q.2⟩
theorem caS_cut {ss : List ByteArray} {t : ByteArray} {st : Int} {ks : List Int} {tr : Int} (hlog : logB ss [] = true) (hr : recB ss [] (act ss []) t = true) (htz : t.size ≤ 1048576) : logB (caS ss [] t st ks tr) [] = true ∧ (txOf (caS ss [] t st ks tr) [] = txOf ss [] ∨ txOf (caS ss [] t st ks tr) [] = txOf (putS ss [] (act ss []) t) []) ∧ (st = 0 → txOf (caS ss [] t st ks tr) [] = txOf ss []) := by
  have hB : prB ss [] (act ss []) t = true := by unfold prB; rw [hlog, hr]; rfl
  have hA := act_01 ss []
  have hput := put_read hlog hr htz
  by_cases h0 : st = 0
  · subst h0
    rw [caS_0 hB]
    have q := cut_rec (ks := ks) (tr := tr) hlog hr
    exact ⟨q.1, Or.inl q.2, fun _ => q.2⟩
  · by_cases h1 : st = 1
    · subst h1
      rw [caS_1 hB]
      have q1 := rec_flushed hlog hr
      have hk : (af (act ss [])).toNat < 97 := by have := af_off hA; omega
      have q := cut_byte (x := UInt8.ofNat ((cnt ss [] (act ss [])).toNat + 1)) (ks := ks) (tr := tr) q1.1 hk hput.2.2
      refine ⟨q.1, ?_, fun h => absurd h (by decide)⟩
      rcases q.2 with h | h
      · exact Or.inl (h.trans q1.2)
      · exact Or.inr h
    · rw [caS_2 hB h0 h1]
      exact ⟨hput.2.2, Or.inr rfl, fun h => absurd h h0⟩
theorem fill_tx {ss : List ByteArray} {ts : List ByteArray} (hlog : logB ss [] = true) (hts : ∀ t ∈ ts, t.size ≤ 1048576) : logB (fillO (1 - act ss []) (zrS ss (1 - act ss [])) ts).1 [] = true ∧ txOf (fillO (1 - act ss []) (zrS ss (1 - act ss [])) ts).1 [] = txOf ss [] := by
  have hA : isA (1 - act ss []) = true := oth_A ss []
  have hz := zr_read hlog hA
  have ha := (fill_act (a := 1 - act ss []) ts _ hts hz.2.2).trans (zr_act hlog hA)
  have h1 := isA_iff.1 (act_01 ss [])
  refine ⟨fill_log hts hlog, ?_⟩
  unfold txOf
  rw [ha, fill_other ts _ hts hz.2.2 _ (act_01 ss []) (by show act ss [] ≠ 1 - act ss []; omega), hz.2.1 _ (act_01 ss []) (by show act ss [] ≠ 1 - act ss []; omega)]
theorem zr_tx {ss : List ByteArray} (hlog : logB ss [] = true) : txOf (zrS ss (1 - act ss [])) [] = txOf ss [] := by
  have hA : isA (1 - act ss []) = true := oth_A ss []
  have hz := zr_read hlog hA
  have h1 := isA_iff.1 (act_01 ss [])
  unfold txOf
  rw [zr_act hlog hA, hz.2.1 _ (act_01 ss []) (by show act ss [] ≠ 1 - act ss []; omega)]
theorem csS_cut {ss : List ByteArray} {ts : List ByteArray} {st : Int} {ks : List Int} {tr : Int} (hlog : logB ss [] = true) (hts : ∀ t ∈ ts, t.size ≤ 1048576) (hB : swB ss [] ts = true) : logB (csS ss [] ts st ks tr) [] = true ∧ (txOf (csS ss [] ts st ks tr) [] = txOf ss [] ∨ txOf (csS ss [] ts st ks tr) [] = txOf (swS ss [] ts) []) ∧ (st = 0 ∨ st = 1 → txOf (csS ss [] ts st ks tr) [] = txOf ss []) := by
  have hA : isA (1 - act ss []) = true := oth_A ss []
  have hz := zr_read hlog hA
  have hf := fill_tx hlog hts
  have hturn := turn_read hf.1
  have hfb : (fillO (1 - act ss []) (zrS ss (1 - act ss [])) ts).2 = true := by
    unfold swB at hB
    exact (Bool.and_eq_true_iff.1 hB).2
  have hsw := (sw_yes hlog hfb).2
  by_cases h0 : st = 0
  · subst h0
    rw [csS_0 hB]
    have hk : (af (1 - act ss [])).toNat < 97 := by have := af_off hA; omega
    have q := cut_byte (x := UInt8.ofNat 0) (ks := ks) (tr := tr) hlog hk hz.2.2
    have e : txOf (crS ss (wb ss (af (1 - act ss [])).toNat 0 [UInt8.ofNat 0]) ks tr) [] = txOf ss [] := by
      rcases q.2 with h | h
      · exact h
      · exact h.trans (zr_tx hlog)
    exact ⟨q.1, Or.inl e, fun _ => e⟩
  · by_cases h1 : st = 1
    · subst h1
      rw [csS_1 hB]
      exact ⟨hf.1, Or.inl hf.2, fun _ => hf.2⟩
    · by_cases h2 : st = 2
      · subst h2
        rw [csS_2 hB, hsw]
        have q := cut_byte (k0 := 0) (ks := ks) (tr := tr) hf.1 (by decide) hturn.1
        refine ⟨q.1, ?_, fun h => absurd h (by decide)⟩
        rcases q.2 with h | h
        · exact Or.inl (h.trans hf.2)
        · exact Or.inr h
      · rw [csS_3 hB h0 h1 h2, hsw]
        exact ⟨hturn.1, Or.inr rfl, fun h => by rcases h with h | h; exact absurd h h0; exact absurd h h1⟩
end Go.Proofs.Ytekjpoenbcnhdaa

namespace Go.Proofs.Ytekjpoenbcnhdaa
open Go.RowKit
open DM
attribute [local go_sem ↓] Go.wp_at_zero Go.wp_at_succ

end Go.Proofs.Ytekjpoenbcnhdaa

namespace Go.Proofs.Ytekjpoenbcnhdaa
open Go.RowKit
open DM
attribute [local go_sem ↓] Go.wp_at_zero Go.wp_at_succ

theorem hide0 {p : Prop} (h : p) : Hid p := h
theorem CodeRow.blk {w : World} {a : Option Addr} {len : Nat} (hr : CodeRow w a len) : ∀ b off, a = some ⟨b, off, none⟩ → 0 < len → b < w.heap.size := fun b off e h0 => by
  obtain ⟨b', off', e', hb', _⟩ := hr h0
  rw [e] at e'
  cases e'
  exact hb'
def LaI (ss : List ByteArray) (ps : List Wr) : Prop := ss.length ≤ 1048576 ∧ ps.length ≤ 1048576 ∧ (∀ s ∈ ss, s.size ≤ 1048576) ∧ (∀ p ∈ ps, p.2.size ≤ 1048576)
theorem LaI.ok {ss : List ByteArray} {ps : List Wr} (h : okB ss ps = true) : LaI ss ps := by
  have hO := okB_iff.1 h
  exact ⟨by have := hO.2.1; omega, by have := hO.2.2.1; omega, fun s hs => by have := hO.2.2.2.1 s hs; omega, fun p hp => by have := (hO.2.2.2.2 p hp).2.2; omega⟩
end Go.Proofs.Ytekjpoenbcnhdaa

namespace Go.Proofs.Ytekjpoenbcnhdaa
open Go.RowKit
open DM
attribute [local go_sem ↓] Go.wp_at_zero Go.wp_at_succ

theorem sw_two {k : Nat} {ss : List ByteArray} (h : LogI k ss) {t u : ByteArray} (ht0 : 0 < t.size) (ht : t.size ≤ 100) (hu0 : 0 < u.size) (hu : u.size ≤ 100) :
    swB ss [] [t, u] = true ∧ logB (swS ss [] [t, u]) [] = true ∧ act (swS ss [] [t, u]) [] = 1 - act ss [] ∧ ∃ E, E ≤ 202 ∧ raO (swS ss [] [t, u]) [] (1 - act ss []) = some ([t, u], E) := by
  have hA : isA (1 - act ss []) = true := oth_A ss []
  have hz := zr_read h.1 hA
  have hst := recL_small (t := t) (by omega)
  have hsu := recL_small (t := u) (by omega)
  have hr1 := rec_room hz.2.2 hA hz.1 (t := t) ht0 (by simp) (by omega)
  have hp1 := put_read hz.2.2 hr1 (by omega)
  rw [hz.1] at hp1
  have hr2 := rec_room hp1.2.2 hA hp1.1 (t := u) hu0 (by simp [oL]) (by show (recL u).length + (0 + (recL t).length) ≤ 3008; omega)
  have e : fillO (1 - act ss []) (zrS ss (1 - act ss [])) [t, u] = (putS (putS (zrS ss (1 - act ss [])) [] (1 - act ss []) t) [] (1 - act ss []) u, true) := by rw [fillO, if_pos hr1, fillO, if_pos hr2, fillO]
  have hts : ∀ x ∈ [t, u], x.size ≤ 1048576 := fun x hx => by
    rcases List.mem_cons.1 hx with rfl | hx
    · omega
    · rw [List.mem_singleton.1 hx]; omega
  have hy := sw_yes (ts := [t, u]) h.1 (by rw [e])
  have hF := fillO_log (a := 1 - act ss []) [t, u] _ hts hz.2.2
  have hFa := fill_act (a := 1 - act ss []) [t, u] _ hts hz.2.2
  rw [zr_act h.1 hA] at hFa
  obtain ⟨E', hE', hEE⟩ := fill_read (a := 1 - act ss []) [t, u] _ hts hz.2.2 (by rw [e]) [] 0 hz.1
  have ht' := turn_read hF
  refine ⟨hy.1, ?_⟩
  rw [hy.2]
  refine ⟨ht'.1, by rw [ht'.2.2, hFa], E', ?_, ?_⟩
  · rw [hEE]; simp; omega
  · rw [ht'.2.1 _ hA, hE']; rfl

theorem own_keptG {w w' : World} {b e s n g : Nat} {v : Value} {xs : List Value} (h : w.ownsRow b e s v n xs) (hg : w.grownBy w' (some g)) (hlt : g < b) : w'.ownsRow b e s v n xs :=
  World.ownsRow.kept h hg (by
    cases e : v.ownBlock with
    | none => exact Or.inl rfl
    | some k => right; intro e2; have := (World.ownsRow.lt h k e).1; have := Option.some.inj e2; omega)
theorem SOwn.app {w : World} {base g cap : Nat} {ts : List ByteArray} {x : ByteArray} (h : w.ownsRow base 9 1 (.slice (some ⟨g, 0, none⟩) (ts.length + 1) cap) (ts.length + 1) (scs ts ++ [.string x])) : SOwn w base (.slice (some ⟨g, 0, none⟩) (ts.length + 1) cap) (ts ++ [x]) := by
  unfold SOwn
  rw [scs_app, List.length_append]
  exact h
end Go.Proofs.Ytekjpoenbcnhdaa

namespace Go.Proofs.Ytekjpoenbcnhdaa
open Go.RowKit
open DM
attribute [local go_sem ↓] Go.wp_at_zero Go.wp_at_succ

def LbI (ss : List ByteArray) (ps : List Wr) : Prop := ss.length ≤ 100 ∧ ps.length ≤ 100 ∧ (∀ s ∈ ss, s.size ≤ 64) ∧ (∀ p ∈ ps, p.2.size ≤ 64)
theorem LbI.ok {ss : List ByteArray} {ps : List Wr} (h : okB ss ps = true) : LbI ss ps := by
  have hO := okB_iff.1 h
  exact ⟨by have := hO.2.1; omega, by have := hO.2.2.1; omega, fun s hs => by have := hO.2.2.2.1 s hs; omega, fun p hp => by have := (hO.2.2.2.2 p hp).2.2; omega⟩
theorem LbI.wide {ss : List ByteArray} {ps : List Wr} (h : LbI ss ps) : LaI ss ps := ⟨Nat.le_trans h.1 (by omega), Nat.le_trans h.2.1 (by omega), fun s hs => Nat.le_trans (h.2.2.1 s hs) (by omega), fun p hp => Nat.le_trans (h.2.2.2 p hp) (by omega)⟩
theorem rdR_b {ss : List ByteArray} {ps : List Wr} (h : LbI ss ps) (a : Int) : (rdR ss ps a).size ≤ 64 := by
  unfold rdR
  split
  · unfold rd
    cases h1 : back ps a ps.length with
    | some t =>
      obtain ⟨p, hm, rfl⟩ := back_mem _ h1
      exact h.2.2.2 p hm
    | none =>
      simp only [Option.getD_none]
      rw [List.getD_eq_getElem?_getD]
      cases h2 : ss[a.toNat]? with
      | some s => exact h.2.2.1 s (List.mem_of_getElem? h2)
      | none => exact Nat.zero_le 64
  · exact Nat.zero_le 64
theorem stx_b {ss : List ByteArray} {ps : List Wr} (h : LbI ss ps) (f : Int) : ∀ k, (stx ss ps f k).length ≤ k * 64
  | 0 => by simp [stx]
  | k + 1 => by
    have h1 := stx_b h f k
    have h2 := rdR_b h (f + k)
    have e : (rdR ss ps (f + k)).data.toList.length = (rdR ss ps (f + k)).size := by simp
    simp only [stx, List.length_append]
    omega
theorem arT_b {ss : List ByteArray} {ps : List Wr} (h : LbI ss ps) (a : Int) : (arT ss ps a).size ≤ 20000 := by
  unfold arT stT
  split
  · show (stx ss ps (af a + 1) 47).toArray.size ≤ 20000
    have := stx_b h (af a + 1) 47
    simp only [List.size_toArray]
    omega
  · exact Nat.zero_le 20000
end Go.Proofs.Ytekjpoenbcnhdaa

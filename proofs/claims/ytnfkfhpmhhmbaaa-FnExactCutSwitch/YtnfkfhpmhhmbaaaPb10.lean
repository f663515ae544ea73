/- Records: what spec.ReadShort and impl.recordAt tell of one. -/
import Derived.Test.YtnfkfhpmhhmbaaaPb09
import Derived.Test.YtnfkfhpmhhmbaaaPb03
import Derived.Lib.Builder
import Derived.Lib.AppendStr
import Derived.Test.YtnfkfhpmhhmbaaaPb05
namespace Go.Proofs.Ytnfkfhpmhhmbaaa
open Go.RowKit
attribute [local go_sem ↓] Go.wp_at_zero Go.wp_at_succ

def rec1 (s : ByteArray) (p : Nat) : Option (ByteArray × Nat) :=
  match WM.rv (s.data.toList.drop p) with
  | none => none
  | some (n, k) => if n = 0 ∨ s.size < p + k + n then none else some (s.extract (p + k) (p + k + n), p + k + n)

def Rs (s : ByteArray) (p : Nat) (t : ByteArray) (q : Int) (ok : Bool) : Prop :=
  (ok = false ∧ rec1 s p = none) ∨ (ok = true ∧ t = ⟨#[]⟩ ∧ rec1 s p = none) ∨ (∃ q' : Nat, q = (q' : Int) ∧ ok = true ∧ 0 < t.size ∧ q' ≤ s.size ∧ rec1 s p = some (t, q'))

def Ri (s : ByteArray) (p : Nat) (t : ByteArray) (q : Int) (ok : Bool) : Prop :=
  (ok = false ∧ rec1 s p = none) ∨ (∃ q' : Nat, q = (q' : Int) ∧ ok = true ∧ 0 < t.size ∧ q' ≤ s.size ∧ rec1 s p = some (t, q'))

theorem rec1_none {s : ByteArray} {p : Nat} (h : WM.rv (s.data.toList.drop p) = none) : rec1 s p = none := by simp [rec1, h]
theorem rec1_bad {s : ByteArray} {p n k : Nat} (h : WM.rv (s.data.toList.drop p) = some (n, k)) (hb : n = 0 ∨ s.size < p + k + n) : rec1 s p = none := by simp only [rec1, h]; exact if_pos hb
theorem rec1_ok {s : ByteArray} {p n k : Nat} (h : WM.rv (s.data.toList.drop p) = some (n, k)) (hb : ¬ (n = 0 ∨ s.size < p + k + n)) : rec1 s p = some (s.extract (p + k) (p + k + n), p + k + n) := by simp only [rec1, h]; exact if_neg hb
theorem rec1_le {s : ByteArray} {p : Nat} {t : ByteArray} {q : Nat} (h : rec1 s p = some (t, q)) : q ≤ s.size ∧ p < q ∧ 0 < t.size := by
  unfold rec1 at h
  split at h
  · cases h
  · rename_i n k hr
    split at h
    · cases h
    · rename_i hc
      have hc1 : n ≠ 0 ∧ ¬ s.size < p + k + n := ⟨fun e => hc (Or.inl e), fun e => hc (Or.inr e)⟩
      cases h
      refine ⟨by omega, by omega, ?_⟩
      rw [size_piece s _ _ (by omega) (by omega)]
      omega

theorem rv_bd {s : ByteArray} {p n k : Nat} (hp : p ≤ s.size) (h : WM.rv (s.data.toList.drop p) = some (n, k)) : n ≤ 1000000000 ∧ p + k ≤ s.size := by
  have hbd := WM.rvGo_bd 5 0 0 _ _ h
  rw [List.length_drop, Array.length_toList] at hbd
  have h1 : k ≤ 0 + (s.size - p) := hbd.2.2
  exact ⟨hbd.1, by omega⟩

theorem srs64 (s : ByteArray) (p : Nat) (h : p ≤ s.size) (hs : s.size ≤ 20000) (w : World) :
    Calls Try.prog 81 #[.string s, .int .i64 p] w fun e w' => ∃ t q ok, e = .returned (.tuple #[.string t, .int .i64 q, .bool ok]) ∧ Rs s p t q ok ∧ Below w.heap.size w w' := by
  cases hR : WM.rv (s.data.toList.drop p) with
  | none =>
    refine (ssh_none s p h (by omega) hR w).mono ?_
    rintro e w' ⟨rfl, hb⟩
    exact ⟨_, _, _, rfl, Or.inl ⟨rfl, rec1_none hR⟩, hb⟩
  | some r =>
    obtain ⟨n, k⟩ := r
    have hbd := rv_bd h hR
    by_cases hb : s.size < p + k + n
    · refine (ssh_big s p h (by omega) n k hR hbd.1 hbd.2 (Or.inr hb) w).mono ?_
      rintro e w' ⟨rfl, hb2⟩
      exact ⟨_, _, _, rfl, Or.inl ⟨rfl, rec1_bad hR (Or.inr hb)⟩, hb2⟩
    · refine (ssh_ok s p h (by omega) n k hR (by omega) (by omega) w).mono ?_
      rintro e w' ⟨rfl, hb2⟩
      have hz := size_piece s (p + k) (p + k + n) (by omega) (by omega)
      by_cases h0 : n = 0
      · exact ⟨_, _, _, rfl, Or.inr (Or.inl ⟨rfl, ba_nil (by omega), rec1_bad hR (Or.inl h0)⟩), hb2⟩
      · exact ⟨_, _, _, rfl, Or.inr (Or.inr ⟨p + k + n, rfl, rfl, by omega, by omega, rec1_ok hR (by omega)⟩), hb2⟩

set_option maxHeartbeats 1000000 in
theorem irc66 (s : ByteArray) (p : Nat) (h : p ≤ s.size) (hs : s.size ≤ 20000) (w : World) :
    Calls Try.prog 85 #[.string s, .int .i64 p] w fun e w' => ∃ t q ok, e = .returned (.tuple #[.string t, .int .i64 q, .bool ok]) ∧ Ri s p t q ok ∧ Below w.heap.size w w' := by
  have hm : s.size ≤ 1048576 := by omega
  cases hR : WM.rv (s.data.toList.drop p) with
  | none =>
    have HR : Hid (WM.rv (s.data.toList.drop p) = none) := hR
    clear hR
    go_enter Try.func85, Try.ntmps85
    go_wp2_with (go_at_call 96; refine (irv_none s p h hm HR.out _).mono ?_; rintro e w' ⟨rfl, rfl⟩)
    go_ret3
    exact ⟨_, _, _, rfl, Or.inl ⟨rfl, rec1_none HR.out⟩, belowRefl _⟩
  | some r =>
    obtain ⟨n, k⟩ := r
    have hbd := rv_bd h hR
    have hn := hbd.1
    have hk := hbd.2
    have HR : Hid (WM.rv (s.data.toList.drop p) = some (n, k)) := hR
    clear hR hbd
    by_cases h0 : n = 0
    · have e0 : ((n : Int) == 0) = true := by subst h0; rfl
      have HN : Hid (rec1 s p = none) := rec1_bad HR.out (Or.inl h0)
      clear h0
      go_enter Try.func85, Try.ntmps85
      go_wp2_with (go_at_call 96; refine (irv_some s p h hm n k HR.out _).mono ?_; rintro e w' ⟨rfl, rfl⟩)
      go_ret3
      exact ⟨_, _, _, rfl, Or.inl ⟨rfl, HN.out⟩, belowRefl _⟩
    · have e0 : ((n : Int) == 0) = false := by rw [beq_eq_false_iff_ne]; omega
      by_cases hb : s.size < p + k + n
      · have h2 : (s.size : Int) - ((p : Int) + (k : Int)) < (n : Int) := by omega
        have HN : Hid (rec1 s p = none) := rec1_bad HR.out (Or.inr hb)
        clear hb h0
        go_enter Try.func85, Try.ntmps85
        go_wp2_with (go_at_call 96; refine (irv_some s p h hm n k HR.out _).mono ?_; rintro e w' ⟨rfl, rfl⟩)
        go_ret3
        exact ⟨_, _, _, rfl, Or.inl ⟨rfl, HN.out⟩, belowRefl _⟩
      · have h2 : (n : Int) ≤ (s.size : Int) - ((p : Int) + (k : Int)) := by omega
        have h3 : (p : Int) + (k : Int) + (n : Int) ≤ (s.size : Int) := by omega
        have hz := size_piece s (p + k) (p + k + n) (by omega) (by omega)
        have HZ : Hid ((s.extract (p + k) (p + k + n)).size ≤ 281474976710656) := by show _ ≤ _; omega
        have HZ2 : Hid (0 < (s.extract (p + k) (p + k + n)).size) := by show _ < _; omega
        have HQ : Hid (p + k + n ≤ s.size) := by show _ ≤ _; omega
        have HN : Hid (rec1 s p = some (s.extract (p + k) (p + k + n), p + k + n)) := rec1_ok HR.out (by omega)
        clear hb h0 hz
        go_enter Try.func85, Try.ntmps85
        go_wp2_with (first | (go_at_call 96; refine (irv_some s p h hm n k HR.out _).mono ?_; rintro e w' ⟨rfl, rfl⟩) | (go_at_call 91; refine (clone54 _ HZ.out _).mono ?_; rintro e w2 ⟨rfl, hb2⟩))
        go_ret3
        exact ⟨_, _, _, rfl, Or.inr ⟨p + k + n, by simp, rfl, HZ2.out, HQ.out, HN.out⟩, hb2⟩

def recsGo (s : ByteArray) : Nat → List ByteArray → Nat → Option (List ByteArray × Nat)
  | 0, acc, p => some (acc, p)
  | c + 1, acc, p => match rec1 s p with
    | none => none
    | some (t, q) => recsGo s c (acc ++ [t]) q
theorem recs_none {s : ByteArray} {c : Nat} {acc : List ByteArray} {p : Nat} {R : Option (List ByteArray × Nat)} (h : recsGo s (c + 1) acc p = R) (hr : rec1 s p = none) : R = none := by
  rw [← h]; simp [recsGo, hr]
theorem recs_some {s : ByteArray} {c : Nat} {acc : List ByteArray} {p : Nat} {R : Option (List ByteArray × Nat)} {t : ByteArray} {q : Nat} (h : recsGo s (c + 1) acc p = R) (hr : rec1 s p = some (t, q)) : recsGo s c (acc ++ [t]) q = R := by
  rw [← h]; simp [recsGo, hr]
end Go.Proofs.Ytnfkfhpmhhmbaaa

namespace Go.Proofs.Ytnfkfhpmhhmbaaa
open Go.RowKit
open DM
attribute [local go_sem ↓] Go.wp_at_zero Go.wp_at_succ

theorem info92 : (Try.prog.info? 99).map (·.size) = some 2 := by kernel_rfl
theorem lies92 : liesAt Try.prog Try.prog.depth 99 (2 / Try.prog.cellsOf 99) 0 99 1 = true := by kernel_rfl

set_option maxHeartbeats 1000000 in
set_option maxRecDepth 100000 in
theorem check85_used (b : Nat) (w : World) (h0 : w.cell? ⟨b, 0, none⟩ = some (.pointer (some ⟨b, 0, none⟩))) :
    Calls Try.prog 98 #[.pointer (some ⟨b, 0, none⟩)] w fun e w' => e = .returned (.tuple #[]) ∧ w' = w := by
  obtain ⟨j, hj, _⟩ := Option.map_eq_some_iff.1 info92
  go_enter Try.func98, Try.ntmps98
  go_wp2
  rw [Lib.run_neq_ptr_same w _ Try.underlying97 hj]
  go_wp2
  go_end0
  exact ⟨rfl, rfl⟩

set_option maxHeartbeats 1000000 in
set_option maxRecDepth 100000 in
theorem check85_fresh (b : Nat) (w : World) (h0 : w.cell? ⟨b, 0, none⟩ = some (.pointer none)) (hsh : w.shape? b = some (99, 2)) (hfz : w.frozen? ⟨b, 0, none⟩ = false) :
    Calls Try.prog 98 #[.pointer (some ⟨b, 0, none⟩)] w fun e w' => e = .returned (.tuple #[]) ∧ w' = w.setCell ⟨b, 0, none⟩ (.pointer (some ⟨b, 0, none⟩)) := by
  obtain ⟨j, hj, hjs⟩ := Option.map_eq_some_iff.1 info92
  go_enter Try.func98, Try.ntmps98
  go_wp2
  rw [Lib.run_to_unsafe w ⟨b, 0, none⟩ Try.underlying97 Try.underlying106 hj (by rw [hjs]; decide) hsh (Nat.zero_lt_succ 1)]
  simp only [Result.andThen]
  rw [Oper.upon_value]
  go_wp2
  rw [run_callFunc_extern Try.func99 (by kernel_rfl) (by kernel_rfl) (by kernel_rfl) (e := Extern.AbiNoEscape.same) (by kernel_rfl)]
  rw [Lib.run_noEscape]
  simp only [Result.andThen]
  rw [Oper.upon_value]
  go_wp2
  rw [Lib.run_from_unsafe w ⟨b, 0, none⟩ Try.underlying106 Try.underlying97 hj hsh lies92]
  simp only [Result.andThen]
  rw [Oper.upon_value]
  go_wp2
  go_end0
  exact ⟨rfl, rfl⟩

theorem check85 (B b : Nat) (bs : List Value) (w : World) (h : Lib.IsBuilder 99 5 B b bs w) :
    Calls Try.prog 98 #[.pointer (some ⟨b, 0, none⟩)] w fun e w' => e = .returned (.tuple #[]) ∧ (Lib.BuilderAt 99 5 B b (.pointer (some ⟨b, 0, none⟩)) bs w' ∧ Below B w w') := by
  rcases h with h | h
  · refine (check85_fresh b w h.cell0 h.shape h.frozen0).mono ?_
    rintro e w' ⟨rfl, rfl⟩
    exact ⟨rfl, h.used _, (Below.refl B w).setCell (p := ⟨b, 0, none⟩) h.1 _⟩
  · refine (check85_used b w h.cell0).mono ?_
    rintro e w' ⟨rfl, rfl⟩
    exact ⟨rfl, h, Below.refl B _⟩

set_option maxHeartbeats 2000000 in
set_option maxRecDepth 100000 in
theorem write69 (B b : Nat) (l : List UInt8) (s : ByteArray) (w : World) (h : Lib.IsBuilder 99 5 B b (bv l) w) (hlen : l.length + s.size ≤ 1000000000) (hBw : B ≤ w.heap.size) :
    Calls Try.prog 94 #[.pointer (some ⟨b, 0, none⟩), .string s] w fun e w' => e = .returned (.tuple #[.int .i64 s.size, .nilIface]) ∧ (Lib.BuilderAt 99 5 B b (.pointer (some ⟨b, 0, none⟩)) (bv (l ++ s.data.toList)) w' ∧ Below B w w') := by
  obtain ⟨i0, hi, hz0, hz1, hz2⟩ := info_parts Try.info5
  have hl := bv_len l
  have HL : Hid ((bv l).length = l.length) := hl
  have HI : Hid (Lib.IsBuilder 99 5 B b (bv l) w) := h
  clear hl h
  go_enter Try.func94, Try.ntmps94
  go_wp2_with (go_at_call 98; refine (check85 B b (bv l) _ HI.out).mono ?_)
  rintro e w1 ⟨rfl, h1, hb1⟩
  obtain ⟨hB, v, hbk, hown, hne⟩ := h1
  have c0 : w1.cell? ⟨b, 0, none⟩ = some (.pointer (some ⟨b, 0, none⟩)) := by rw [Lib.cell_of_heap hbk]; rfl
  have c1 : w1.cell? ⟨b, 1, none⟩ = some v := by rw [Lib.cell_of_heap hbk]; rfl
  have hBw1 : B ≤ w1.heap.size := Nat.le_trans hBw hb1.size
  go_wp2_with (at_builtin; refine Lib.wpList_append_own_string _ rfl _ _ 70 9 rfl B 5 i0 Try.underlying70 Try.underlying9 hi hz0 hz1 hz2 _ _ _ rfl hown s rfl ?c3 ?c4 ?c5 ?_)
  case c3 => rw [HL.out]; unfold maxLen; omega
  case c4 => rw [HL.out]; omega
  case c5 => exact hBw1
  intro v' w2 hown' hgrow _
  have hlt : b < w1.heap.size := by
    rcases Nat.lt_or_ge b w1.heap.size with h' | h'
    · exact h'
    · simp [Array.getElem?_eq_none h'] at hbk
  have hb2 : w2.heap[b]? = some (.cells #[.pointer (some ⟨b, 0, none⟩), v] 99 (0, 0)) := by
    rw [hgrow.block b hlt (fun e => hne e.symm)]
    exact hbk
  have d0 : w2.cell? ⟨b, 0, none⟩ = some (.pointer (some ⟨b, 0, none⟩)) := by rw [Lib.cell_of_heap hb2]; rfl
  have d1 : w2.cell? ⟨b, 1, none⟩ = some v := by rw [Lib.cell_of_heap hb2]; rfl
  have f1 : w2.frozen? ⟨b, 1, none⟩ = false := Lib.frozen_of_heap hb2 1
  obtain ⟨ao, n', cap, rfl⟩ : ∃ ao n' cap, v' = .slice ao n' cap := by
    rcases hown'.2 with ⟨hv, _⟩ | ⟨g, cap, cur, hv, _⟩
    · exact ⟨_, _, _, hv⟩
    · exact ⟨_, _, _, hv⟩
  have e1 : bv (l ++ s.data.toList) = bv l ++ Lib.strCells s := by
    unfold bv Lib.strCells
    rw [List.map_append]
  have E1 : Hid (bv (l ++ s.data.toList) = bv l ++ Lib.strCells s) := e1
  clear e1
  go_wp2
  go_ret2
  refine ⟨rfl, ?_, ?_⟩
  · rw [E1.out]
    exact Lib.BuilderAt.put (T := 99) (e := 5) hB hb2 (bs' := bv l ++ Lib.strCells s) (by simpa [Lib.strCells_length] using hown') (by decide)
  · exact (hb1.grown hgrow hBw1 (fun k hk => (hown.lt k hk).1)).setCell (p := ⟨b, 1, none⟩) hB _
end Go.Proofs.Ytnfkfhpmhhmbaaa

namespace Go.Proofs.Ytnfkfhpmhhmbaaa
open Go.RowKit
open DM
attribute [local go_sem ↓] Go.wp_at_zero Go.wp_at_succ

theorem back_mem {ps : List Wr} {a : Int} {t : ByteArray} : ∀ k, back ps a k = some t → ∃ p ∈ ps, p.2 = t
  | 0, h => by simp [back] at h
  | k + 1, h => by
    simp only [back] at h
    split at h
    · rename_i p hp
      split at h
      · exact ⟨p, List.mem_of_getElem? hp, by simpa using h⟩
      · exact back_mem k h
    · exact back_mem k h
theorem rdR_size {ss : List ByteArray} {ps : List Wr} (hs : ∀ s ∈ ss, s.size ≤ 1048576) (hp : ∀ p ∈ ps, p.2.size ≤ 1048576) (a : Int) : (rdR ss ps a).size ≤ 1048576 := by
  unfold rdR
  split
  · unfold rd
    cases h : back ps a ps.length with
    | some t =>
      obtain ⟨p, hm, rfl⟩ := back_mem _ h
      exact hp p hm
    | none =>
      simp only [Option.getD_none]
      rw [List.getD_eq_getElem?_getD]
      cases h2 : ss[a.toNat]? with
      | some s => exact hs s (List.mem_of_getElem? h2)
      | none => exact Nat.zero_le 1048576
  · exact Nat.zero_le 1048576

def stx (ss : List ByteArray) (ps : List Wr) (f : Int) : Nat → List UInt8
  | 0 => []
  | k + 1 => stx ss ps f k ++ (rdR ss ps (f + k)).data.toList
theorem stx_len {ss : List ByteArray} {ps : List Wr} (hs : ∀ s ∈ ss, s.size ≤ 1048576) (hp : ∀ p ∈ ps, p.2.size ≤ 1048576) (f : Int) : ∀ k, (stx ss ps f k).length ≤ k * 1048576
  | 0 => by simp [stx]
  | k + 1 => by
    have h1 := stx_len hs hp f k
    have h2 := rdR_size hs hp (f + k)
    have h3 : (rdR ss ps (f + k)).data.toList.length = (rdR ss ps (f + k)).size := by simp
    simp only [stx, List.length_append]
    omega
def stOk (ss : List ByteArray) (f n : Int) : Prop := 0 ≤ n ∧ n ≤ 100 ∧ ∀ i, i < n.toNat → hasB (f + (i : Nat)) ss.length = true
instance (ss : List ByteArray) (f n : Int) : Decidable (stOk ss f n) := by unfold stOk; infer_instance
def stB (ss : List ByteArray) (f n : Int) : Bool := decide (stOk ss f n)
def stT (ss : List ByteArray) (ps : List Wr) (f n : Int) : ByteArray := if stB ss f n = true then ⟨(stx ss ps f n.toNat).toArray⟩ else ⟨#[]⟩
theorem st_no {ss : List ByteArray} {ps : List Wr} {f n : Int} (h : ¬ stOk ss f n) : stB ss f n = false ∧ stT ss ps f n = ⟨#[]⟩ := by
  have : stB ss f n = false := by simp [stB, h]
  exact ⟨this, if_neg (by simp [this])⟩
theorem st_yes {ss : List ByteArray} {ps : List Wr} {f n : Int} (h : stOk ss f n) : stB ss f n = true ∧ stT ss ps f n = ⟨(stx ss ps f n.toNat).toArray⟩ := by
  have : stB ss f n = true := by simp [stB, h]
  exact ⟨this, if_pos this⟩
theorem ret_sb2 {s t : ByteArray} {a b : Bool} (h : s = t) (h2 : a = b) : Ending.returned (.tuple #[.string s, .bool a]) = .returned (.tuple #[.string t, .bool b]) := by rw [h, h2]
theorem cat_stx (ss : List ByteArray) (ps : List Wr) (f : Int) (k : Nat) : (⟨(stx ss ps f k).toArray⟩ : ByteArray) ++ rdR ss ps (f + k) = ⟨(stx ss ps f (k + 1)).toArray⟩ := by
  apply ByteArray.ext
  simp [stx]

set_option maxRecDepth 100000 in
set_option maxHeartbeats 2000000 in
theorem sst31 (ss : List ByteArray) (ps : List Wr) (f n : Int) (a1 a2 : Option Addr) (c1 c2 : Nat) (hn : ss.length ≤ 1048576) (hm : ps.length ≤ 1048576) (hs : ∀ s ∈ ss, s.size ≤ 1048576) (hp : ∀ p ∈ ps, p.2.size ≤ 1048576) (w : World) (hsr : SRow w a1 ss) (hpr : PRow w a2 ps) :
    Calls Try.prog 80 #[.agg #[.slice a1 ss.length c1, .slice a2 ps.length c2], .int .i64 f, .int .i64 n] w fun e w' => e = .returned (.tuple #[.string (stT ss ps f n), .bool (stB ss f n)]) ∧ Below w.heap.size w w' := by
  have HS : Hid (SRow w a1 ss) := hsr
  have HP : Hid (PRow w a2 ps) := hpr
  have HLS : Hid (∀ s ∈ ss, s.size ≤ 1048576) := hs
  have HLP : Hid (∀ p ∈ ps, p.2.size ≤ 1048576) := hp
  clear hsr hpr hs hp
  have b0 : Hid (Below w.heap.size w (w.alloc (.cells #[.slice a1 ss.length c1, .slice a2 ps.length c2] 30))) := (belowRefl w).alloc (Nat.le_refl _) _
  by_cases hn0 : 0 ≤ n ∧ n ≤ 100
  · have HI : Hid (decide ((0 : Int) ≤ n ∧ n ≤ 100) = true) := by show _ = _; simp; exact hn0
    obtain ⟨m, rfl⟩ := Int.eq_ofNat_of_zero_le hn0.1
    have hm100 : m ≤ 100 := by omega
    go_enter Try.func80, Try.ntmps80
    go_wp2_with (go_at_call 59; refine (in57 _ _ _ true HI.out _).mono ?_; rintro e w2 ⟨rfl, rfl⟩)
    go_loopw [8, 9] (fun v t wr => ∃ (k : Nat), k ≤ m ∧ t = .int .i64 k ∧ v = .string ⟨(stx ss ps f k).toArray⟩ ∧ Hid (∀ i, i < k → hasB (f + (i : Nat)) ss.length = true) ∧ Hid (Below (w.heap.size + 1) (w.alloc (.cells #[.slice a1 ss.length c1, .slice a2 ps.length c2] 30)) wr)) (fun _ t _ => m - (intOf t).toNat)
    case atStart => exact ⟨0, Nat.zero_le _, rfl, rfl, (fun i hi => by omega), Below.refl _ _⟩
    case round =>
      obtain ⟨k, hk, rfl, rfl, HA, HX⟩ := hrel
      have HB : Hid (Below w.heap.size w wr) := b0.out.trans (HX.out.mono (by omega))
      obtain ⟨g0, g1, z0⟩ := boxed HX.out
      by_cases hlt : k < m
      · have hlt' : (k : Int) < (m : Int) := by omega
        by_cases hf : 0 ≤ f ∧ f ≤ (ss.length : Int)
        · have e1 : decide (f < 0) = false := by simp; omega
          have e2 : decide ((ss.length : Int) < f) = false := by simp; omega
          cases hh : hasB (f + (k : Nat)) ss.length with
          | true =>
            have HA2 : Hid (∀ i, i < k + 1 → hasB (f + (i : Nat)) ss.length = true) := fun i hi => by
              by_cases e : i = k
              · subst e; exact hh
              · exact HA.out i (by omega)
            have HC : Hid ((⟨(stx ss ps f k).toArray⟩ : ByteArray) ++ rdR ss ps (f + k) = ⟨(stx ss ps f (k + 1)).toArray⟩) := cat_stx ss ps f k
            have hz1 : (⟨(stx ss ps f k).toArray⟩ : ByteArray).size ≤ 200000000 := by
              have := stx_len HLS.out HLP.out f k
              have e : (⟨(stx ss ps f k).toArray⟩ : ByteArray).size = (stx ss ps f k).length := by show (stx ss ps f k).toArray.size = _; simp
              omega
            have hz2 := rdR_size HLS.out HLP.out (f + k)
            have HH : Hid (hasB (f + (k : Nat)) ss.length = true) := hh
            clear hh
            go_wp2_with fail
            refine (srd20_any ss ps _ a1 a2 c1 c2 (by omega) (by omega) _ (HS.out.below HB.out) (HP.out.below HB.out)).mono ?_
            rintro e w2 ⟨rfl, hb2⟩
            rw [HH.out]
            have HX2 : Hid (Below (w.heap.size + 1) (w.alloc (.cells #[.slice a1 ss.length c1, .slice a2 ps.length c2] 30)) w2) := HX.out.trans (hb2.mono (by omega))
            clear hb2 g0 g1 z0
            generalize rdR ss ps (f + k) = tx at *
            go_wp2
            go_roundw
            case rel => exact ⟨k + 1, by omega, by go_num, by rw [← HC.out], HA2, HX2⟩
            case measure => simp [intOf]; omega
          | false =>
            have HN : Hid (stB ss f m = false ∧ stT ss ps f m = ⟨#[]⟩) := st_no (fun h => by have := h.2.2 k (by simpa using hlt); rw [hh] at this; cases this)
            have HH : Hid (hasB (f + (k : Nat)) ss.length = false) := hh
            clear hh
            go_wp2_with fail
            refine (srd20_any ss ps _ a1 a2 c1 c2 (by omega) (by omega) _ (HS.out.below HB.out) (HP.out.below HB.out)).mono ?_
            rintro e w2 ⟨rfl, hb2⟩
            rw [HH.out]
            have HB2 : Hid (Below w.heap.size w w2) := HB.out.trans (hb2.mono HB.out.size)
            clear hb2 g0 g1 z0
            go_wp2
            go_ret2
            exact ⟨ret_sb2 HN.out.2.symm HN.out.1.symm, HB2.out⟩
        · have HN : Hid (stB ss f m = false ∧ stT ss ps f m = ⟨#[]⟩) := st_no (fun h => by
            have := hasB_iff.1 (h.2.2 0 (by simp; omega))
            simp at this
            omega)
          by_cases hf0 : f < 0
          · have e1 : decide (f < 0) = true := by simpa using hf0
            go_wp2
            go_ret2
            exact ⟨ret_sb2 HN.out.2.symm HN.out.1.symm, HB.out⟩
          · have e1 : decide (f < 0) = false := by simpa using hf0
            have e2 : decide ((ss.length : Int) < f) = true := by simp; omega
            go_wp2
            go_ret2
            exact ⟨ret_sb2 HN.out.2.symm HN.out.1.symm, HB.out⟩
      · have hlt' : ¬ (k : Int) < (m : Int) := by omega
        obtain rfl : k = m := by omega
        have HY : Hid (stB ss f k = true ∧ stT ss ps f k = ⟨(stx ss ps f k).toArray⟩) := st_yes ⟨hn0.1, hn0.2, fun i hi => HA.out i (by simpa using hi)⟩
        go_wp2
        go_ret2
        exact ⟨ret_sb2 HY.out.2.symm HY.out.1.symm, HB.out⟩
  · have HI : Hid (decide ((0 : Int) ≤ n ∧ n ≤ 100) = false) := by show _ = _; simp only [decide_eq_false_iff_not]; exact hn0
    have HN : Hid (stB ss f n = false ∧ stT ss ps f n = ⟨#[]⟩) := st_no (fun h => hn0 ⟨h.1, h.2.1⟩)
    clear hn0
    go_enter Try.func80, Try.ntmps80
    go_wp2_with (go_at_call 59; refine (in57 _ _ _ false HI.out _).mono ?_; rintro e w2 ⟨rfl, rfl⟩)
    go_ret2
    exact ⟨ret_sb2 HN.out.2.symm HN.out.1.symm, (belowRefl _).alloc (Nat.le_refl _) _⟩
end Go.Proofs.Ytnfkfhpmhhmbaaa

namespace Go.Proofs.Ytnfkfhpmhhmbaaa
open Go.RowKit
open DM
attribute [local go_sem ↓] Go.wp_at_zero Go.wp_at_succ

theorem fresh92 (w : World) : Lib.IsBuilder 99 5 w.heap.size w.heap.size (bv []) (w.alloc (.cells #[.pointer none, .slice none 0 0] 99)) :=
  Or.inl ⟨Nat.le_refl _, .slice none 0 0, heap_alloc_new w _, World.ownsRow_nil _ _ _ _, by simp [Value.ownBlock]⟩

theorem builder_below {w w' : World} {b : Nat} {bs : List Value} (h : Lib.IsBuilder 99 5 b b bs w) (hb : Below w.heap.size w w') : Lib.IsBuilder 99 5 b b bs w' := by
  have key : ∀ p, Lib.BuilderAt 99 5 b b p bs w → Lib.BuilderAt 99 5 b b p bs w' := fun p h => by
    have hlt := h.lt
    obtain ⟨hB, v, hbk, hown, hne⟩ := h
    exact ⟨hB, v, (hb.block b hlt).trans hbk, ownsBelow hown hb, hne⟩
  rcases h with h | h
  · exact Or.inl (key _ h)
  · exact Or.inr (key _ h)

set_option maxRecDepth 100000 in
set_option maxHeartbeats 2000000 in
theorem ist32 (ss : List ByteArray) (ps : List Wr) (f n : Int) (a1 a2 : Option Addr) (c1 c2 : Nat) (hf1 : -9223372036854775808 ≤ f) (hf2 : f ≤ 9223372036854775807) (hn : ss.length ≤ 1048576) (hm : ps.length ≤ 1048576) (hs : ∀ s ∈ ss, s.size ≤ 1048576) (hp : ∀ p ∈ ps, p.2.size ≤ 1048576) (w : World) (hsr : SRow w a1 ss) (hpr : PRow w a2 ps) :
    Calls Try.prog 84 #[.agg #[.slice a1 ss.length c1, .slice a2 ps.length c2], .int .i64 f, .int .i64 n] w fun e w' => e = .returned (.tuple #[.string (stT ss ps f n), .bool (stB ss f n)]) ∧ Below w.heap.size w w' := by
  have HS : Hid (SRow w a1 ss) := hsr
  have HP : Hid (PRow w a2 ps) := hpr
  have HLS : Hid (∀ s ∈ ss, s.size ≤ 1048576) := hs
  have HLP : Hid (∀ p ∈ ps, p.2.size ≤ 1048576) := hp
  have HLS2 : Hid (∀ s ∈ ss, s.size ≤ 1000000000) := fun s h => Nat.le_trans (hs s h) (by omega)
  have HLP2 : Hid (∀ p ∈ ps, p.2.size ≤ 1000000000) := fun p h => Nat.le_trans (hp p h) (by omega)
  clear hsr hpr hs hp
  by_cases hn0 : 0 ≤ n ∧ n ≤ 100
  · obtain ⟨m, rfl⟩ := Int.eq_ofNat_of_zero_le hn0.1
    have hm100 : m ≤ 100 := by omega
    have e1 : decide ((m : Int) < 0) = false := by simp
    have e2 : decide ((100 : Int) < (m : Int)) = false := by simp; omega
    have b0 : Hid (Below w.heap.size w ((w.alloc (.cells #[.slice a1 ss.length c1, .slice a2 ps.length c2] 30)).alloc (.cells #[.pointer none, .slice none 0 0] 99))) := ((belowRefl w).alloc (Nat.le_refl _) _).alloc (by simp) _
    have HI0 : Hid (Lib.IsBuilder 99 5 (w.heap.size + 1) (w.heap.size + 1) (bv (stx ss ps f 0)) ((w.alloc (.cells #[.slice a1 ss.length c1, .slice a2 ps.length c2] 30)).alloc (.cells #[.pointer none, .slice none 0 0] 99))) := by
      have h := fresh92 (w.alloc (.cells #[.slice a1 ss.length c1, .slice a2 ps.length c2] 30))
      rw [World.size_alloc] at h
      exact h
    go_enter Try.func84, Try.ntmps84
    go_wp2
    go_loopw [19] (fun t wr => ∃ (k : Nat), k ≤ m ∧ t = .int .i64 k ∧ Hid (∀ i, i < k → hasB (f + (i : Nat)) ss.length = true) ∧ Hid (Below (w.heap.size + 1) (w.alloc (.cells #[.slice a1 ss.length c1, .slice a2 ps.length c2] 30)) wr) ∧ Hid (Lib.IsBuilder 99 5 (w.heap.size + 1) (w.heap.size + 1) (bv (stx ss ps f k)) wr)) (fun t _ => m - (intOf t).toNat)
    case atStart => exact ⟨0, Nat.zero_le _, rfl, (fun i hi => by omega), (Below.refl _ _).alloc (by simp) _, HI0⟩
    case round =>
      clear HI0
      obtain ⟨k, hk, rfl, HA, HX, HI⟩ := hrel
      have HB : Hid (Below w.heap.size w wr) := ((belowRefl w).alloc (Nat.le_refl _) _).trans (HX.out.mono (by omega))
      obtain ⟨g0, g1, z0⟩ := boxed HX.out
      by_cases hlt : k < m
      · have hlt' : (k : Int) < (m : Int) := by omega
        have hfk : IntKind.i64.wrap (f + (k : Int)) = f + (k : Int) := by
          rw [IntKind.wrap_i64]
          by_cases hk0 : k = 0
          · subst hk0; simp; omega
          · have := hasB_iff.1 (HA.out (k - 1) (by omega))
            omega
        cases hh : hasB (f + (k : Nat)) ss.length with
        | true =>
          have HA2 : Hid (∀ i, i < k + 1 → hasB (f + (i : Nat)) ss.length = true) := fun i hi => by
            by_cases e : i = k
            · subst e; exact hh
            · exact HA.out i (by omega)
          have HLen : Hid ((stx ss ps f k).length + (rdR ss ps (f + k)).size ≤ 1000000000) := by
            have h1 := stx_len HLS.out HLP.out f k
            have h2 := rdR_size HLS.out HLP.out (f + k)
            show _ ≤ _
            omega
          have HSX : Hid (stx ss ps f (k + 1) = stx ss ps f k ++ (rdR ss ps (f + k)).data.toList) := rfl
          have HH : Hid (hasB (f + (k : Nat)) ss.length = true) := hh
          clear hh
          go_wp2_with fail
          refine (ird21_any ss ps _ a1 a2 c1 c2 (by omega) (by omega) HLS2.out HLP2.out _ (HS.out.below HB.out) (HP.out.below HB.out)).mono ?_
          rintro e w2 ⟨rfl, hb2⟩
          rw [HH.out]
          have HX2 : Hid (Below (w.heap.size + 1) (w.alloc (.cells #[.slice a1 ss.length c1, .slice a2 ps.length c2] 30)) w2) := HX.out.trans (hb2.mono (by omega))
          have HI2 : Hid (Lib.IsBuilder 99 5 (w.heap.size + 1) (w.heap.size + 1) (bv (stx ss ps f k)) w2) := builder_below HI.out hb2
          have hw2 : w.heap.size + 1 ≤ w2.heap.size := Nat.le_trans z0 hb2.size
          clear hb2 g0 g1 z0 hfk
          generalize rdR ss ps (f + k) = tx at *
          go_wp2_with fail
          refine (write69 (w.heap.size + 1) (w.heap.size + 1) (stx ss ps f k) tx _ HI2.out HLen.out hw2).mono ?_
          rintro e w3 ⟨rfl, h3, hb3⟩
          have HI3 : Hid (Lib.IsBuilder 99 5 (w.heap.size + 1) (w.heap.size + 1) (bv (stx ss ps f (k + 1))) w3) := Or.inr (by rw [HSX.out]; exact h3)
          have HX3 : Hid (Below (w.heap.size + 1) (w.alloc (.cells #[.slice a1 ss.length c1, .slice a2 ps.length c2] 30)) w3) := HX2.out.trans hb3
          clear h3 hb3
          go_wp2
          go_roundw
          case rel => exact ⟨k + 1, by omega, by go_num, HA2, HX3, HI3⟩
          case measure => simp [intOf]; omega
        | false =>
          have HN : Hid (stB ss f m = false ∧ stT ss ps f m = ⟨#[]⟩) := st_no (fun h => by have := h.2.2 k (by simpa using hlt); rw [hh] at this; cases this)
          have HH : Hid (hasB (f + (k : Nat)) ss.length = false) := hh
          clear hh
          go_wp2_with fail
          refine (ird21_any ss ps _ a1 a2 c1 c2 (by omega) (by omega) HLS2.out HLP2.out _ (HS.out.below HB.out) (HP.out.below HB.out)).mono ?_
          rintro e w2 ⟨rfl, hb2⟩
          rw [HH.out]
          have HB2 : Hid (Below w.heap.size w w2) := HB.out.trans (hb2.mono HB.out.size)
          clear hb2 g0 g1 z0 hfk
          go_wp2
          go_ret2
          exact ⟨ret_sb2 HN.out.2.symm HN.out.1.symm, HB2.out⟩
      · have hlt' : ¬ (k : Int) < (m : Int) := by omega
        obtain rfl : k = m := by omega
        have HY : Hid (stB ss f k = true ∧ stT ss ps f k = ⟨(stx ss ps f k).toArray⟩) := st_yes ⟨hn0.1, hn0.2, fun i hi => HA.out i (by simpa using hi)⟩
        go_wp2_with fail
        refine (Try.Builder_String_any (w.heap.size + 1) (w.heap.size + 1) (stx ss ps f k) _ HI.out z0).mono ?_
        rintro e w2 ⟨rfl, hb2⟩
        have HB2 : Hid (Below w.heap.size w w2) := HB.out.trans (hb2.mono (by omega))
        clear hb2
        go_wp2
        go_ret2
        exact ⟨ret_sb2 HY.out.2.symm HY.out.1.symm, HB2.out⟩
  · have HN : Hid (stB ss f n = false ∧ stT ss ps f n = ⟨#[]⟩) := st_no (fun h => hn0 ⟨h.1, h.2.1⟩)
    by_cases h0 : n < 0
    · have e1 : decide (n < 0) = true := by simpa using h0
      go_enter Try.func84, Try.ntmps84
      go_wp2
      go_ret2
      exact ⟨ret_sb2 HN.out.2.symm HN.out.1.symm, (belowRefl _).alloc (Nat.le_refl _) _⟩
    · have e1 : decide (n < 0) = false := by simpa using h0
      have e2 : decide ((100 : Int) < n) = true := by simp; omega
      go_enter Try.func84, Try.ntmps84
      go_wp2
      go_ret2
      exact ⟨ret_sb2 HN.out.2.symm HN.out.1.symm, (belowRefl _).alloc (Nat.le_refl _) _⟩
end Go.Proofs.Ytnfkfhpmhhmbaaa

/- Records: what spec.ReadShort and impl.recordAt tell of one. -/
import Derived.Test.YtekjpoenbcnhdaaPb04
import Derived.Test.YtekjpoenbcnhdaaPb02
import Derived.Lib.Builder
import Derived.Lib.AppendStr
namespace Go.Proofs.Ytekjpoenbcnhdaa
open Go.RowKit
attribute [local go_sem ↓] Go.wp_at_zero Go.wp_at_succ

def rec1 (s : ByteArray) (p : Nat) : Option (ByteArray × Nat) :=
  match WM.rv (s.data.toList.drop p) with
  | none => none
  | some (n, k) => if n = 0 ∨ s.size < p + k + n then none else some (s.extract (p + k) (p + k + n), p + k + n)

def Rs (s : ByteArray) (p : Nat) (t : ByteArray) (q : Int) (ok : Bool) : Prop :=
  (ok = false ∧ rec1 s p = none) ∨ (ok = true ∧ t = ⟨#[]⟩ ∧ rec1 s p = none) ∨ (∃ q' : Nat, q = (q' : Int) ∧ ok = true ∧ 0 < t.size ∧ q' ≤ s.size ∧ rec1 s p = some (t, q'))

def Ri (s : ByteArray) (p : Nat) (t : ByteArray) (q : Int) (ok : Bool) : Prop :=
  (ok = false ∧ rec1 s p = none) ∨ (∃ q' : Nat, q = (q' : Int) ∧ ok = true ∧ 0 < t.size ∧ q' ≤ s.size ∧ rec1 s p = some (t, q'))

theorem rec1_none {s : ByteArray} {p : Nat} (h : WM.rv (s.data.toList.drop p) = none) : rec1 s p = none := by simp [rec1, h]
theorem rec1_bad {s : ByteArray} {p n k : Nat} (h : WM.rv (s.data.toList.drop p) = some (n, k)) (hb : n = 0 ∨ s.size < p + k + n) : rec1 s p = none := by simp only [rec1, h]; exact if_pos hb
theorem rec1_ok {s : ByteArray} {p n k : Nat} (h : WM.rv (s.data.toList.drop p) = some (n, k)) (hb : ¬ (n = 0 ∨ s.size < p + k + n)) : rec1 s p = some (s.extract (p + k) (p + k + n), p + k + n) := by simp only [rec1, h]; exact if_neg hb
theorem rec1_le {s : ByteArray} {p : Nat} {t : ByteArray} {q : Nat} (h : rec1 s p = some (t, q)) : q ≤ s.size ∧ p < q ∧ 0 < t.size := by
  unfold rec1 at h
  split at h
  · cases h
  · rename_i n k hr
    split at h
    · cases h
    · rename_i hc
      have hc1 : n ≠ 0 ∧ ¬ s.size < p + k + n := ⟨fun e => hc (Or.inl e), fun e => hc (Or.inr e)⟩
      cases h
      refine ⟨by omega, by omega, ?_⟩
      rw [size_piece s _ _ (by omega) (by omega)]
      omega

theorem rv_bd {s : ByteArray} {p n k : Nat} (hp : p ≤ s.size) (h : WM.rv (s.data.toList.drop p) = some (n, k)) : n ≤ 1000000000 ∧ p + k ≤ s.size := by
  have hbd := WM.rvGo_bd 5 0 0 _ _ h
  rw [List.length_drop, Array.length_toList] at hbd
  have h1 : k ≤ 0 + (s.size - p) := hbd.2.2
  exact ⟨hbd.1, by omega⟩

theorem srs64 (s : ByteArray) (p : Nat) (h : p ≤ s.size) (hs : s.size ≤ 20000) (w : World) :
    Calls Try.prog 70 #[.string s, .int .i64 p] w fun e w' => ∃ t q ok, e = .returned (.tuple #[.string t, .int .i64 q, .bool ok]) ∧ Rs s p t q ok ∧ Below w.heap.size w w' := by
  cases hR : WM.rv (s.data.toList.drop p) with
  | none =>
    refine (ssh_none s p h (by omega) hR w).mono ?_
    rintro e w' ⟨rfl, hb⟩
    exact ⟨_, _, _, rfl, Or.inl ⟨rfl, rec1_none hR⟩, hb⟩
  | some r =>
    obtain ⟨n, k⟩ := r
    have hbd := rv_bd h hR
    by_cases hb : s.size < p + k + n
    · refine (ssh_big s p h (by omega) n k hR hbd.1 hbd.2 (Or.inr hb) w).mono ?_
      rintro e w' ⟨rfl, hb2⟩
      exact ⟨_, _, _, rfl, Or.inl ⟨rfl, rec1_bad hR (Or.inr hb)⟩, hb2⟩
    · refine (ssh_ok s p h (by omega) n k hR (by omega) (by omega) w).mono ?_
      rintro e w' ⟨rfl, hb2⟩
      have hz := size_piece s (p + k) (p + k + n) (by omega) (by omega)
      by_cases h0 : n = 0
      · exact ⟨_, _, _, rfl, Or.inr (Or.inl ⟨rfl, ba_nil (by omega), rec1_bad hR (Or.inl h0)⟩), hb2⟩
      · exact ⟨_, _, _, rfl, Or.inr (Or.inr ⟨p + k + n, rfl, rfl, by omega, by omega, rec1_ok hR (by omega)⟩), hb2⟩

set_option maxHeartbeats 1000000 in
theorem irc66 (s : ByteArray) (p : Nat) (h : p ≤ s.size) (hs : s.size ≤ 20000) (w : World) :
    Calls Try.prog 77 #[.string s, .int .i64 p] w fun e w' => ∃ t q ok, e = .returned (.tuple #[.string t, .int .i64 q, .bool ok]) ∧ Ri s p t q ok ∧ Below w.heap.size w w' := by
  have hm : s.size ≤ 1048576 := by omega
  cases hR : WM.rv (s.data.toList.drop p) with
  | none =>
    have HR : Hid (WM.rv (s.data.toList.drop p) = none) := hR
    clear hR
    go_enter Try.func77, Try.ntmps77
    go_wp2_with (go_at_call 89; refine (irv_none s p h hm HR.out _).mono ?_; rintro e w' ⟨rfl, rfl⟩)
    go_ret3
    exact ⟨_, _, _, rfl, Or.inl ⟨rfl, rec1_none HR.out⟩, belowRefl _⟩
  | some r =>
    obtain ⟨n, k⟩ := r
    have hbd := rv_bd h hR
    have hn := hbd.1
    have hk := hbd.2
    have HR : Hid (WM.rv (s.data.toList.drop p) = some (n, k)) := hR
    clear hR hbd
    by_cases h0 : n = 0
    · have e0 : ((n : Int) == 0) = true := by subst h0; rfl
      have HN : Hid (rec1 s p = none) := rec1_bad HR.out (Or.inl h0)
      clear h0
      go_enter Try.func77, Try.ntmps77
      go_wp2_with (go_at_call 89; refine (irv_some s p h hm n k HR.out _).mono ?_; rintro e w' ⟨rfl, rfl⟩)
      go_ret3
      exact ⟨_, _, _, rfl, Or.inl ⟨rfl, HN.out⟩, belowRefl _⟩
    · have e0 : ((n : Int) == 0) = false := by rw [beq_eq_false_iff_ne]; omega
      by_cases hb : s.size < p + k + n
      · have h2 : (s.size : Int) - ((p : Int) + (k : Int)) < (n : Int) := by omega
        have HN : Hid (rec1 s p = none) := rec1_bad HR.out (Or.inr hb)
        clear hb h0
        go_enter Try.func77, Try.ntmps77
        go_wp2_with (go_at_call 89; refine (irv_some s p h hm n k HR.out _).mono ?_; rintro e w' ⟨rfl, rfl⟩)
        go_ret3
        exact ⟨_, _, _, rfl, Or.inl ⟨rfl, HN.out⟩, belowRefl _⟩
      · have h2 : (n : Int) ≤ (s.size : Int) - ((p : Int) + (k : Int)) := by omega
        have h3 : (p : Int) + (k : Int) + (n : Int) ≤ (s.size : Int) := by omega
        have hz := size_piece s (p + k) (p + k + n) (by omega) (by omega)
        have HZ : Hid ((s.extract (p + k) (p + k + n)).size ≤ 281474976710656) := by show _ ≤ _; omega
        have HZ2 : Hid (0 < (s.extract (p + k) (p + k + n)).size) := by show _ < _; omega
        have HQ : Hid (p + k + n ≤ s.size) := by show _ ≤ _; omega
        have HN : Hid (rec1 s p = some (s.extract (p + k) (p + k + n), p + k + n)) := rec1_ok HR.out (by omega)
        clear hb h0 hz
        go_enter Try.func77, Try.ntmps77
        go_wp2_with (first | (go_at_call 89; refine (irv_some s p h hm n k HR.out _).mono ?_; rintro e w' ⟨rfl, rfl⟩) | (go_at_call 83; refine (clone54 _ HZ.out _).mono ?_; rintro e w2 ⟨rfl, hb2⟩))
        go_ret3
        exact ⟨_, _, _, rfl, Or.inr ⟨p + k + n, by simp, rfl, HZ2.out, HQ.out, HN.out⟩, hb2⟩

def recsGo (s : ByteArray) : Nat → List ByteArray → Nat → Option (List ByteArray × Nat)
  | 0, acc, p => some (acc, p)
  | c + 1, acc, p => match rec1 s p with
    | none => none
    | some (t, q) => recsGo s c (acc ++ [t]) q
theorem recs_none {s : ByteArray} {c : Nat} {acc : List ByteArray} {p : Nat} {R : Option (List ByteArray × Nat)} (h : recsGo s (c + 1) acc p = R) (hr : rec1 s p = none) : R = none := by
  rw [← h]; simp [recsGo, hr]
theorem recs_some {s : ByteArray} {c : Nat} {acc : List ByteArray} {p : Nat} {R : Option (List ByteArray × Nat)} {t : ByteArray} {q : Nat} (h : recsGo s (c + 1) acc p = R) (hr : rec1 s p = some (t, q)) : recsGo s c (acc ++ [t]) q = R := by
  rw [← h]; simp [recsGo, hr]
end Go.Proofs.Ytekjpoenbcnhdaa

namespace Go.Proofs.Ytekjpoenbcnhdaa
open Go.RowKit
open DM
attribute [local go_sem ↓] Go.wp_at_zero Go.wp_at_succ

theorem info92 : (Try.prog.info? 99).map (·.size) = some 2 := by kernel_rfl
theorem lies92 : liesAt Try.prog Try.prog.depth 99 (2 / Try.prog.cellsOf 99) 0 99 1 = true := by kernel_rfl

set_option maxHeartbeats 1000000 in
set_option maxRecDepth 100000 in
theorem check85_used (b : Nat) (w : World) (h0 : w.cell? ⟨b, 0, none⟩ = some (.pointer (some ⟨b, 0, none⟩))) :
    Calls Try.prog 92 #[.pointer (some ⟨b, 0, none⟩)] w fun e w' => e = .returned (.tuple #[]) ∧ w' = w := by
  obtain ⟨j, hj, _⟩ := Option.map_eq_some_iff.1 info92
  go_enter Try.func92, Try.ntmps92
  go_wp2
  rw [Lib.run_neq_ptr_same w _ Try.underlying97 hj]
  go_wp2
  go_end0
  exact ⟨rfl, rfl⟩

set_option maxHeartbeats 1000000 in
set_option maxRecDepth 100000 in
theorem check85_fresh (b : Nat) (w : World) (h0 : w.cell? ⟨b, 0, none⟩ = some (.pointer none)) (hsh : w.shape? b = some (99, 2)) (hfz : w.frozen? ⟨b, 0, none⟩ = false) :
    Calls Try.prog 92 #[.pointer (some ⟨b, 0, none⟩)] w fun e w' => e = .returned (.tuple #[]) ∧ w' = w.setCell ⟨b, 0, none⟩ (.pointer (some ⟨b, 0, none⟩)) := by
  obtain ⟨j, hj, hjs⟩ := Option.map_eq_some_iff.1 info92
  go_enter Try.func92, Try.ntmps92
  go_wp2
  rw [Lib.run_to_unsafe w ⟨b, 0, none⟩ Try.underlying97 Try.underlying106 hj (by rw [hjs]; decide) hsh (Nat.zero_lt_succ 1)]
  simp only [Result.andThen]
  rw [Oper.upon_value]
  go_wp2
  rw [run_callFunc_extern Try.func93 (by kernel_rfl) (by kernel_rfl) (by kernel_rfl) (e := Extern.AbiNoEscape.same) (by kernel_rfl)]
  rw [Lib.run_noEscape]
  simp only [Result.andThen]
  rw [Oper.upon_value]
  go_wp2
  rw [Lib.run_from_unsafe w ⟨b, 0, none⟩ Try.underlying106 Try.underlying97 hj hsh lies92]
  simp only [Result.andThen]
  rw [Oper.upon_value]
  go_wp2
  go_end0
  exact ⟨rfl, rfl⟩

theorem check85 (B b : Nat) (bs : List Value) (w : World) (h : Lib.IsBuilder 99 5 B b bs w) :
    Calls Try.prog 92 #[.pointer (some ⟨b, 0, none⟩)] w fun e w' => e = .returned (.tuple #[]) ∧ (Lib.BuilderAt 99 5 B b (.pointer (some ⟨b, 0, none⟩)) bs w' ∧ Below B w w') := by
  rcases h with h | h
  · refine (check85_fresh b w h.cell0 h.shape h.frozen0).mono ?_
    rintro e w' ⟨rfl, rfl⟩
    exact ⟨rfl, h.used _, (Below.refl B w).setCell (p := ⟨b, 0, none⟩) h.1 _⟩
  · refine (check85_used b w h.cell0).mono ?_
    rintro e w' ⟨rfl, rfl⟩
    exact ⟨rfl, h, Below.refl B _⟩

set_option maxHeartbeats 2000000 in
set_option maxRecDepth 100000 in
theorem write69 (B b : Nat) (l : List UInt8) (s : ByteArray) (w : World) (h : Lib.IsBuilder 99 5 B b (bv l) w) (hlen : l.length + s.size ≤ 1000000000) (hBw : B ≤ w.heap.size) :
    Calls Try.prog 87 #[.pointer (some ⟨b, 0, none⟩), .string s] w fun e w' => e = .returned (.tuple #[.int .i64 s.size, .nilIface]) ∧ (Lib.BuilderAt 99 5 B b (.pointer (some ⟨b, 0, none⟩)) (bv (l ++ s.data.toList)) w' ∧ Below B w w') := by
  obtain ⟨i0, hi, hz0, hz1, hz2⟩ := info_parts Try.info5
  have hl := bv_len l
  have HL : Hid ((bv l).length = l.length) := hl
  have HI : Hid (Lib.IsBuilder 99 5 B b (bv l) w) := h
  clear hl h
  go_enter Try.func87, Try.ntmps87
  go_wp2_with (go_at_call 92; refine (check85 B b (bv l) _ HI.out).mono ?_)
  rintro e w1 ⟨rfl, h1, hb1⟩
  obtain ⟨hB, v, hbk, hown, hne⟩ := h1
  have c0 : w1.cell? ⟨b, 0, none⟩ = some (.pointer (some ⟨b, 0, none⟩)) := by rw [Lib.cell_of_heap hbk]; rfl
  have c1 : w1.cell? ⟨b, 1, none⟩ = some v := by rw [Lib.cell_of_heap hbk]; rfl
  have hBw1 : B ≤ w1.heap.size := Nat.le_trans hBw hb1.size
  go_wp2_with (at_builtin; refine Lib.wpList_append_own_string _ rfl _ _ 22 9 rfl B 5 i0 Try.underlying22 Try.underlying9 hi hz0 hz1 hz2 _ _ _ rfl hown s rfl ?c3 ?c4 ?c5 ?_)
  case c3 => rw [HL.out]; unfold maxLen; omega
  case c4 => rw [HL.out]; omega
  case c5 => exact hBw1
  intro v' w2 hown' hgrow _
  have hlt : b < w1.heap.size := by
    rcases Nat.lt_or_ge b w1.heap.size with h' | h'
    · exact h'
    · simp [Array.getElem?_eq_none h'] at hbk
  have hb2 : w2.heap[b]? = some (.cells #[.pointer (some ⟨b, 0, none⟩), v] 99 (0, 0)) := by
    rw [hgrow.block b hlt (fun e => hne e.symm)]
    exact hbk
  have d0 : w2.cell? ⟨b, 0, none⟩ = some (.pointer (some ⟨b, 0, none⟩)) := by rw [Lib.cell_of_heap hb2]; rfl
  have d1 : w2.cell? ⟨b, 1, none⟩ = some v := by rw [Lib.cell_of_heap hb2]; rfl
  have f1 : w2.frozen? ⟨b, 1, none⟩ = false := Lib.frozen_of_heap hb2 1
  obtain ⟨ao, n', cap, rfl⟩ : ∃ ao n' cap, v' = .slice ao n' cap := by
    rcases hown'.2 with ⟨hv, _⟩ | ⟨g, cap, cur, hv, _⟩
    · exact ⟨_, _, _, hv⟩
    · exact ⟨_, _, _, hv⟩
  have e1 : bv (l ++ s.data.toList) = bv l ++ Lib.strCells s := by
    unfold bv Lib.strCells
    rw [List.map_append]
  have E1 : Hid (bv (l ++ s.data.toList) = bv l ++ Lib.strCells s) := e1
  clear e1
  go_wp2
  go_ret2
  refine ⟨rfl, ?_, ?_⟩
  · rw [E1.out]
    exact Lib.BuilderAt.put (T := 99) (e := 5) hB hb2 (bs' := bv l ++ Lib.strCells s) (by simpa [Lib.strCells_length] using hown') (by decide)
  · exact (hb1.grown hgrow hBw1 (fun k hk => (hown.lt k hk).1)).setCell (p := ⟨b, 1, none⟩) hB _
end Go.Proofs.Ytekjpoenbcnhdaa

/- Records: what spec.ReadShort and impl.recordAt tell of one. -/
import Derived.Test.YtnfkecefkkdedaaR1
namespace Go.Proofs.Ytnfkecefkkdedaa
open Go.RowKit
attribute [local go_sem ↓] Go.wp_at_zero Go.wp_at_succ

/-- the record that stands at a place: its text, and the place behind it -/
def rec1 (s : ByteArray) (p : Nat) : Option (ByteArray × Nat) :=
  match WM.rv (s.data.toList.drop p) with
  | none => none
  | some (n, k) => if n = 0 ∨ s.size < p + k + n then none else some (s.extract (p + k) (p + k + n), p + k + n)

/-- what is told of a record -/
def Rs (s : ByteArray) (p : Nat) (t : ByteArray) (q : Int) (ok : Bool) : Prop :=
  (ok = false ∧ rec1 s p = none) ∨ (ok = true ∧ t = ⟨#[]⟩ ∧ rec1 s p = none) ∨ (∃ q' : Nat, q = (q' : Int) ∧ ok = true ∧ 0 < t.size ∧ q' ≤ s.size ∧ rec1 s p = some (t, q'))

def Ri (s : ByteArray) (p : Nat) (t : ByteArray) (q : Int) (ok : Bool) : Prop :=
  (ok = false ∧ rec1 s p = none) ∨ (∃ q' : Nat, q = (q' : Int) ∧ ok = true ∧ 0 < t.size ∧ q' ≤ s.size ∧ rec1 s p = some (t, q'))

theorem rec1_none {s : ByteArray} {p : Nat} (h : WM.rv (s.data.toList.drop p) = none) : rec1 s p = none := by simp [rec1, h]
theorem rec1_bad {s : ByteArray} {p n k : Nat} (h : WM.rv (s.data.toList.drop p) = some (n, k)) (hb : n = 0 ∨ s.size < p + k + n) : rec1 s p = none := by simp only [rec1, h]; exact if_pos hb
theorem rec1_ok {s : ByteArray} {p n k : Nat} (h : WM.rv (s.data.toList.drop p) = some (n, k)) (hb : ¬ (n = 0 ∨ s.size < p + k + n)) : rec1 s p = some (s.extract (p + k) (p + k + n), p + k + n) := by simp only [rec1, h]; exact if_neg hb
theorem rec1_le {s : ByteArray} {p : Nat} {t : ByteArray} {q : Nat} (h : rec1 s p = some (t, q)) : q ≤ s.size ∧ p < q ∧ 0 < t.size := by
  unfold rec1 at h
  split at h
  · cases h
  · rename_i n k hr
    split at h
    · cases h
    · rename_i hc
      have hc1 : n ≠ 0 ∧ ¬ s.size < p + k + n := ⟨fun e => hc (Or.inl e), fun e => hc (Or.inr e)⟩
      cases h
      refine ⟨by omega, by omega, ?_⟩
      rw [size_piece s _ _ (by omega) (by omega)]
      omega

theorem rv_bd {s : ByteArray} {p n k : Nat} (hp : p ≤ s.size) (h : WM.rv (s.data.toList.drop p) = some (n, k)) : n ≤ 1000000000 ∧ p + k ≤ s.size := by
  have hbd := WM.rvGo_bd 5 0 0 _ _ h
  rw [List.length_drop, Array.length_toList] at hbd
  have h1 : k ≤ 0 + (s.size - p) := hbd.2.2
  exact ⟨hbd.1, by omega⟩

theorem srs64 (s : ByteArray) (p : Nat) (h : p ≤ s.size) (hs : s.size ≤ 20000) (w : World) :
    Calls Try.prog 78 #[.string s, .int .i64 p] w fun e w' => ∃ t q ok, e = .returned (.tuple #[.string t, .int .i64 q, .bool ok]) ∧ Rs s p t q ok ∧ Below w.heap.size w w' := by
  cases hR : WM.rv (s.data.toList.drop p) with
  | none =>
    refine (ssh_none s p h (by omega) hR w).mono ?_
    rintro e w' ⟨rfl, hb⟩
    exact ⟨_, _, _, rfl, Or.inl ⟨rfl, rec1_none hR⟩, hb⟩
  | some r =>
    obtain ⟨n, k⟩ := r
    have hbd := rv_bd h hR
    by_cases hb : s.size < p + k + n
    · refine (ssh_big s p h (by omega) n k hR hbd.1 hbd.2 (Or.inr hb) w).mono ?_
      rintro e w' ⟨rfl, hb2⟩
      exact ⟨_, _, _, rfl, Or.inl ⟨rfl, rec1_bad hR (Or.inr hb)⟩, hb2⟩
    · refine (ssh_ok s p h (by omega) n k hR (by omega) (by omega) w).mono ?_
      rintro e w' ⟨rfl, hb2⟩
      have hz := size_piece s (p + k) (p + k + n) (by omega) (by omega)
      by_cases h0 : n = 0
      · exact ⟨_, _, _, rfl, Or.inr (Or.inl ⟨rfl, ba_nil (by omega), rec1_bad hR (Or.inl h0)⟩), hb2⟩
      · exact ⟨_, _, _, rfl, Or.inr (Or.inr ⟨p + k + n, rfl, rfl, by omega, by omega, rec1_ok hR (by omega)⟩), hb2⟩

set_option maxHeartbeats 1000000 in
theorem irc66 (s : ByteArray) (p : Nat) (h : p ≤ s.size) (hs : s.size ≤ 20000) (w : World) :
    Calls Try.prog 77 #[.string s, .int .i64 p] w fun e w' => ∃ t q ok, e = .returned (.tuple #[.string t, .int .i64 q, .bool ok]) ∧ Ri s p t q ok ∧ Below w.heap.size w w' := by
  have hm : s.size ≤ 1048576 := by omega
  cases hR : WM.rv (s.data.toList.drop p) with
  | none =>
    have HR : Hid (WM.rv (s.data.toList.drop p) = none) := hR
    clear hR
    go_enter Try.func77, Try.ntmps77
    go_wp2_with (go_at_call 101; refine (irv_none s p h hm HR.out _).mono ?_; rintro e w' ⟨rfl, rfl⟩)
    go_ret3
    exact ⟨_, _, _, rfl, Or.inl ⟨rfl, rec1_none HR.out⟩, belowRefl _⟩
  | some r =>
    obtain ⟨n, k⟩ := r
    have hbd := rv_bd h hR
    have hn := hbd.1
    have hk := hbd.2
    have HR : Hid (WM.rv (s.data.toList.drop p) = some (n, k)) := hR
    clear hR hbd
    by_cases h0 : n = 0
    · have e0 : ((n : Int) == 0) = true := by subst h0; rfl
      have HN : Hid (rec1 s p = none) := rec1_bad HR.out (Or.inl h0)
      clear h0
      go_enter Try.func77, Try.ntmps77
      go_wp2_with (go_at_call 101; refine (irv_some s p h hm n k HR.out _).mono ?_; rintro e w' ⟨rfl, rfl⟩)
      go_ret3
      exact ⟨_, _, _, rfl, Or.inl ⟨rfl, HN.out⟩, belowRefl _⟩
    · have e0 : ((n : Int) == 0) = false := by rw [beq_eq_false_iff_ne]; omega
      by_cases hb : s.size < p + k + n
      · have h2 : (s.size : Int) - ((p : Int) + (k : Int)) < (n : Int) := by omega
        have HN : Hid (rec1 s p = none) := rec1_bad HR.out (Or.inr hb)
        clear hb h0
        go_enter Try.func77, Try.ntmps77
        go_wp2_with (go_at_call 101; refine (irv_some s p h hm n k HR.out _).mono ?_; rintro e w' ⟨rfl, rfl⟩)
        go_ret3
        exact ⟨_, _, _, rfl, Or.inl ⟨rfl, HN.out⟩, belowRefl _⟩
      · have h2 : (n : Int) ≤ (s.size : Int) - ((p : Int) + (k : Int)) := by omega
        have h3 : (p : Int) + (k : Int) + (n : Int) ≤ (s.size : Int) := by omega
        have hz := size_piece s (p + k) (p + k + n) (by omega) (by omega)
        have HZ : Hid ((s.extract (p + k) (p + k + n)).size ≤ 281474976710656) := by show _ ≤ _; omega
        have HZ2 : Hid (0 < (s.extract (p + k) (p + k + n)).size) := by show _ < _; omega
        have HQ : Hid (p + k + n ≤ s.size) := by show _ ≤ _; omega
        have HN : Hid (rec1 s p = some (s.extract (p + k) (p + k + n), p + k + n)) := rec1_ok HR.out (by omega)
        clear hb h0 hz
        go_enter Try.func77, Try.ntmps77
        go_wp2_with (first | (go_at_call 101; refine (irv_some s p h hm n k HR.out _).mono ?_; rintro e w' ⟨rfl, rfl⟩) | (go_at_call 59; refine (clone54 _ HZ.out _).mono ?_; rintro e w2 ⟨rfl, hb2⟩))
        go_ret3
        exact ⟨_, _, _, rfl, Or.inr ⟨p + k + n, by simp, rfl, HZ2.out, HQ.out, HN.out⟩, hb2⟩

/-- c records from a place on -/
def recsGo (s : ByteArray) : Nat → List ByteArray → Nat → Option (List ByteArray × Nat)
  | 0, acc, p => some (acc, p)
  | c + 1, acc, p => match rec1 s p with
    | none => none
    | some (t, q) => recsGo s c (acc ++ [t]) q
theorem recs_none {s : ByteArray} {c : Nat} {acc : List ByteArray} {p : Nat} {R : Option (List ByteArray × Nat)} (h : recsGo s (c + 1) acc p = R) (hr : rec1 s p = none) : R = none := by
  rw [← h]; simp [recsGo, hr]
theorem recs_some {s : ByteArray} {c : Nat} {acc : List ByteArray} {p : Nat} {R : Option (List ByteArray × Nat)} {t : ByteArray} {q : Nat} (h : recsGo s (c + 1) acc p = R) (hr : rec1 s p = some (t, q)) : recsGo s c (acc ++ [t]) q = R := by
  rw [← h]; simp [recsGo, hr]
end Go.Proofs.Ytnfkecefkkdedaa

/- What spec.ReadShort and impl.ReadShort return; the law FnExactReadShort, walked. -/
import Derived.Test.YtneknebckpajaaaV5
import Derived.Test.YtneknebckpajaaaShelf
namespace Go.Proofs.Ytneknebckpajaaa
open Go.RowKit

set_option maxHeartbeats 400000 in
theorem clone29 (s : ByteArray) (hs : s.size ≤ 281474976710656) (w : World) :
    Calls Try.prog 29 #[.string s] w fun e w' => e = .returned (.string s) ∧ Below w.heap.size w w' := by
  go_enter Try.func29, Try.ntmps29
  go_wp2_with (go_at_call 35; refine (Try.stringslite_Clone s _ hs).mono ?_; rintro e w' ⟨rfl, hb⟩)
  go_ret
  exact ⟨rfl, hb⟩

set_option maxHeartbeats 400000 in
theorem ssh_bad (s : ByteArray) (p : Int) (h : p < 0 ∨ (s.size : Int) < p) (hs : s.size ≤ 1048576) (w : World) :
    Calls Try.prog 16 #[.string s, .int .i64 p] w fun e w' => e = .returned (.tuple #[.string ⟨#[]⟩, .int .i64 0, .bool false]) ∧ w = w' := by
  have H : Hid (p < 0 ∨ (s.size : Int) < p) := h
  clear h
  go_enter Try.func16, Try.ntmps16
  go_wp2_with (go_at_call 12; refine (srv_bad s p H.out hs _).mono ?_; rintro e w' ⟨rfl, rfl⟩)
  go_ret3
  exact ⟨rfl, rfl⟩

set_option maxHeartbeats 400000 in
theorem ssh_none (s : ByteArray) (p : Nat) (h : p ≤ s.size) (hs : s.size ≤ 1048576) (hR : Hid (WM.rv (s.data.toList.drop p) = none)) (w : World) :
    Calls Try.prog 16 #[.string s, .int .i64 p] w fun e w' => e = .returned (.tuple #[.string ⟨#[]⟩, .int .i64 0, .bool false]) ∧ Below w.heap.size w w' := by
  go_enter Try.func16, Try.ntmps16
  go_wp2_with (go_at_call 12; refine (srv_none s p h hs hR.out _).mono ?_; rintro e w' ⟨rfl, hb⟩)
  go_ret3
  exact ⟨rfl, hb⟩

set_option maxHeartbeats 400000 in
theorem ssh_big (s : ByteArray) (p : Nat) (h : p ≤ s.size) (hs : s.size ≤ 1048576) (n k : Nat) (hR : Hid (WM.rv (s.data.toList.drop p) = some (n, k))) (hn : n ≤ 1000000000) (hk : p + k ≤ s.size)
    (hbig : 20000 < n ∨ s.size < p + k + n) (w : World) :
    Calls Try.prog 16 #[.string s, .int .i64 p] w fun e w' => e = .returned (.tuple #[.string ⟨#[]⟩, .int .i64 0, .bool false]) ∧ Below w.heap.size w w' := by
  by_cases h1 : 20000 < n
  · clear hbig
    go_enter Try.func16, Try.ntmps16
    go_wp2_with (go_at_call 12; refine (srv_some s p h hs n k hR.out _).mono ?_; rintro e w' ⟨rfl, hb⟩)
    go_ret3
    exact ⟨rfl, hb⟩
  · have h2 : (s.size : Int) - ((p : Int) + (k : Int)) < (n : Int) := by omega
    clear hbig
    go_enter Try.func16, Try.ntmps16
    go_wp2_with (go_at_call 12; refine (srv_some s p h hs n k hR.out _).mono ?_; rintro e w' ⟨rfl, hb⟩)
    go_ret3
    exact ⟨rfl, hb⟩

set_option maxHeartbeats 400000 in
theorem ish_bad (s : ByteArray) (p : Int) (h : p < 0 ∨ (s.size : Int) < p) (hs : s.size ≤ 1048576) (w : World) :
    Calls Try.prog 17 #[.string s, .int .i64 p] w fun e w' => e = .returned (.tuple #[.string ⟨#[]⟩, .int .i64 0, .bool false]) ∧ w = w' := by
  have H : Hid (p < 0 ∨ (s.size : Int) < p) := h
  clear h
  go_enter Try.func17, Try.ntmps17
  go_wp2_with (go_at_call 13; refine (irv_bad s p H.out hs _).mono ?_; rintro e w' ⟨rfl, rfl⟩)
  go_ret3
  exact ⟨rfl, rfl⟩

set_option maxHeartbeats 400000 in
theorem ish_none (s : ByteArray) (p : Nat) (h : p ≤ s.size) (hs : s.size ≤ 1048576) (hR : Hid (WM.rv (s.data.toList.drop p) = none)) (w : World) :
    Calls Try.prog 17 #[.string s, .int .i64 p] w fun e w' => e = .returned (.tuple #[.string ⟨#[]⟩, .int .i64 0, .bool false]) ∧ w = w' := by
  go_enter Try.func17, Try.ntmps17
  go_wp2_with (go_at_call 13; refine (irv_none s p h hs hR.out _).mono ?_; rintro e w' ⟨rfl, rfl⟩)
  go_ret3
  exact ⟨rfl, rfl⟩

set_option maxHeartbeats 400000 in
theorem ish_big (s : ByteArray) (p : Nat) (h : p ≤ s.size) (hs : s.size ≤ 1048576) (n k : Nat) (hR : Hid (WM.rv (s.data.toList.drop p) = some (n, k))) (hn : n ≤ 1000000000) (hk : p + k ≤ s.size)
    (hbig : 20000 < n ∨ s.size < p + k + n) (w : World) :
    Calls Try.prog 17 #[.string s, .int .i64 p] w fun e w' => e = .returned (.tuple #[.string ⟨#[]⟩, .int .i64 0, .bool false]) ∧ w = w' := by
  by_cases h1 : 20000 < n
  · clear hbig
    go_enter Try.func17, Try.ntmps17
    go_wp2_with (go_at_call 13; refine (irv_some s p h hs n k hR.out _).mono ?_; rintro e w' ⟨rfl, rfl⟩)
    go_ret3
    exact ⟨rfl, rfl⟩
  · have h2 : (s.size : Int) - ((p : Int) + (k : Int)) < (n : Int) := by omega
    clear hbig
    go_enter Try.func17, Try.ntmps17
    go_wp2_with (go_at_call 13; refine (irv_some s p h hs n k hR.out _).mono ?_; rintro e w' ⟨rfl, rfl⟩)
    go_ret3
    exact ⟨rfl, rfl⟩

theorem size_piece (s : ByteArray) (a b : Nat) (h : a ≤ b) (hb : b ≤ s.size) : (s.extract a b).size = b - a := by
  simp; omega

set_option maxHeartbeats 400000 in
theorem ssh_ok (s : ByteArray) (p : Nat) (h : p ≤ s.size) (hs : s.size ≤ 1048576) (n k : Nat) (hR : Hid (WM.rv (s.data.toList.drop p) = some (n, k))) (hn : n ≤ 20000) (hk : p + k + n ≤ s.size) (w : World) :
    Calls Try.prog 16 #[.string s, .int .i64 p] w fun e w' => e = .returned (.tuple #[.string (s.extract (p + k) (p + k + n)), .int .i64 ((p + k + n : Nat) : Int), .bool true]) ∧ Below w.heap.size w w' := by
  have h2 : (n : Int) ≤ (s.size : Int) - ((p : Int) + (k : Int)) := by omega
  have h3 : (p : Int) + (k : Int) + (n : Int) ≤ (s.size : Int) := by omega
  go_enter Try.func16, Try.ntmps16
  go_wp2_with (go_at_call 12; refine (srv_some s p h hs n k hR.out _).mono ?_; rintro e w' ⟨rfl, hb⟩)
  go_ret3
  exact ⟨rfl, hb⟩

set_option maxHeartbeats 400000 in
theorem ish_ok (s : ByteArray) (p : Nat) (h : p ≤ s.size) (hs : s.size ≤ 1048576) (n k : Nat) (hR : Hid (WM.rv (s.data.toList.drop p) = some (n, k))) (hn : n ≤ 20000) (hk : p + k + n ≤ s.size) (w : World) :
    Calls Try.prog 17 #[.string s, .int .i64 p] w fun e w' => e = .returned (.tuple #[.string (s.extract (p + k) (p + k + n)), .int .i64 ((p + k + n : Nat) : Int), .bool true]) ∧ Below w.heap.size w w' := by
  have h2 : (n : Int) ≤ (s.size : Int) - ((p : Int) + (k : Int)) := by omega
  have h3 : (p : Int) + (k : Int) + (n : Int) ≤ (s.size : Int) := by omega
  have hz : (s.extract (p + k) (p + k + n)).size ≤ 281474976710656 := by rw [size_piece s _ _ (by omega) hk]; omega
  have HZ : Hid _ := hz
  clear hz
  go_enter Try.func17, Try.ntmps17
  go_wp2_with (first | (go_at_call 13; refine (irv_some s p h hs n k hR.out _).mono ?_; rintro e w' ⟨rfl, rfl⟩) | (go_at_call 29; refine (clone29 _ HZ.out _).mono ?_; rintro e w' ⟨rfl, hb⟩))
  go_ret3
  exact ⟨rfl, hb⟩

set_option maxHeartbeats 400000 in
theorem law6 (s : ByteArray) (p : Int) (hs : s.size ≤ maxLen) (_hp : (Lit.int .i64 p).wf = true) (w : World) : Calls Try.prog 6 #[.string s, .int .i64 p] w fun e w' => e = .returned (.bool true) ∧ Below w.heap.size w w' := by
  unfold maxLen at hs
  by_cases hbig : 1048576 < s.size
  · go_enter Try.func6, Try.ntmps6
    go_wp2
    go_ret
    exact ⟨rfl, Below.refl _ _⟩
  have hm : s.size ≤ 1048576 := by omega
  by_cases h : p < 0 ∨ (s.size : Int) < p
  · have H : Hid (p < 0 ∨ (s.size : Int) < p) := h
    clear h
    go_enter Try.func6, Try.ntmps6
    go_wp2_with (first | (go_at_call 16; refine (ssh_bad s p H.out hm _).mono ?_; rintro e w' ⟨rfl, rfl⟩) | (go_at_call 17; refine (ish_bad s p H.out hm _).mono ?_; rintro e w' ⟨rfl, rfl⟩))
    go_ret
    exact ⟨rfl, Below.refl _ _⟩
  obtain ⟨q, rfl⟩ : ∃ q : Nat, p = q := ⟨p.toNat, by omega⟩
  have hq : q ≤ s.size := by omega
  clear h
  cases hR : WM.rv (s.data.toList.drop q) with
  | none =>
    have HR : Hid _ := hR
    clear hR
    go_enter Try.func6, Try.ntmps6
    go_wp2_with (first | (go_at_call 16; refine (ssh_none s q hq hm HR _).mono ?_; rintro e w1 ⟨rfl, hb⟩) | (go_at_call 17; refine (ish_none s q hq hm HR _).mono ?_; rintro e w2 ⟨rfl, rfl⟩))
    go_ret
    exact ⟨rfl, hb⟩
  | some r =>
    obtain ⟨n, k⟩ := r
    have hbd := WM.rvGo_bd 5 0 0 _ _ hR
    rw [List.length_drop, Array.length_toList] at hbd
    have hn : n ≤ 1000000000 := hbd.1
    have hk : q + k ≤ s.size := by have h1 : k ≤ 0 + (s.size - q) := hbd.2.2; omega
    have HR : Hid _ := hR
    clear hR hbd
    by_cases hb : 20000 < n ∨ s.size < q + k + n
    · have HB : Hid _ := hb
      clear hb
      go_enter Try.func6, Try.ntmps6
      go_wp2_with (first | (go_at_call 16; refine (ssh_big s q hq hm n k HR hn hk HB.out _).mono ?_; rintro e w1 ⟨rfl, hb⟩) | (go_at_call 17; refine (ish_big s q hq hm n k HR hn hk HB.out _).mono ?_; rintro e w2 ⟨rfl, rfl⟩))
      go_ret
      exact ⟨rfl, hb⟩
    · have hn2 : n ≤ 20000 := by omega
      have hk2 : q + k + n ≤ s.size := by omega
      clear hb
      go_enter Try.func6, Try.ntmps6
      go_wp2_with (first | (go_at_call 16; refine (ssh_ok s q hq hm n k HR hn2 hk2 _).mono ?_; rintro e w1 ⟨rfl, hb1⟩) | (go_at_call 17; refine (ish_ok s q hq hm n k HR hn2 hk2 _).mono ?_; rintro e w2 ⟨rfl, hb2⟩))
      go_ret
      exact ⟨rfl, hb1.trans (hb2.mono hb1.size)⟩
end Go.Proofs.Ytneknebckpajaaa

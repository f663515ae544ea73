/- What spec.ReadShort and impl.ReadShort return; the law FnExactReadShort, walked. -/
import Derived.Test.YtblfljmcbpodbaaWoV5
import Derived.Test.YtblfljmcbpodbaaG3
namespace Go.Proofs.Ytblfljmcbpodbaa
open Go.RowKit

set_option maxHeartbeats 400000 in
theorem ssh_bad (s : ByteArray) (p : Int) (h : p < 0 ∨ (s.size : Int) < p) (hs : s.size ≤ 1048576) (w : World) :
    Calls Try.prog 131 #[.string s, .int .i64 p] w fun e w' => e = .returned (.tuple #[.string ⟨#[]⟩, .int .i64 0, .bool false]) ∧ w = w' := by
  have H : Hid (p < 0 ∨ (s.size : Int) < p) := h
  clear h
  go_enter Try.func131, Try.ntmps131
  go_wp2_with (go_at_call 130; refine (srv_bad s p H.out hs _).mono ?_; rintro e w' ⟨rfl, rfl⟩)
  go_ret3
  exact ⟨rfl, rfl⟩

set_option maxHeartbeats 400000 in
theorem ssh_none (s : ByteArray) (p : Nat) (h : p ≤ s.size) (hs : s.size ≤ 1048576) (hR : Hid (WM.rv (s.data.toList.drop p) = none)) (w : World) :
    Calls Try.prog 131 #[.string s, .int .i64 p] w fun e w' => e = .returned (.tuple #[.string ⟨#[]⟩, .int .i64 0, .bool false]) ∧ Below w.heap.size w w' := by
  go_enter Try.func131, Try.ntmps131
  go_wp2_with (go_at_call 130; refine (srv_none s p h hs hR.out _).mono ?_; rintro e w' ⟨rfl, hb⟩)
  go_ret3
  exact ⟨rfl, hb⟩

set_option maxHeartbeats 400000 in
theorem ssh_big (s : ByteArray) (p : Nat) (h : p ≤ s.size) (hs : s.size ≤ 1048576) (n k : Nat) (hR : Hid (WM.rv (s.data.toList.drop p) = some (n, k))) (hn : n ≤ 1000000000) (hk : p + k ≤ s.size)
    (hbig : 20000 < n ∨ s.size < p + k + n) (w : World) :
    Calls Try.prog 131 #[.string s, .int .i64 p] w fun e w' => e = .returned (.tuple #[.string ⟨#[]⟩, .int .i64 0, .bool false]) ∧ Below w.heap.size w w' := by
  by_cases h1 : 20000 < n
  · clear hbig
    go_enter Try.func131, Try.ntmps131
    go_wp2_with (go_at_call 130; refine (srv_some s p h hs n k hR.out _).mono ?_; rintro e w' ⟨rfl, hb⟩)
    go_ret3
    exact ⟨rfl, hb⟩
  · have h2 : (s.size : Int) - ((p : Int) + (k : Int)) < (n : Int) := by omega
    clear hbig
    go_enter Try.func131, Try.ntmps131
    go_wp2_with (go_at_call 130; refine (srv_some s p h hs n k hR.out _).mono ?_; rintro e w' ⟨rfl, hb⟩)
    go_ret3
    exact ⟨rfl, hb⟩

set_option maxHeartbeats 400000 in
theorem ish_bad (s : ByteArray) (p : Int) (h : p < 0 ∨ (s.size : Int) < p) (hs : s.size ≤ 1048576) (w : World) :
    Calls Try.prog 150 #[.string s, .int .i64 p] w fun e w' => e = .returned (.tuple #[.string ⟨#[]⟩, .int .i64 0, .bool false]) ∧ w = w' := by
  have H : Hid (p < 0 ∨ (s.size : Int) < p) := h
  clear h
  go_enter Try.func150, Try.ntmps150
  go_wp2_with (go_at_call 149; refine (irv_bad s p H.out hs _).mono ?_; rintro e w' ⟨rfl, rfl⟩)
  go_ret3
  exact ⟨rfl, rfl⟩

set_option maxHeartbeats 400000 in
theorem ish_none (s : ByteArray) (p : Nat) (h : p ≤ s.size) (hs : s.size ≤ 1048576) (hR : Hid (WM.rv (s.data.toList.drop p) = none)) (w : World) :
    Calls Try.prog 150 #[.string s, .int .i64 p] w fun e w' => e = .returned (.tuple #[.string ⟨#[]⟩, .int .i64 0, .bool false]) ∧ w = w' := by
  go_enter Try.func150, Try.ntmps150
  go_wp2_with (go_at_call 149; refine (irv_none s p h hs hR.out _).mono ?_; rintro e w' ⟨rfl, rfl⟩)
  go_ret3
  exact ⟨rfl, rfl⟩

set_option maxHeartbeats 400000 in
theorem ish_big (s : ByteArray) (p : Nat) (h : p ≤ s.size) (hs : s.size ≤ 1048576) (n k : Nat) (hR : Hid (WM.rv (s.data.toList.drop p) = some (n, k))) (hn : n ≤ 1000000000) (hk : p + k ≤ s.size)
    (hbig : 20000 < n ∨ s.size < p + k + n) (w : World) :
    Calls Try.prog 150 #[.string s, .int .i64 p] w fun e w' => e = .returned (.tuple #[.string ⟨#[]⟩, .int .i64 0, .bool false]) ∧ w = w' := by
  by_cases h1 : 20000 < n
  · clear hbig
    go_enter Try.func150, Try.ntmps150
    go_wp2_with (go_at_call 149; refine (irv_some s p h hs n k hR.out _).mono ?_; rintro e w' ⟨rfl, rfl⟩)
    go_ret3
    exact ⟨rfl, rfl⟩
  · have h2 : (s.size : Int) - ((p : Int) + (k : Int)) < (n : Int) := by omega
    clear hbig
    go_enter Try.func150, Try.ntmps150
    go_wp2_with (go_at_call 149; refine (irv_some s p h hs n k hR.out _).mono ?_; rintro e w' ⟨rfl, rfl⟩)
    go_ret3
    exact ⟨rfl, rfl⟩

theorem size_piece (s : ByteArray) (a b : Nat) (h : a ≤ b) (hb : b ≤ s.size) : (s.extract a b).size = b - a := by
  simp; omega

set_option maxHeartbeats 400000 in
theorem ssh_ok (s : ByteArray) (p : Nat) (h : p ≤ s.size) (hs : s.size ≤ 1048576) (n k : Nat) (hR : Hid (WM.rv (s.data.toList.drop p) = some (n, k))) (hn : n ≤ 20000) (hk : p + k + n ≤ s.size) (w : World) :
    Calls Try.prog 131 #[.string s, .int .i64 p] w fun e w' => e = .returned (.tuple #[.string (s.extract (p + k) (p + k + n)), .int .i64 ((p + k + n : Nat) : Int), .bool true]) ∧ Below w.heap.size w w' := by
  have h2 : (n : Int) ≤ (s.size : Int) - ((p : Int) + (k : Int)) := by omega
  have h3 : (p : Int) + (k : Int) + (n : Int) ≤ (s.size : Int) := by omega
  go_enter Try.func131, Try.ntmps131
  go_wp2_with (go_at_call 130; refine (srv_some s p h hs n k hR.out _).mono ?_; rintro e w' ⟨rfl, hb⟩)
  go_ret3
  exact ⟨rfl, hb⟩

set_option maxHeartbeats 400000 in
theorem ish_ok (s : ByteArray) (p : Nat) (h : p ≤ s.size) (hs : s.size ≤ 1048576) (n k : Nat) (hR : Hid (WM.rv (s.data.toList.drop p) = some (n, k))) (hn : n ≤ 20000) (hk : p + k + n ≤ s.size) (w : World) :
    Calls Try.prog 150 #[.string s, .int .i64 p] w fun e w' => e = .returned (.tuple #[.string (s.extract (p + k) (p + k + n)), .int .i64 ((p + k + n : Nat) : Int), .bool true]) ∧ Below w.heap.size w w' := by
  have h2 : (n : Int) ≤ (s.size : Int) - ((p : Int) + (k : Int)) := by omega
  have h3 : (p : Int) + (k : Int) + (n : Int) ≤ (s.size : Int) := by omega
  have hz : (s.extract (p + k) (p + k + n)).size ≤ 281474976710656 := by rw [size_piece s _ _ (by omega) hk]; omega
  have HZ : Hid _ := hz
  clear hz
  go_enter Try.func150, Try.ntmps150
  go_wp2_with (first | (go_at_call 149; refine (irv_some s p h hs n k hR.out _).mono ?_; rintro e w' ⟨rfl, rfl⟩) | (go_at_call 51; refine (clone49 _ HZ.out _).mono ?_; rintro e w' ⟨rfl, hb⟩))
  go_ret3
  exact ⟨rfl, hb⟩

end Go.Proofs.Ytblfljmcbpodbaa

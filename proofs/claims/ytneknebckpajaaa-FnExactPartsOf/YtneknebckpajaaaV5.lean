/- The law FnExactReadVar, walked. -/
import Derived.Test.YtneknebckpajaaaV4
namespace Go.Proofs.Ytneknebckpajaaa
open Go.RowKit

theorem irv_none (s : ByteArray) (p : Nat) (h : p ≤ s.size) (hs : s.size ≤ 1048576) (hR : WM.rv (s.data.toList.drop p) = none) (w : World) :
    Calls Try.prog 13 #[.string s, .int .i64 p] w fun e w' => e = .returned (.tuple #[.int .i64 0, .int .i64 0, .bool false]) ∧ w = w' :=
  (irv s p h hs w).mono fun e w' ⟨h1, h2⟩ => ⟨by rw [h1, hR]; rfl, h2.symm⟩
theorem irv_some (s : ByteArray) (p : Nat) (h : p ≤ s.size) (hs : s.size ≤ 1048576) (n k : Nat) (hR : WM.rv (s.data.toList.drop p) = some (n, k)) (w : World) :
    Calls Try.prog 13 #[.string s, .int .i64 p] w fun e w' => e = .returned (.tuple #[.int .i64 n, .int .i64 ((p + k : Nat) : Int), .bool true]) ∧ w = w' :=
  (irv s p h hs w).mono fun e w' ⟨h1, h2⟩ => ⟨by rw [h1, hR]; rfl, h2.symm⟩
theorem srv_none (s : ByteArray) (p : Nat) (h : p ≤ s.size) (hs : s.size ≤ 1048576) (hR : WM.rv (s.data.toList.drop p) = none) (w : World) :
    Calls Try.prog 12 #[.string s, .int .i64 p] w fun e w' => e = .returned (.tuple #[.int .i64 0, .int .i64 0, .bool false]) ∧ Below w.heap.size w w' :=
  (srv s p h hs w).mono fun e w' ⟨h1, h2⟩ => ⟨by rw [h1, hR]; rfl, h2⟩
theorem srv_some (s : ByteArray) (p : Nat) (h : p ≤ s.size) (hs : s.size ≤ 1048576) (n k : Nat) (hR : WM.rv (s.data.toList.drop p) = some (n, k)) (w : World) :
    Calls Try.prog 12 #[.string s, .int .i64 p] w fun e w' => e = .returned (.tuple #[.int .i64 n, .int .i64 ((p + k : Nat) : Int), .bool true]) ∧ Below w.heap.size w w' :=
  (srv s p h hs w).mono fun e w' ⟨h1, h2⟩ => ⟨by rw [h1, hR]; rfl, h2⟩
theorem irv_bad (s : ByteArray) (p : Int) (h : p < 0 ∨ (s.size : Int) < p) (hs : s.size ≤ 1048576) (w : World) :
    Calls Try.prog 13 #[.string s, .int .i64 p] w fun e w' => e = .returned (.tuple #[.int .i64 0, .int .i64 0, .bool false]) ∧ w = w' :=
  (irv_no s p h hs w).mono fun _ _ ⟨h1, h2⟩ => ⟨h1, h2.symm⟩
theorem srv_bad (s : ByteArray) (p : Int) (h : p < 0 ∨ (s.size : Int) < p) (hs : s.size ≤ 1048576) (w : World) :
    Calls Try.prog 12 #[.string s, .int .i64 p] w fun e w' => e = .returned (.tuple #[.int .i64 0, .int .i64 0, .bool false]) ∧ w = w' :=
  (srv_no s p h hs w).mono fun _ _ ⟨h1, h2⟩ => ⟨h1, h2.symm⟩

set_option maxHeartbeats 400000 in
theorem law4 (s : ByteArray) (p : Int) (hs : s.size ≤ maxLen) (_hp : (Lit.int .i64 p).wf = true) (w : World) : Calls Try.prog 4 #[.string s, .int .i64 p] w fun e w' => e = .returned (.bool true) ∧ Below w.heap.size w w' := by
  unfold maxLen at hs
  by_cases hbig : 1048576 < s.size
  · go_enter Try.func4, Try.ntmps4
    go_wp2
    go_ret
    exact ⟨rfl, Below.refl _ _⟩
  have hm : s.size ≤ 1048576 := by omega
  by_cases h : p < 0 ∨ (s.size : Int) < p
  · have H : Hid (p < 0 ∨ (s.size : Int) < p) := h
    clear h
    go_enter Try.func4, Try.ntmps4
    go_wp2_with (first | (go_at_call 12; refine (srv_bad s p H.out hm _).mono ?_; rintro e w' ⟨rfl, rfl⟩) | (go_at_call 13; refine (irv_bad s p H.out hm _).mono ?_; rintro e w' ⟨rfl, rfl⟩))
    go_ret
    exact ⟨rfl, Below.refl _ _⟩
  obtain ⟨q, rfl⟩ : ∃ q : Nat, p = q := ⟨p.toNat, by omega⟩
  have hq : q ≤ s.size := by omega
  clear h
  cases hR : WM.rv (s.data.toList.drop q) with
  | none =>
    have HR : Hid _ := hR
    clear hR
    go_enter Try.func4, Try.ntmps4
    go_wp2_with (first | (go_at_call 12; refine (srv_none s q hq hm HR.out _).mono ?_; rintro e w1 ⟨rfl, hb⟩) | (go_at_call 13; refine (irv_none s q hq hm HR.out _).mono ?_; rintro e w2 ⟨rfl, rfl⟩))
    go_ret
    exact ⟨rfl, hb⟩
  | some r =>
    obtain ⟨n, k⟩ := r
    have HR : Hid _ := hR
    clear hR
    go_enter Try.func4, Try.ntmps4
    go_wp2_with (first | (go_at_call 12; refine (srv_some s q hq hm n k HR.out _).mono ?_; rintro e w1 ⟨rfl, hb⟩) | (go_at_call 13; refine (irv_some s q hq hm n k HR.out _).mono ?_; rintro e w2 ⟨rfl, rfl⟩))
    go_ret
    exact ⟨rfl, hb⟩
end Go.Proofs.Ytneknebckpajaaa

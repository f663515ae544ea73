/- The law FnExactReadVar, walked. -/
import Derived.Test.YtblfljmcbpodbaaWoV4
namespace Go.Proofs.Ytblfljmcbpodbaa
open Go.RowKit

theorem irv_none (s : ByteArray) (p : Nat) (h : p ≤ s.size) (hs : s.size ≤ 1048576) (hR : WM.rv (s.data.toList.drop p) = none) (w : World) :
    Calls Try.prog 149 #[.string s, .int .i64 p] w fun e w' => e = .returned (.tuple #[.int .i64 0, .int .i64 0, .bool false]) ∧ w = w' :=
  (irv s p h hs w).mono fun e w' ⟨h1, h2⟩ => ⟨by rw [h1, hR]; rfl, h2.symm⟩
theorem irv_some (s : ByteArray) (p : Nat) (h : p ≤ s.size) (hs : s.size ≤ 1048576) (n k : Nat) (hR : WM.rv (s.data.toList.drop p) = some (n, k)) (w : World) :
    Calls Try.prog 149 #[.string s, .int .i64 p] w fun e w' => e = .returned (.tuple #[.int .i64 n, .int .i64 ((p + k : Nat) : Int), .bool true]) ∧ w = w' :=
  (irv s p h hs w).mono fun e w' ⟨h1, h2⟩ => ⟨by rw [h1, hR]; rfl, h2.symm⟩
theorem srv_none (s : ByteArray) (p : Nat) (h : p ≤ s.size) (hs : s.size ≤ 1048576) (hR : WM.rv (s.data.toList.drop p) = none) (w : World) :
    Calls Try.prog 130 #[.string s, .int .i64 p] w fun e w' => e = .returned (.tuple #[.int .i64 0, .int .i64 0, .bool false]) ∧ Below w.heap.size w w' :=
  (srv s p h hs w).mono fun e w' ⟨h1, h2⟩ => ⟨by rw [h1, hR]; rfl, h2⟩
theorem srv_some (s : ByteArray) (p : Nat) (h : p ≤ s.size) (hs : s.size ≤ 1048576) (n k : Nat) (hR : WM.rv (s.data.toList.drop p) = some (n, k)) (w : World) :
    Calls Try.prog 130 #[.string s, .int .i64 p] w fun e w' => e = .returned (.tuple #[.int .i64 n, .int .i64 ((p + k : Nat) : Int), .bool true]) ∧ Below w.heap.size w w' :=
  (srv s p h hs w).mono fun e w' ⟨h1, h2⟩ => ⟨by rw [h1, hR]; rfl, h2⟩
theorem irv_bad (s : ByteArray) (p : Int) (h : p < 0 ∨ (s.size : Int) < p) (hs : s.size ≤ 1048576) (w : World) :
    Calls Try.prog 149 #[.string s, .int .i64 p] w fun e w' => e = .returned (.tuple #[.int .i64 0, .int .i64 0, .bool false]) ∧ w = w' :=
  (irv_no s p h hs w).mono fun _ _ ⟨h1, h2⟩ => ⟨h1, h2.symm⟩
theorem srv_bad (s : ByteArray) (p : Int) (h : p < 0 ∨ (s.size : Int) < p) (hs : s.size ≤ 1048576) (w : World) :
    Calls Try.prog 130 #[.string s, .int .i64 p] w fun e w' => e = .returned (.tuple #[.int .i64 0, .int .i64 0, .bool false]) ∧ w = w' :=
  (srv_no s p h hs w).mono fun _ _ ⟨h1, h2⟩ => ⟨h1, h2.symm⟩

end Go.Proofs.Ytblfljmcbpodbaa

/- What Sealed and Unsealed return, the program's own and the specification's. -/
import Derived.Test.YtojjoekomeamcaaDoorK1
import Derived.Test.YtojjoekomeamcaaDoorShelf
import Derived.Deep.QuietTactic
import Derived.BigQuiet
import Derived.Deep.RegionHeld3
import Derived.Deep.DrawnRows
namespace Go.Proofs.YtojjoekomeamcaaDoor
open Go.RowKit
attribute [local go_sem ↓] Go.wp_at_zero Go.wp_at_succ

/-- the sealed text -/
def sealB (s : ByteArray) : ByteArray := s ++ ⟨(SM.four (SM.sum 4294967295 s.data.toList)).toArray⟩

set_option maxHeartbeats 400000 in
theorem iseal_no (s : ByteArray) (h : 20000 < s.size) (hs : s.size ≤ 1048576) (w : World) :
    Calls Tryd.prog 11 #[.string s] w fun e w' => e = .returned (.tuple #[.string ⟨#[]⟩, .bool false]) ∧ w = w' := by
  go_enter Tryd.func11, Tryd.ntmps11
  go_wp2
  go_ret2
  exact ⟨rfl, rfl⟩

set_option maxHeartbeats 400000 in
theorem iseal_yes (s : ByteArray) (h : s.size ≤ 20000) (w : World) (ht : Tab w) :
    Calls Tryd.prog 11 #[.string s] w fun e w' => e = .returned (.tuple #[.string (sealB s), .bool true]) ∧ Below w.heap.size w w' := by
  have c := isum14 s (by omega) w ht
  have hz := SM.sum_lt 4294967295 s.data.toList (by omega)
  unfold sealB
  clear ht
  generalize SM.sum 4294967295 s.data.toList = z at *
  have c2 := text23 z hz w
  have h4 : ((⟨(SM.four z).toArray⟩ : ByteArray)).size = 4 := rfl
  generalize (⟨(SM.four z).toArray⟩ : ByteArray) = f at *
  go_enter Tryd.func11, Tryd.ntmps11
  go_wp2_with fail
  refine c.mono ?_
  rintro e w' ⟨rfl, rfl⟩
  clear c
  go_wp2_with fail
  refine c2.mono ?_
  rintro e w2 ⟨rfl, hb⟩
  clear c2
  go_wp2
  go_ret2
  exact ⟨rfl, hb⟩

set_option maxHeartbeats 400000 in
theorem sseal_no (s : ByteArray) (h : 20000 < s.size) (hs : s.size ≤ 1048576) (w : World) :
    Calls Tryd.prog 17 #[.string s] w fun e w' => e = .returned (.tuple #[.string ⟨#[]⟩, .bool false]) ∧ w = w' := by
  go_enter Tryd.func17, Tryd.ntmps17
  go_wp2
  go_ret2
  exact ⟨rfl, rfl⟩

set_option maxHeartbeats 400000 in
theorem sseal_yes (s : ByteArray) (h : s.size ≤ 20000) (w : World) :
    Calls Tryd.prog 17 #[.string s] w fun e w' => e = .returned (.tuple #[.string (sealB s), .bool true]) ∧ Below w.heap.size w w' := by
  have c := ssum16 s (by omega) w
  have hz := SM.sum_lt 4294967295 s.data.toList (by omega)
  unfold sealB
  generalize SM.sum 4294967295 s.data.toList = z at *
  have c2 := four26 z hz w
  have h4 : ((⟨(SM.four z).toArray⟩ : ByteArray)).size = 4 := rfl
  generalize (⟨(SM.four z).toArray⟩ : ByteArray) = f at *
  go_enter Tryd.func17, Tryd.ntmps17
  go_wp2_with fail
  refine c.mono ?_
  rintro e w' ⟨rfl, rfl⟩
  clear c
  go_wp2_with fail
  refine c2.mono ?_
  rintro e w2 ⟨rfl, hb⟩
  clear c2
  go_wp2
  go_ret2
  exact ⟨rfl, hb⟩

set_option maxHeartbeats 400000 in
theorem clone24 (s : ByteArray) (hs : s.size ≤ 281474976710656) (w : World) :
    Calls Tryd.prog 24 #[.string s] w fun e w' => e = .returned (.string s) ∧ Below w.heap.size w w' := by
  go_enter Tryd.func24, Tryd.ntmps24
  go_wp2_with (go_at_call 27; refine (Tryd.stringslite_Clone s _ hs).mono ?_; rintro e w' ⟨rfl, hb⟩)
  go_ret
  exact ⟨rfl, hb⟩

set_option maxHeartbeats 400000 in
theorem iuns_no (s : ByteArray) (h : s.size < 4 ∨ 20004 < s.size) (hs : s.size ≤ 1048576) (w : World) :
    Calls Tryd.prog 12 #[.string s] w fun e w' => e = .returned (.tuple #[.string ⟨#[]⟩, .bool false]) ∧ w = w' := by
  rcases h with h | h
  · have h1 : (s.size : Int) - 4 < 0 := by omega
    go_enter Tryd.func12, Tryd.ntmps12
    go_wp2
    go_ret2
    exact ⟨rfl, rfl⟩
  · have h1 : ¬ (s.size : Int) - 4 < 0 := by omega
    have h2 : (20000 : Int) < (s.size : Int) - 4 := by omega
    go_enter Tryd.func12, Tryd.ntmps12
    go_wp2
    go_ret2
    exact ⟨rfl, rfl⟩

set_option maxHeartbeats 1000000 in
theorem iuns_yes (s : ByteArray) (n : Nat) (hn : s.size = n + 4) (h : n ≤ 20000) (hq : ((⟨(SM.four (SM.sum 4294967295 (s.extract 0 n).data.toList)).toArray⟩ : ByteArray).toList == (s.extract n (n + 4)).toList) = true) (w : World) (ht : Tab w) :
    Calls Tryd.prog 12 #[.string s] w fun e w' => e = .returned (.tuple #[.string (s.extract 0 n), .bool true]) ∧ Below w.heap.size w w' := by
  have h1 : decide ((n : Int) < 0) = false := by simp
  have h2 : decide ((20000 : Int) < (n : Int)) = false := by simp; omega
  have e1 : (s.size : Int) - 4 = (n : Int) := by omega
  have hp : (s.extract 0 n).size = n := by rw [ByteArray.size_extract]; omega
  have c : ∀ w : World, Tab w → Calls Tryd.prog 14 #[.string (s.extract 0 n)] w fun e w' => e = .returned (.int .u32 ((SM.sum 4294967295 (s.extract 0 n).data.toList : Nat) : Int)) ∧ w = w' := fun w ht => isum14 (s.extract 0 n) (by omega) w ht
  have hz := SM.sum_lt 4294967295 (s.extract 0 n).data.toList (by omega)
  have T : Hid (Tab w) := ht
  clear ht
  generalize SM.sum 4294967295 (s.extract 0 n).data.toList = z at *
  have c2 := text23 z hz
  have h4 : ((⟨(SM.four z).toArray⟩ : ByteArray)).size = 4 := rfl
  generalize (⟨(SM.four z).toArray⟩ : ByteArray) = f at *
  have C : Hid (∀ w : World, Tab w → Calls Tryd.prog 14 #[.string (s.extract 0 n)] w fun e w' => e = .returned (.int .u32 (z : Int)) ∧ w = w') := c
  have C2 : Hid (∀ (w : World), Calls Tryd.prog 23 #[.int .u32 (z : Int)] w fun e w' => e = .returned (.string f) ∧ Below w.heap.size w w') := c2
  clear c c2
  have hn0 : (0 : Int) ≤ (n : Int) := by omega
  have hn1 : (n : Int) ≤ (s.size : Int) := by omega
  have hn2 : (n : Int) ≤ (n : Int) + 4 := by omega
  go_enter Tryd.func12, Tryd.ntmps12
  go_wp2_with fail
  go_region_held3 (fun _ => True) (trivial) ((first | (go_at_call 14; refine (C.out _ (by exact T.out)).mono ?_; rintro e w' ⟨rfl, rfl⟩) | (go_at_call 23; refine (C2.out _).mono ?_; rintro e w' ⟨rfl, hb⟩)))
  go_wp2_with fail
  refine (clone24 _ (by omega) _).mono ?_
  rintro e w2 ⟨rfl, hb2⟩
  go_wp2
  go_ret2
  exact ⟨rfl, (((Below.refl _ _).drew).trans hb).trans (hb2.mono hb.size)⟩

set_option maxHeartbeats 1000000 in
theorem iuns_bad (s : ByteArray) (n : Nat) (hn : s.size = n + 4) (h : n ≤ 20000) (hq : ((⟨(SM.four (SM.sum 4294967295 (s.extract 0 n).data.toList)).toArray⟩ : ByteArray).toList == (s.extract n (n + 4)).toList) = false) (w : World) (ht : Tab w) :
    Calls Tryd.prog 12 #[.string s] w fun e w' => e = .returned (.tuple #[.string ⟨#[]⟩, .bool false]) ∧ Below w.heap.size w w' := by
  have h1 : decide ((n : Int) < 0) = false := by simp
  have h2 : decide ((20000 : Int) < (n : Int)) = false := by simp; omega
  have e1 : (s.size : Int) - 4 = (n : Int) := by omega
  have hp : (s.extract 0 n).size = n := by rw [ByteArray.size_extract]; omega
  have c : ∀ w : World, Tab w → Calls Tryd.prog 14 #[.string (s.extract 0 n)] w fun e w' => e = .returned (.int .u32 ((SM.sum 4294967295 (s.extract 0 n).data.toList : Nat) : Int)) ∧ w = w' := fun w ht => isum14 (s.extract 0 n) (by omega) w ht
  have hz := SM.sum_lt 4294967295 (s.extract 0 n).data.toList (by omega)
  have T : Hid (Tab w) := ht
  clear ht
  generalize SM.sum 4294967295 (s.extract 0 n).data.toList = z at *
  have c2 := text23 z hz
  have h4 : ((⟨(SM.four z).toArray⟩ : ByteArray)).size = 4 := rfl
  generalize (⟨(SM.four z).toArray⟩ : ByteArray) = f at *
  have C : Hid (∀ w : World, Tab w → Calls Tryd.prog 14 #[.string (s.extract 0 n)] w fun e w' => e = .returned (.int .u32 (z : Int)) ∧ w = w') := c
  have C2 : Hid (∀ (w : World), Calls Tryd.prog 23 #[.int .u32 (z : Int)] w fun e w' => e = .returned (.string f) ∧ Below w.heap.size w w') := c2
  clear c c2
  have hn0 : (0 : Int) ≤ (n : Int) := by omega
  have hn1 : (n : Int) ≤ (s.size : Int) := by omega
  have hn2 : (n : Int) ≤ (n : Int) + 4 := by omega
  go_enter Tryd.func12, Tryd.ntmps12
  go_wp2_with fail
  go_region_held3 (fun _ => True) (trivial) ((first | (go_at_call 14; refine (C.out _ (by exact T.out)).mono ?_; rintro e w' ⟨rfl, rfl⟩) | (go_at_call 23; refine (C2.out _).mono ?_; rintro e w' ⟨rfl, hb⟩)))
  go_wp2
  go_ret2
  exact ⟨rfl, ((Below.refl _ _).drew).trans hb⟩

set_option maxHeartbeats 400000 in
theorem suns_no (s : ByteArray) (h : s.size < 4 ∨ 20004 < s.size) (hs : s.size ≤ 1048576) (w : World) :
    Calls Tryd.prog 18 #[.string s] w fun e w' => e = .returned (.tuple #[.string ⟨#[]⟩, .bool false]) ∧ Below w.heap.size w w' := by
  rcases h with h | h
  · have h1 : (s.size : Int) - 4 < 0 := by omega
    go_enter Tryd.func18, Tryd.ntmps18
    go_wp2_with fail
    go_quiet (fail)
    go_wp2
    go_ret2
    exact ⟨rfl, ⟨rfl, rfl, rfl, Nat.le_refl _, fun _ _ => rfl⟩⟩
  · have h1 : decide ((s.size : Int) - 4 < 0) = false := by simp; omega
    have h2 : (20000 : Int) < (s.size : Int) - 4 := by omega
    go_enter Tryd.func18, Tryd.ntmps18
    go_wp2_with fail
    go_quiet (fail)
    go_wp2
    go_ret2
    exact ⟨rfl, ⟨rfl, rfl, rfl, Nat.le_refl _, fun _ _ => rfl⟩⟩

set_option maxHeartbeats 1000000 in
theorem suns_yes (s : ByteArray) (n : Nat) (hn : s.size = n + 4) (h : n ≤ 20000) (hq : ((s.extract n (n + 4)).toList == (⟨(SM.four (SM.sum 4294967295 (s.extract 0 n).data.toList)).toArray⟩ : ByteArray).toList) = true) (w : World)  :
    Calls Tryd.prog 18 #[.string s] w fun e w' => e = .returned (.tuple #[.string (s.extract 0 n), .bool true]) ∧ Below w.heap.size w w' := by
  have h1 : decide ((n : Int) < 0) = false := by simp
  have h2 : decide ((20000 : Int) < (n : Int)) = false := by simp; omega
  have e1 : (s.size : Int) - 4 = (n : Int) := by omega
  have hp : (s.extract 0 n).size = n := by rw [ByteArray.size_extract]; omega
  have c : ∀ w : World, Calls Tryd.prog 16 #[.string (s.extract 0 n)] w fun e w' => e = .returned (.int .u32 ((SM.sum 4294967295 (s.extract 0 n).data.toList : Nat) : Int)) ∧ w = w' := fun w => ssum16 (s.extract 0 n) (by omega) w
  have hz := SM.sum_lt 4294967295 (s.extract 0 n).data.toList (by omega)
  generalize SM.sum 4294967295 (s.extract 0 n).data.toList = z at *
  have c2 := four26 z hz
  have h4 : ((⟨(SM.four z).toArray⟩ : ByteArray)).size = 4 := rfl
  generalize (⟨(SM.four z).toArray⟩ : ByteArray) = f at *
  have C : Hid (∀ w : World, Calls Tryd.prog 16 #[.string (s.extract 0 n)] w fun e w' => e = .returned (.int .u32 (z : Int)) ∧ w = w') := c
  have C2 : Hid (∀ (w : World), Calls Tryd.prog 26 #[.int .u32 (z : Int)] w fun e w' => e = .returned (.string f) ∧ Below w.heap.size w w') := c2
  clear c c2
  have hn0 : (0 : Int) ≤ (n : Int) := by omega
  have hn1 : (n : Int) ≤ (s.size : Int) := by omega
  have hn2 : (n : Int) ≤ (n : Int) + 4 := by omega
  go_enter Tryd.func18, Tryd.ntmps18
  go_wp2_with fail
  go_region_held3 (fun _ => True) (trivial) ((first | (go_at_call 16; refine (C.out _).mono ?_; rintro e w' ⟨rfl, rfl⟩) | (go_at_call 26; refine (C2.out _).mono ?_; rintro e w' ⟨rfl, hb⟩)))
  go_wp2
  go_ret2
  exact ⟨rfl, ((Below.refl _ _).drew).trans hb⟩

set_option maxHeartbeats 1000000 in
theorem suns_bad (s : ByteArray) (n : Nat) (hn : s.size = n + 4) (h : n ≤ 20000) (hq : ((s.extract n (n + 4)).toList == (⟨(SM.four (SM.sum 4294967295 (s.extract 0 n).data.toList)).toArray⟩ : ByteArray).toList) = false) (w : World)  :
    Calls Tryd.prog 18 #[.string s] w fun e w' => e = .returned (.tuple #[.string ⟨#[]⟩, .bool false]) ∧ Below w.heap.size w w' := by
  have h1 : decide ((n : Int) < 0) = false := by simp
  have h2 : decide ((20000 : Int) < (n : Int)) = false := by simp; omega
  have e1 : (s.size : Int) - 4 = (n : Int) := by omega
  have hp : (s.extract 0 n).size = n := by rw [ByteArray.size_extract]; omega
  have c : ∀ w : World, Calls Tryd.prog 16 #[.string (s.extract 0 n)] w fun e w' => e = .returned (.int .u32 ((SM.sum 4294967295 (s.extract 0 n).data.toList : Nat) : Int)) ∧ w = w' := fun w => ssum16 (s.extract 0 n) (by omega) w
  have hz := SM.sum_lt 4294967295 (s.extract 0 n).data.toList (by omega)
  generalize SM.sum 4294967295 (s.extract 0 n).data.toList = z at *
  have c2 := four26 z hz
  have h4 : ((⟨(SM.four z).toArray⟩ : ByteArray)).size = 4 := rfl
  generalize (⟨(SM.four z).toArray⟩ : ByteArray) = f at *
  have C : Hid (∀ w : World, Calls Tryd.prog 16 #[.string (s.extract 0 n)] w fun e w' => e = .returned (.int .u32 (z : Int)) ∧ w = w') := c
  have C2 : Hid (∀ (w : World), Calls Tryd.prog 26 #[.int .u32 (z : Int)] w fun e w' => e = .returned (.string f) ∧ Below w.heap.size w w') := c2
  clear c c2
  have hn0 : (0 : Int) ≤ (n : Int) := by omega
  have hn1 : (n : Int) ≤ (s.size : Int) := by omega
  have hn2 : (n : Int) ≤ (n : Int) + 4 := by omega
  go_enter Tryd.func18, Tryd.ntmps18
  go_wp2_with fail
  go_region_held3 (fun _ => True) (trivial) ((first | (go_at_call 16; refine (C.out _).mono ?_; rintro e w' ⟨rfl, rfl⟩) | (go_at_call 26; refine (C2.out _).mono ?_; rintro e w' ⟨rfl, hb⟩)))
  go_wp2
  go_ret2
  exact ⟨rfl, ((Below.refl _ _).drew).trans hb⟩

end Go.Proofs.YtojjoekomeamcaaDoor

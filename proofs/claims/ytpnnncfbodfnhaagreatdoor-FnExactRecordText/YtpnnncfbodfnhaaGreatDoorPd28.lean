/- What the methods of a sum on its way do: four halvings by the table, a byte more, the sum's four bytes; and SumMore and SumOf, the program's own and the specification's. -/
import Derived.Test.YtpnnncfbodfnhaaGreatDoorProg
import Derived.Test.YtpnnncfbodfnhaaGreatDoorPd27
import Derived.WalkKit
import Derived.WalkSpells
import Derived.WalkLawsBesides
import Derived.Test.YtpnnncfbodfnhaaGreatDoorPd23
import Derived.Test.YtpnnncfbodfnhaaGreatDoorPd11
import Derived.Laws.BitsAllLaws
import Derived.Lib.LaidTab
import Derived.Lib.Strings
import Derived.WalkMore
import Derived.Test.YtpnnncfbodfnhaaGreatDoorPd03
import Derived.Deep.QuietTactic
import Derived.BigQuiet
import Derived.Deep.RegionHeld3
import Derived.Deep.DrawnRows
namespace Go.Proofs.YtpnnncfbodfnhaaGreatDoor
open Go.RowKit

theorem gTab : Tryz.prog.globalNamed "loop.example/g00327/impl.halfByteSums" = some 0 := by kernel_rfl
def tabZ : List Int := SM.tab.map fun (n : Nat) => (n : Int)
def Tab (w : World) : Prop := Lib.TabIs Tryz.prog w "loop.example/g00327/impl.halfByteSums" .u32 tabZ

theorem Tab.below {w w' : World} (h : Tab w) (hb : Below w.heap.size w w') : Tab w' := by
 have h1 : w.var? Tryz.prog "loop.example/g00327/impl.halfByteSums" = some (tabZ.map fun z => Value.int .u32 z).toArray := h
 show w'.var? Tryz.prog "loop.example/g00327/impl.halfByteSums" = some (tabZ.map fun z => Value.int .u32 z).toArray
 unfold World.var? at h1 ⊢
 rw [gTab] at h1 ⊢
 simp only [Option.bind_some] at h1 ⊢
 have hg : 0 < w.heap.size := by
  cases hh : w.heap[0]? with
  | none => rw [hh] at h1; cases h1
  | some o => exact (Array.getElem?_eq_some_iff.1 hh).1
 rw [hb.block 0 hg]; exact h1

theorem tabZ_at (r : Nat) : tabZ.getD r 0 = ((SM.tab.getD r 0 : Nat) : Int) := by
 unfold tabZ
 rw [List.getD_eq_getElem?_getD, List.getD_eq_getElem?_getD, List.getElem?_map]
 cases SM.tab[r]? <;> rfl
theorem tab_cell {w : World} (h : Tab w) (r : Nat) (hr : r < 16) : w.cell? ⟨0, r, none⟩ = some (.int .u32 ((SM.tab.getD r 0 : Nat) : Int)) := by
 rw [← tabZ_at]
 exact Lib.TabIs.cell h gTab r (by unfold tabZ; rw [List.length_map]; exact hr)

set_option maxHeartbeats 400000 in
theorem four28 (s : Nat) (hs : s < 4294967296) (w : World) (ht : Tab w) :
  Calls Tryz.prog 128 #[.int .u32 (s : Int)] w fun e w' => e = .returned (.int .u32 ((SM.halves 4 s : Nat) : Int)) ∧ w = w' := by
 have hc := tab_cell ht (s % 16) (Nat.mod_lt _ (by omega))
 have hx := u32_xor_nat (s / 16) (SM.tab.getD (s % 16) 0) (by omega) (SM.tab_lt _ (Nat.mod_lt _ (by omega)))
 rw [← SM.four_by_tab] at hx
 generalize SM.tab.getD (s % 16) 0 = z at hc hx
 rw [show ((s / 16 : Nat) : Int) = (s : Int) / 16 by omega] at hx
 clear ht
 go_enter Tryz.func128, Tryz.ntmps128
 go_wp2
 go_ret
 exact ⟨rfl, rfl⟩

set_option maxHeartbeats 400000 in
theorem with25 (s : Nat) (b : UInt8) (hs : s < 4294967296) (w : World) (ht : Tab w) :
  Calls Tryz.prog 118 #[.int .u32 (s : Int), .int .u8 (b.toNat : Int)] w fun e w' => e = .returned (.int .u32 ((SM.step s b : Nat) : Int)) ∧ w = w' := by
 have hb := b.toNat_lt
 have hx := u32_xor_nat s b.toNat hs (by omega)
 have T : Hid (Tab w) := ht
 have h1 := SM.xor_lt s b.toNat hs (by omega)
 have h2 := SM.halves_lt 4 _ h1
 have e : SM.step s b = SM.halves 4 (SM.halves 4 (s ^^^ b.toNat)) := rfl
 rw [e]
 clear ht e
 generalize s ^^^ b.toNat = x at *
 have c28 := four28 x h1 w T.out
 generalize SM.halves 4 x = y at *
 go_enter Tryz.func118, Tryz.ntmps118
 go_wp2_with fail
 refine c28.mono ?_
 rintro e w' ⟨rfl, rfl⟩
 clear c28
 go_wp2_with fail
 refine (four28 y h2 _ T.out).mono ?_
 rintro e w' ⟨rfl, rfl⟩
 go_wp2
 go_ret
 exact ⟨rfl, rfl⟩

theorem fourCells (s : Nat) (hs : s < 4294967296) : #[Value.int .u8 ((s : Int) / 16777216), Value.int .u8 ((s : Int) / 65536 % 256), Value.int .u8 ((s : Int) / 256 % 256), Value.int .u8 ((s : Int) % 256)].toList = bv (SM.four s) := by
 have h1 : ((s : Int) / 16777216) = ((UInt8.ofNat (s / 16777216)).toNat : Int) := by simp only [UInt8.toNat_ofNat']; omega
 have h2 : ((s : Int) / 65536 % 256) = ((UInt8.ofNat (s / 65536 % 256)).toNat : Int) := by simp only [UInt8.toNat_ofNat']; omega
 have h3 : ((s : Int) / 256 % 256) = ((UInt8.ofNat (s / 256 % 256)).toNat : Int) := by simp only [UInt8.toNat_ofNat']; omega
 have h4 : ((s : Int) % 256) = ((UInt8.ofNat (s % 256)).toNat : Int) := by simp only [UInt8.toNat_ofNat']; omega
 rw [h1, h2, h3, h4]
 rfl

theorem fourStr (s : Nat) (hs : s < 4294967296) (w : World) :
  (convert 55 9 (.slice (some ⟨w.heap.size, 0, none⟩) 4 4)).run Tryz.prog (w.alloc (.cells #[Value.int .u8 ((s : Int) / 16777216), Value.int .u8 ((s : Int) / 65536 % 256), Value.int .u8 ((s : Int) / 256 % 256), Value.int .u8 ((s : Int) % 256)] 5))
   = .ok (.string ⟨(SM.four s).toArray⟩) (w.alloc (.cells #[Value.int .u8 ((s : Int) / 16777216), Value.int .u8 ((s : Int) / 65536 % 256), Value.int .u8 ((s : Int) / 256 % 256), Value.int .u8 ((s : Int) % 256)] 5)) := by
 have hc := fourCells s hs
 generalize #[Value.int .u8 ((s : Int) / 16777216), Value.int .u8 ((s : Int) / 65536 % 256), Value.int .u8 ((s : Int) / 256 % 256), Value.int .u8 ((s : Int) % 256)] = cs at hc
 refine run_convert_bytes_back (P := Tryz.prog) _ 55 9 5 ⟨w.heap.size, 0, none⟩ 4 (SM.four s) Tryz.underlying55 Tryz.underlying5 Tryz.underlying9 ?_
 intro j hj
 have hm : (w.alloc (.cells cs 5)).cell? ⟨w.heap.size, j, none⟩ = cs[j]? := World.cell?_alloc_mark w cs 5 (0, 0) j
 rw [Addr.add_lit, Nat.zero_add, hm, ← Array.getElem?_toList, hc]
 simp [bv, hj]

set_option maxHeartbeats 400000 in
theorem text23 (s : Nat) (hs : s < 4294967296) (w : World) :
  Calls Tryz.prog 66 #[.int .u32 (s : Int)] w fun e w' => e = .returned (.string ⟨(SM.four s).toArray⟩) ∧ Below w.heap.size w w' := by
 have hst := fourStr s hs w
 go_enter Tryz.func66, Tryz.ntmps66
 go_wp2
 go_ret
 exact ⟨rfl, (Below.refl _ _).alloc (Nat.le_refl _) _⟩

set_option maxHeartbeats 400000 in
theorem four26 (s : Nat) (hs : s < 4294967296) (w : World) :
  Calls Tryz.prog 53 #[.int .u32 (s : Int)] w fun e w' => e = .returned (.string ⟨(SM.four s).toArray⟩) ∧ Below w.heap.size w w' := by
 have hst := fourStr s hs w
 go_enter Tryz.func53, Tryz.ntmps53
 go_wp2
 go_ret
 exact ⟨rfl, (Below.refl _ _).alloc (Nat.le_refl _) _⟩

theorem at_byte (s : ByteArray) (k : Nat) (h : k < s.size) : s.data.toList[k]? = some s[k] := by
 rw [Array.getElem?_toList, Array.getElem?_eq_getElem h]; rfl
theorem sum_take (x : Nat) (s : ByteArray) (k : Nat) (h : k < s.size) : SM.sum x (s.data.toList.take (k + 1)) = SM.step (SM.sum x (s.data.toList.take k)) s[k] := by
 rw [List.take_add_one, at_byte s k h]
 exact SM.sum_snoc _ _ _
theorem sum_all (x : Nat) (s : ByteArray) (k : Nat) (h : s.size ≤ k) : SM.sum x (s.data.toList.take k) = SM.sum x s.data.toList := by
 rw [List.take_of_length_le (by rw [Array.length_toList]; exact h)]

set_option maxHeartbeats 400000 in
theorem isum13 (x : Nat) (s : ByteArray) (hx : x < 4294967296) (hs : s.size ≤ 1048576) (w : World) (ht : Tab w) :
  Calls Tryz.prog 101 #[.int .u32 (x : Int), .string s] w fun e w' => e = .returned (.int .u32 ((SM.sum x s.data.toList : Nat) : Int)) ∧ w = w' := by
 have T : Hid (Tab w) := ht
 clear ht
 go_enter Tryz.func101, Tryz.ntmps101
 go_wp2
 go_loop [5, 6] (fun t5 t6 => ∃ (k y : Nat), k ≤ s.size ∧ Hid (y = SM.sum x (s.data.toList.take k)) ∧ t6 = .int .i64 (k : Int) ∧ t5 = .int .u32 (y : Int)) (fun _ t6 => s.size - (intOf t6).toNat)
 case atStart => exact ⟨0, x, Nat.zero_le _, (by show _ = _; rfl), rfl, rfl⟩
 case round =>
  obtain ⟨k, y, hk, HY, rfl, rfl⟩ := hrel
  have hy : y < 4294967296 := by rw [HY.out]; exact SM.sum_lt _ _ hx
  by_cases hlt : k < s.size
  ·have hlt' : (k : Int) < (s.size : Int) := by omega
   have h0 : (0 : Int) ≤ (k : Int) := by omega
   have c25 := with25 y s[k] hy w T.out
   have HZ : Hid (SM.step y s[k] = SM.sum x (s.data.toList.take (k + 1))) := by show _ = _; rw [sum_take x s k hlt, HY.out]
   generalize SM.step y s[k] = z at *
   go_wp2_with fail
   refine c25.mono ?_
   rintro e w' ⟨rfl, rfl⟩
   clear c25
   go_wp2
   go_round
   case rel => exact ⟨k + 1, z, by omega, HZ, by go_num, rfl⟩
   case measure => simp [intOf]; omega
  ·have hlt' : ¬ (k : Int) < (s.size : Int) := by omega
   have HZ : Hid (y = SM.sum x s.data.toList) := by show _ = _; rw [HY.out]; exact sum_all x s k (by omega)
   go_wp2
   go_ret
   exact ⟨by rw [← HZ.out]; rfl, rfl⟩

theorem half_odd (y : Nat) (h : y % 2 = 1) : SM.half y = y / 2 ^^^ 3558460437 := by unfold SM.half; rw [if_pos h]
theorem half_even (y : Nat) (h : ¬ y % 2 = 1) : SM.half y = y / 2 := by unfold SM.half; rw [if_neg h]
theorem halves_more (j y : Nat) (h : j < 8) : SM.halves (8 - (j + 1)) (SM.half y) = SM.halves (8 - j) y := by
 rw [show 8 - j = (8 - (j + 1)) + 1 by omega]; rfl

set_option maxHeartbeats 1000000 in
theorem ssum15 (x : Nat) (s : ByteArray) (hx : x < 4294967296) (hs : s.size ≤ 1048576) (w : World) :
  Calls Tryz.prog 96 #[.int .u32 (x : Int), .string s] w fun e w' => e = .returned (.int .u32 ((SM.sum x s.data.toList : Nat) : Int)) ∧ w = w' := by
 go_enter Tryz.func96, Tryz.ntmps96
 go_wp2
 go_loop [0, 5] (fun t0 t5 => ∃ (k y : Nat), k ≤ s.size ∧ Hid (y = SM.sum x (s.data.toList.take k)) ∧ t5 = .int .i64 (k : Int) ∧ t0 = .int .u32 (y : Int)) (fun _ t5 => s.size - (intOf t5).toNat)
 case atStart => exact ⟨0, x, Nat.zero_le _, (by show _ = _; rfl), rfl, rfl⟩
 case round =>
  obtain ⟨k, y, hk, HY, rfl, rfl⟩ := hrel
  have hy : y < 4294967296 := by rw [HY.out]; exact SM.sum_lt _ _ hx
  by_cases hlt : k < s.size
  ·have hlt' : (k : Int) < (s.size : Int) := by omega
   have h0 : (0 : Int) ≤ (k : Int) := by omega
   have hb := s[k].toNat_lt
   have hxor := u32_xor_nat y s[k].toNat hy (by omega)
   have h1 := SM.xor_lt y s[k].toNat hy (by omega)
   have HZ : Hid (SM.halves 8 (y ^^^ s[k].toNat) = SM.sum x (s.data.toList.take (k + 1))) := by show _ = _; rw [sum_take x s k hlt, HY.out]; rfl
   generalize y ^^^ s[k].toNat = z at *
   go_wp2
   go_loop [0, 6] (fun t0 t6 => ∃ (j u : Nat), j ≤ 8 ∧ u < 4294967296 ∧ Hid (SM.halves (8 - j) u = SM.sum x (s.data.toList.take (k + 1))) ∧ t6 = .int .i64 (j : Int) ∧ t0 = .int .u32 (u : Int)) (fun _ t6 => 8 - (intOf t6).toNat)
   case atStart => exact ⟨0, z, by omega, h1, HZ, rfl, rfl⟩
   case round =>
    obtain ⟨j, u, hj, hu, HU, rfl, rfl⟩ := hrel
    by_cases hlj : j < 8
    ·have hlj' : (j : Int) < 8 := by omega
     have HN : Hid (SM.halves (8 - (j + 1)) (SM.half u) = SM.sum x (s.data.toList.take (k + 1))) := by show _ = _; rw [halves_more j u hlj]; exact HU.out
     have hn := SM.half_lt u hu
     by_cases ho : u % 2 = 1
     ·have ho' : ((u : Int) % 2 == 1) = true := by rw [beq_iff_eq]; omega
      have hxo := u32_xor_nat (u / 2) 3558460437 (by omega) (by omega)
      rw [← half_odd u ho, show ((u / 2 : Nat) : Int) = (u : Int) / 2 by omega, show ((3558460437 : Nat) : Int) = 3558460437 from rfl] at hxo
      generalize SM.half u = v at *
      go_wp2
      go_round
      case rel => exact ⟨j + 1, v, by omega, hn, HN, by go_num, rfl⟩
      case measure => simp [intOf]; omega
     ·have ho' : ((u : Int) % 2 == 1) = false := by rw [beq_eq_false_iff_ne]; omega
      rw [half_even u ho] at hn HN
      go_wp2
      go_round
      case rel => exact ⟨j + 1, u / 2, by omega, hn, HN, by go_num, by go_num⟩
      case measure => simp [intOf]; omega
    ·have hlj' : ¬ (j : Int) < 8 := by omega
     have HE : Hid (u = SM.sum x (s.data.toList.take (k + 1))) := by
      have := HU.out
      rw [show 8 - j = 0 by omega] at this
      exact this
     go_wp2
     go_round
     case rel => exact ⟨k + 1, u, by omega, HE, by go_num, rfl⟩
     case measure => simp [intOf]; omega
  ·have hlt' : ¬ (k : Int) < (s.size : Int) := by omega
   have HZ : Hid (y = SM.sum x s.data.toList) := by show _ = _; rw [HY.out]; exact sum_all x s k (by omega)
   go_wp2
   go_ret
   exact ⟨by rw [← HZ.out]; rfl, rfl⟩

set_option maxHeartbeats 400000 in
theorem isum14 (s : ByteArray) (hs : s.size ≤ 1048576) (w : World) (ht : Tab w) :
  Calls Tryz.prog 65 #[.string s] w fun e w' => e = .returned (.int .u32 ((SM.sum 4294967295 s.data.toList : Nat) : Int)) ∧ w = w' := by
 have c := isum13 4294967295 s (by omega) hs w ht
 clear ht
 generalize SM.sum 4294967295 s.data.toList = z at *
 go_enter Tryz.func65, Tryz.ntmps65
 go_wp2_with fail
 refine c.mono ?_
 rintro e w' ⟨rfl, rfl⟩
 clear c
 go_wp2
 go_ret
 exact ⟨rfl, rfl⟩

set_option maxHeartbeats 400000 in
theorem ssum16 (s : ByteArray) (hs : s.size ≤ 1048576) (w : World) :
  Calls Tryz.prog 54 #[.string s] w fun e w' => e = .returned (.int .u32 ((SM.sum 4294967295 s.data.toList : Nat) : Int)) ∧ w = w' := by
 have c := ssum15 4294967295 s (by omega) hs w
 generalize SM.sum 4294967295 s.data.toList = z at *
 go_enter Tryz.func54, Tryz.ntmps54
 go_wp2_with fail
 refine c.mono ?_
 rintro e w' ⟨rfl, rfl⟩
 clear c
 go_wp2
 go_ret
 exact ⟨rfl, rfl⟩
end Go.Proofs.YtpnnncfbodfnhaaGreatDoor

namespace Go.Proofs.YtpnnncfbodfnhaaGreatDoor
open Go.RowKit
attribute [local go_sem ↓] Go.wp_at_zero Go.wp_at_succ

def sealB (s : ByteArray) : ByteArray := s ++ ⟨(SM.four (SM.sum 4294967295 s.data.toList)).toArray⟩

set_option maxHeartbeats 400000 in
theorem iseal_yes (s : ByteArray) (h : s.size ≤ 20000) (w : World) (ht : Tab w) :
  Calls Tryz.prog 26 #[.string s] w fun e w' => e = .returned (.tuple #[.string (sealB s), .bool true]) ∧ Below w.heap.size w w' := by
 have c := isum14 s (by omega) w ht
 have hz := SM.sum_lt 4294967295 s.data.toList (by omega)
 unfold sealB
 clear ht
 generalize SM.sum 4294967295 s.data.toList = z at *
 have c2 := text23 z hz w
 have h4 : ((⟨(SM.four z).toArray⟩ : ByteArray)).size = 4 := rfl
 generalize (⟨(SM.four z).toArray⟩ : ByteArray) = f at *
 go_enter Tryz.func26, Tryz.ntmps26
 go_wp2_with fail
 refine c.mono ?_
 rintro e w' ⟨rfl, rfl⟩
 clear c
 go_wp2_with fail
 refine c2.mono ?_
 rintro e w2 ⟨rfl, hb⟩
 clear c2
 go_wp2
 go_ret2
 exact ⟨rfl, hb⟩

set_option maxHeartbeats 400000 in
theorem sseal_yes (s : ByteArray) (h : s.size ≤ 20000) (w : World) :
  Calls Tryz.prog 17 #[.string s] w fun e w' => e = .returned (.tuple #[.string (sealB s), .bool true]) ∧ Below w.heap.size w w' := by
 have c := ssum16 s (by omega) w
 have hz := SM.sum_lt 4294967295 s.data.toList (by omega)
 unfold sealB
 generalize SM.sum 4294967295 s.data.toList = z at *
 have c2 := four26 z hz w
 have h4 : ((⟨(SM.four z).toArray⟩ : ByteArray)).size = 4 := rfl
 generalize (⟨(SM.four z).toArray⟩ : ByteArray) = f at *
 go_enter Tryz.func17, Tryz.ntmps17
 go_wp2_with fail
 refine c.mono ?_
 rintro e w' ⟨rfl, rfl⟩
 clear c
 go_wp2_with fail
 refine c2.mono ?_
 rintro e w2 ⟨rfl, hb⟩
 clear c2
 go_wp2
 go_ret2
 exact ⟨rfl, hb⟩

end Go.Proofs.YtpnnncfbodfnhaaGreatDoor

/-
  DERIVED: THE SHELF's CONTRACTS AT THIS DUMP, IN PLAIN WORDS (tools/lay-plain.mjs out of 'TryShelf.lean', which tools/lay-shelf.mjs wrote): THE SAME DECLARATIONS UNDER THE SAME NAMES: 'import', 'namespace', 'open', 'def', 'theorem' AND NOTHING ELSE: no command of the shelf's: FOR A HAND-IN. Each laying: the table of numbers ('.._ren') and one theorem, a field a fact of the dump's own or the kernel's comparison; each contract: ONE APPLICATION.
-/
import Derived.Shelf.Strings.Builder1
import Derived.Shelf.Strings.BuilderF
import Derived.Shelf.Strings.BuilderK
import Derived.Shelf.LaysM
import Derived.Shelf.Strconv.Clone
import Derived.Test.YtnfkfhpmhhmbaaaProg
import Derived.Test.YtnfkfhpmhhmbaaaPb01
namespace Go.Proofs
open Go.Shelf
def Try.lays169_ren : Go.Shelf.Ren := ⟨fun | 169 => 95 | n => n, fun | 70 => 97 | 9 => 9 | 0 => 0 | 72 => 99 | 37 => 70 | 127 => 105 | 3 => 3 | 5 => 5 | n => n, fun | n => n⟩
theorem Try.lays169 : Go.Proofs.Lays.n169 Try.prog Try.lays169_ren := {
  mixed := by kernel_rfl
  f169 := Try.func95.trans (congrArg some (by kernel_rfl))
  t0 := Try.underlying0
  a0 := Try.isAgg0
  z0 := Try.sizeOf0
  v0 := Try.zeroValue0
  t3 := Try.underlying3
  a3 := Try.isAgg3
  z3 := Try.sizeOf3
  v3 := Try.zeroValue3
  t9 := Try.underlying9
  a9 := Try.isAgg9
  z9 := Try.sizeOf9
  v9 := Try.zeroValue9
  t37 := Try.underlying70
  a37 := Try.isAgg70
  z37 := Try.sizeOf70
  v37 := Try.zeroValue70
  t70 := Try.underlying97
  a70 := Try.isAgg97
  z70 := Try.sizeOf97
  v70 := Try.zeroValue97
  t72 := Try.underlying99
  a72 := Try.isAgg99
  z72 := Try.sizeOf99
  v72 := Try.zeroValue99
  t127 := Try.underlying105
  a127 := Try.isAgg105
  z127 := Try.sizeOf105
  v127 := Try.zeroValue105 }
theorem Try.Builder_Extra_169 : Builder.Extra Try.prog Try.lays169_ren := {
  sizeBuilder := by kernel_rfl
  liesBuilder := by kernel_rfl
  t5 := Try.underlying5
  a5 := Try.isAgg5
  z5 := Try.sizeOf5
  v5 := Try.zeroValue5
  infoByte := by kernel_rfl
  cellsByte := by kernel_rfl
  sizeByte := by kernel_rfl
  neB5 := by decide }
open Go.RowKit in
open Go.RowKit in
open Go.RowKit in
theorem Try.Builder_String_any (B b : Nat) (l : List UInt8) (w : World) (h : Lib.IsBuilder 99 5 B b (Lib.byteCells l) w) (hBw : B ≤ w.heap.size) :
    Calls Try.prog 95 #[.pointer (some ⟨b, 0, none⟩)] w fun e w' => e = .returned (.string ⟨l.toArray⟩) ∧ Below B w w' := Any.Builder_String_any Try.lays169 Try.Builder_Extra_169 B b l w h hBw
open Go.RowKit in
open Go.RowKit in
open Go.RowKit in
open Go.RowKit in
open Go.RowKit in
open Go.RowKit in
def Try.laysM316_ren : Go.Shelf.Ren := ⟨fun | 316 => 97 | n => n, fun | 9 => 9 | 3 => 3 | 4 => 4 | 37 => 70 | 0 => 0 | 127 => 105 | 5 => 5 | n => n, fun | n => n⟩
theorem Try.laysM316 : Go.Proofs.LaysM.n316 Try.prog Try.laysM316_ren := {
  mixed := by kernel_rfl
  f316 := Try.func97.trans (congrArg some (by kernel_rfl))
  t0 := Try.underlying0
  a0 := Try.isAgg0
  z0 := Try.sizeOf0
  v0 := Try.zeroValue0
  t3 := Try.underlying3
  a3 := Try.isAgg3
  z3 := Try.sizeOf3
  v3 := Try.zeroValue3
  t4 := Try.underlying4
  a4 := Try.isAgg4
  z4 := Try.sizeOf4
  v4 := Try.zeroValue4
  t9 := Try.underlying9
  a9 := Try.isAgg9
  z9 := Try.sizeOf9
  v9 := Try.zeroValue9
  t37 := Try.underlying70
  a37 := Try.isAgg70
  z37 := Try.sizeOf70
  v37 := Try.zeroValue70
  t127 := Try.underlying105
  a127 := Try.isAgg105
  z127 := Try.sizeOf105
  v127 := Try.zeroValue105
  t5 := Try.underlying5
  a5 := Try.isAgg5
  z5 := Try.sizeOf5
  v5 := Try.zeroValue5
  i0 := by kernel_rfl
  i3 := by kernel_rfl
  i4 := by kernel_rfl
  i5 := by kernel_rfl
  i9 := by kernel_rfl
  i37 := by kernel_rfl
  i127 := by kernel_rfl }
open Go.RowKit in
theorem Try.stringslite_Clone (s : ByteArray) (w : World) (hlim : s.size ≤ 281474976710656) :
    Calls Try.prog 97 #[.string s] w fun e w' => e = .returned (.string s) ∧ Below w.heap.size w w' := Any.stringslite_Clone Try.laysM316 s w hlim
end Go.Proofs

namespace Go.Proofs.Ytnfkfhpmhhmbaaa
open Go.RowKit
open DM
attribute [local go_sem ↓] Go.wp_at_zero Go.wp_at_succ

set_option maxHeartbeats 400000 in
theorem clone54 (s : ByteArray) (hs : s.size ≤ 281474976710656) (w : World) :
    Calls Try.prog 91 #[.string s] w fun e w' => e = .returned (.string s) ∧ Below w.heap.size w w' := by
  go_enter Try.func91, Try.ntmps91
  go_wp2_with (go_at_call 97; refine (Try.stringslite_Clone s _ hs).mono ?_; rintro e w2 ⟨rfl, hb2⟩)
  go_ret
  exact ⟨rfl, hb2⟩

theorem ret_sb {s t : ByteArray} {b : Bool} (h : s = t) : Ending.returned (.tuple #[.string s, .bool b]) = .returned (.tuple #[.string t, .bool b]) := by rw [h]

theorem getD_at {ss : List ByteArray} {n : Nat} (h : n < ss.length) : ss.getD n ByteArray.empty = ss[n] := by simp [h]

set_option maxHeartbeats 1000000 in
theorem srd20_no (ss : List ByteArray) (ps : List Wr) (at' : Int) (a1 a2 : Option Addr) (c1 c2 : Nat) (hn : ss.length ≤ 100000000) (hh : hasB at' ss.length = false) (w : World) :
    Calls Try.prog 79 #[.agg #[.slice a1 ss.length c1, .slice a2 ps.length c2], .int .i64 at'] w fun e w' => e = .returned (.tuple #[.string ⟨#[]⟩, .bool false]) ∧ Below w.heap.size w w' := by
  have HI : Hid (decide ((0 : Int) ≤ at' ∧ at' ≤ (ss.length : Int) - 1) = false) := by
    show _ = _
    simp only [hasB, decide_eq_false_iff_not] at hh ⊢
    omega
  clear hh
  go_enter Try.func79, Try.ntmps79
  go_wp2_with (go_at_call 59; refine (in57 _ _ _ false HI.out _).mono ?_; rintro e w2 ⟨rfl, rfl⟩)
  go_ret2
  exact ⟨rfl, (belowRefl w).alloc (Nat.le_refl _) _⟩

set_option maxHeartbeats 1000000 in
theorem ird21_no (ss : List ByteArray) (ps : List Wr) (at' : Int) (a1 a2 : Option Addr) (c1 c2 : Nat) (hh : hasB at' ss.length = false) (w : World) :
    Calls Try.prog 83 #[.agg #[.slice a1 ss.length c1, .slice a2 ps.length c2], .int .i64 at'] w fun e w' => e = .returned (.tuple #[.string ⟨#[]⟩, .bool false]) ∧ Below w.heap.size w w' := by
  have HH : Hid (hasB at' ss.length = false) := hh
  clear hh
  go_enter Try.func83, Try.ntmps83
  go_wp2_with (go_at_call 87; refine (has58 _ _ _ _ _ false HH.out _).mono ?_; rintro e w2 ⟨rfl, hb2⟩)
  go_ret2
  exact ⟨rfl, ((belowRefl w).alloc (Nat.le_refl _) _).trans (hb2.mono (by simp))⟩

set_option maxRecDepth 100000 in
set_option maxHeartbeats 1000000 in
theorem srd20 (ss : List ByteArray) (ps : List Wr) (at' : Int) (a1 a2 : Option Addr) (c1 c2 : Nat) (hn : ss.length ≤ 100000000) (hm : ps.length ≤ 100000000) (hh : hasB at' ss.length = true) (w : World) (hs : SRow w a1 ss) (hp : PRow w a2 ps) :
    Calls Try.prog 79 #[.agg #[.slice a1 ss.length c1, .slice a2 ps.length c2], .int .i64 at'] w fun e w' => e = .returned (.tuple #[.string (rd ss ps at'), .bool true]) ∧ Below w.heap.size w w' := by
  have HS : Hid (SRow w a1 ss) := hs
  have HP : Hid (PRow w a2 ps) := hp
  have hat := hasB_iff.1 hh
  have HI : Hid (decide ((0 : Int) ≤ at' ∧ at' ≤ (ss.length : Int) - 1) = true) := by show _ = _; simp; omega
  obtain ⟨n, rfl⟩ := Int.eq_ofNat_of_zero_le hat.1
  clear hs hp hh
  go_enter Try.func79, Try.ntmps79
  go_wp2_with (go_at_call 59; refine (in57 _ _ _ true HI.out _).mono ?_; rintro e w2 ⟨rfl, rfl⟩)
  go_loop [6] (fun t => ∃ k : Nat, k ≤ ps.length ∧ t = .int .i64 ((k : Int) - 1) ∧ Hid (back ps n ps.length = back ps n k)) (fun t => (intOf t + 1).toNat)
  case atStart => exact ⟨ps.length, Nat.le_refl _, rfl, rfl⟩
  case round =>
    obtain ⟨k, hk, rfl, HE⟩ := hrel
    by_cases h0 : 0 < k
    · obtain ⟨k, rfl⟩ : ∃ j, k = j + 1 := ⟨k - 1, by omega⟩
      have ek : ((k + 1 : Nat) : Int) - 1 = (k : Int) := by omega
      rw [ek]
      have hk0 : (0 : Int) ≤ (k : Int) := by omega
      have hlt' : (k : Int) < (ps.length : Int) := by omega
      have hlt : k < ps.length := by omega
      obtain ⟨b, off, rfl, hbl, hc⟩ := (HP.out.below ((belowRefl w).alloc (Nat.le_refl _) (.cells #[.slice a1 ss.length c1, .slice a2 ps.length c2] 30))) (by omega)
      have hck := (hc k hlt).1
      have hcl := (hc k hlt).2
      clear hc ek
      by_cases he : ps[k].1 = (n : Int)
      · have he' : (ps[k].1 == (n : Int)) = true := by simpa using he
        have HR : Hid (ps[k].2 = rd ss ps n) := (rd_hit hlt he HE.out).symm
        clear he
        go_wp2
        go_ret2
        exact ⟨ret_sb HR.out, (belowRefl w).alloc (Nat.le_refl _) _⟩
      · have he' : (ps[k].1 == (n : Int)) = false := by simpa using he
        have HE2 : Hid (back ps n ps.length = back ps n k) := HE.out.trans (back_miss hlt he)
        clear he
        go_wp2
        go_round
        case rel => exact ⟨k, by omega, rfl, HE2⟩
        case measure => simp [intOf]
    · obtain rfl : k = 0 := by omega
      have HR : Hid (ss.getD n ByteArray.empty = rd ss ps n) := (rd_base HE.out).symm
      have hnl : n < ss.length := by omega
      obtain ⟨b, off, rfl, hbl, hc⟩ := (HS.out.below ((belowRefl w).alloc (Nat.le_refl _) (.cells #[.slice a1 ss.length c1, .slice a2 ps.length c2] 30))) (by omega)
      have hck := hc n hnl
      have HR2 : Hid (ss[n] = rd ss ps n) := (getD_at hnl).symm.trans HR.out
      clear hc
      go_wp2
      go_ret2
      exact ⟨ret_sb HR2.out, (belowRefl w).alloc (Nat.le_refl _) _⟩

set_option maxRecDepth 100000 in
set_option maxHeartbeats 1000000 in
theorem ird21 (ss : List ByteArray) (ps : List Wr) (at' : Int) (a1 a2 : Option Addr) (c1 c2 : Nat) (hn : ss.length ≤ 100000000) (hm : ps.length ≤ 100000000) (hls : ∀ s ∈ ss, s.size ≤ 1000000000) (hlp : ∀ p ∈ ps, p.2.size ≤ 1000000000) (hh : hasB at' ss.length = true) (w : World) (hs : SRow w a1 ss) (hp : PRow w a2 ps) :
    Calls Try.prog 83 #[.agg #[.slice a1 ss.length c1, .slice a2 ps.length c2], .int .i64 at'] w fun e w' => e = .returned (.tuple #[.string (rd ss ps at'), .bool true]) ∧ Below w.heap.size w w' := by
  have HS : Hid (SRow w a1 ss) := hs
  have HP : Hid (PRow w a2 ps) := hp
  have HH : Hid (hasB at' ss.length = true) := hh
  have hat := hasB_iff.1 hh
  obtain ⟨n, rfl⟩ := Int.eq_ofNat_of_zero_le hat.1
  clear hs hp hh
  go_enter Try.func83, Try.ntmps83
  go_wp2_with (go_at_call 87; refine (has58 _ _ _ _ _ true HH.out _).mono ?_; rintro e w2 ⟨rfl, hb2⟩; obtain ⟨hc2, hf2⟩ := bcell hb2)
  have hbw : Below w.heap.size w w2 := ((belowRefl w).alloc (Nat.le_refl _) _).trans (hb2.mono (by simp))
  have HBW : Hid (Below w.heap.size w w2) := hbw
  have g0 : w2.cell? ⟨w.heap.size, 0, none⟩ = some (.slice a1 ss.length c1) := by rw [hc2 _ _ (by simp)]; simp [go_sem]
  have g1 : w2.cell? ⟨w.heap.size, 1, none⟩ = some (.slice a2 ps.length c2) := by rw [hc2 _ _ (by simp)]; simp [go_sem]
  clear hc2 hf2 hbw
  go_loop [6] (fun t => ∃ k : Nat, k ≤ ps.length ∧ t = .int .i64 ((k : Int) - 1) ∧ Hid (back ps n ps.length = back ps n k)) (fun t => (intOf t + 1).toNat)
  case atStart => exact ⟨ps.length, Nat.le_refl _, rfl, rfl⟩
  case round =>
    obtain ⟨k, hk, rfl, HE⟩ := hrel
    by_cases h0 : 0 < k
    · obtain ⟨k, rfl⟩ : ∃ j, k = j + 1 := ⟨k - 1, by omega⟩
      have ek : ((k + 1 : Nat) : Int) - 1 = (k : Int) := by omega
      rw [ek]
      have hk0 : (0 : Int) ≤ (k : Int) := by omega
      have hlt' : (k : Int) < (ps.length : Int) := by omega
      have hlt : k < ps.length := by omega
      obtain ⟨b, off, rfl, hbl, hc⟩ := (HP.out.below HBW.out) (by omega)
      have hck := (hc k hlt).1
      have hcl := (hc k hlt).2
      clear hc ek
      by_cases he : ps[k].1 = (n : Int)
      · have he' : (ps[k].1 == (n : Int)) = true := by simpa using he
        have HR : Hid (ps[k].2 = rd ss ps n) := (rd_hit hlt he HE.out).symm
        have HZ : Hid (ps[k].2.size ≤ 281474976710656) := Nat.le_trans (hlp _ (List.getElem_mem hlt)) (by omega)
        clear he
        go_wp2_with (go_at_call 91; refine (clone54 _ HZ.out _).mono ?_; rintro e w3 ⟨rfl, hb3⟩)
        go_ret2
        exact ⟨ret_sb HR.out, HBW.out.trans (hb3.mono HBW.out.size)⟩
      · have he' : (ps[k].1 == (n : Int)) = false := by simpa using he
        have HE2 : Hid (back ps n ps.length = back ps n k) := HE.out.trans (back_miss hlt he)
        clear he
        go_wp2
        go_round
        case rel => exact ⟨k, by omega, rfl, HE2⟩
        case measure => simp [intOf]
    · obtain rfl : k = 0 := by omega
      have HR : Hid (ss.getD n ByteArray.empty = rd ss ps n) := (rd_base HE.out).symm
      have hnl : n < ss.length := by omega
      obtain ⟨b, off, rfl, hbl, hc⟩ := (HS.out.below HBW.out) (by omega)
      have hck := hc n hnl
      have HR2 : Hid (ss[n] = rd ss ps n) := (getD_at hnl).symm.trans HR.out
      have HZ : Hid (ss[n].size ≤ 281474976710656) := Nat.le_trans (hls _ (List.getElem_mem hnl)) (by omega)
      clear hc
      go_wp2_with (go_at_call 91; refine (clone54 _ HZ.out _).mono ?_; rintro e w3 ⟨rfl, hb3⟩)
      go_ret2
      exact ⟨ret_sb HR2.out, HBW.out.trans (hb3.mono HBW.out.size)⟩
end Go.Proofs.Ytnfkfhpmhhmbaaa

/-
  DERIVED: THE SHELF's CONTRACTS AT THIS DUMP, IN PLAIN WORDS (tools/lay-plain.mjs out of 'YtekjpoenbcnhdaaShelf.lean', which tools/lay-shelf.mjs wrote): THE SAME DECLARATIONS UNDER THE SAME NAMES: 'import', 'namespace', 'open', 'def', 'theorem' AND NOTHING ELSE: no command of the shelf's: FOR A HAND-IN. Each laying: the table of numbers ('.._ren') and one theorem, a field a fact of the dump's own or the kernel's comparison; each contract: ONE APPLICATION.
-/
import Derived.Shelf.Strings.Builder1
import Derived.Shelf.Strings.BuilderF
import Derived.Shelf.Strings.BuilderK
import Derived.Shelf.LaysM
import Derived.Shelf.Strconv.Clone
import Derived.Test.YtekjpoenbcnhdaaProg
import Derived.Test.YtekjpoenbcnhdaaPb01
namespace Go.Proofs
open Go.Shelf
def Try.lays169_ren : Go.Shelf.Ren := ⟨fun | 169 => 88 | n => n, fun | 70 => 97 | 9 => 9 | 0 => 0 | 72 => 99 | 37 => 22 | 127 => 105 | 3 => 3 | 5 => 5 | n => n, fun | n => n⟩
theorem Try.lays169 : Go.Proofs.Lays.n169 Try.prog Try.lays169_ren := {
  mixed := by kernel_rfl
  f169 := Try.func88.trans (congrArg some (by kernel_rfl))
  t0 := Try.underlying0
  a0 := Try.isAgg0
  z0 := Try.sizeOf0
  v0 := Try.zeroValue0
  t3 := Try.underlying3
  a3 := Try.isAgg3
  z3 := Try.sizeOf3
  v3 := Try.zeroValue3
  t9 := Try.underlying9
  a9 := Try.isAgg9
  z9 := Try.sizeOf9
  v9 := Try.zeroValue9
  t37 := Try.underlying22
  a37 := Try.isAgg22
  z37 := Try.sizeOf22
  v37 := Try.zeroValue22
  t70 := Try.underlying97
  a70 := Try.isAgg97
  z70 := Try.sizeOf97
  v70 := Try.zeroValue97
  t72 := Try.underlying99
  a72 := Try.isAgg99
  z72 := Try.sizeOf99
  v72 := Try.zeroValue99
  t127 := Try.underlying105
  a127 := Try.isAgg105
  z127 := Try.sizeOf105
  v127 := Try.zeroValue105 }
theorem Try.Builder_Extra_169 : Builder.Extra Try.prog Try.lays169_ren := {
  sizeBuilder := by kernel_rfl
  liesBuilder := by kernel_rfl
  t5 := Try.underlying5
  a5 := Try.isAgg5
  z5 := Try.sizeOf5
  v5 := Try.zeroValue5
  infoByte := by kernel_rfl
  cellsByte := by kernel_rfl
  sizeByte := by kernel_rfl
  neB5 := by decide }
open Go.RowKit in
open Go.RowKit in
open Go.RowKit in
theorem Try.Builder_String_any (B b : Nat) (l : List UInt8) (w : World) (h : Lib.IsBuilder 99 5 B b (Lib.byteCells l) w) (hBw : B ≤ w.heap.size) :
    Calls Try.prog 88 #[.pointer (some ⟨b, 0, none⟩)] w fun e w' => e = .returned (.string ⟨l.toArray⟩) ∧ Below B w w' := Any.Builder_String_any Try.lays169 Try.Builder_Extra_169 B b l w h hBw
open Go.RowKit in
open Go.RowKit in
open Go.RowKit in
open Go.RowKit in
open Go.RowKit in
open Go.RowKit in
def Try.laysM316_ren : Go.Shelf.Ren := ⟨fun | 316 => 90 | n => n, fun | 9 => 9 | 3 => 3 | 4 => 4 | 37 => 22 | 0 => 0 | 127 => 105 | 5 => 5 | n => n, fun | n => n⟩
theorem Try.laysM316 : Go.Proofs.LaysM.n316 Try.prog Try.laysM316_ren := {
  mixed := by kernel_rfl
  f316 := Try.func90.trans (congrArg some (by kernel_rfl))
  t0 := Try.underlying0
  a0 := Try.isAgg0
  z0 := Try.sizeOf0
  v0 := Try.zeroValue0
  t3 := Try.underlying3
  a3 := Try.isAgg3
  z3 := Try.sizeOf3
  v3 := Try.zeroValue3
  t4 := Try.underlying4
  a4 := Try.isAgg4
  z4 := Try.sizeOf4
  v4 := Try.zeroValue4
  t9 := Try.underlying9
  a9 := Try.isAgg9
  z9 := Try.sizeOf9
  v9 := Try.zeroValue9
  t37 := Try.underlying22
  a37 := Try.isAgg22
  z37 := Try.sizeOf22
  v37 := Try.zeroValue22
  t127 := Try.underlying105
  a127 := Try.isAgg105
  z127 := Try.sizeOf105
  v127 := Try.zeroValue105
  t5 := Try.underlying5
  a5 := Try.isAgg5
  z5 := Try.sizeOf5
  v5 := Try.zeroValue5
  i0 := by kernel_rfl
  i3 := by kernel_rfl
  i4 := by kernel_rfl
  i5 := by kernel_rfl
  i9 := by kernel_rfl
  i37 := by kernel_rfl
  i127 := by kernel_rfl }
open Go.RowKit in
theorem Try.stringslite_Clone (s : ByteArray) (w : World) (hlim : s.size ≤ 281474976710656) :
    Calls Try.prog 90 #[.string s] w fun e w' => e = .returned (.string s) ∧ Below w.heap.size w w' := Any.stringslite_Clone Try.laysM316 s w hlim
end Go.Proofs

namespace Go.Proofs.Ytekjpoenbcnhdaa
open Go.RowKit
open DM
attribute [local go_sem ↓] Go.wp_at_zero Go.wp_at_succ

set_option maxHeartbeats 400000 in
theorem clone54 (s : ByteArray) (hs : s.size ≤ 281474976710656) (w : World) :
    Calls Try.prog 83 #[.string s] w fun e w' => e = .returned (.string s) ∧ Below w.heap.size w w' := by
  go_enter Try.func83, Try.ntmps83
  go_wp2_with (go_at_call 90; refine (Try.stringslite_Clone s _ hs).mono ?_; rintro e w2 ⟨rfl, hb2⟩)
  go_ret
  exact ⟨rfl, hb2⟩

theorem ret_sb {s t : ByteArray} {b : Bool} (h : s = t) : Ending.returned (.tuple #[.string s, .bool b]) = .returned (.tuple #[.string t, .bool b]) := by rw [h]

theorem getD_at {ss : List ByteArray} {n : Nat} (h : n < ss.length) : ss.getD n ByteArray.empty = ss[n] := by simp [h]

set_option maxHeartbeats 1000000 in
theorem srd20_no (ss : List ByteArray) (ps : List Wr) (at' : Int) (a1 a2 : Option Addr) (c1 c2 : Nat) (hn : ss.length ≤ 100000000) (hh : hasB at' ss.length = false) (w : World) :
    Calls Try.prog 73 #[.agg #[.slice a1 ss.length c1, .slice a2 ps.length c2], .int .i64 at'] w fun e w' => e = .returned (.tuple #[.string ⟨#[]⟩, .bool false]) ∧ Below w.heap.size w w' := by
  have HI : Hid (decide ((0 : Int) ≤ at' ∧ at' ≤ (ss.length : Int) - 1) = false) := by
    show _ = _
    simp only [hasB, decide_eq_false_iff_not] at hh ⊢
    omega
  clear hh
  go_enter Try.func73, Try.ntmps73
  go_wp2_with (go_at_call 47; refine (in57 _ _ _ false HI.out _).mono ?_; rintro e w2 ⟨rfl, rfl⟩)
  go_ret2
  exact ⟨rfl, (belowRefl w).alloc (Nat.le_refl _) _⟩

set_option maxHeartbeats 1000000 in
theorem ird21_no (ss : List ByteArray) (ps : List Wr) (at' : Int) (a1 a2 : Option Addr) (c1 c2 : Nat) (hh : hasB at' ss.length = false) (w : World) :
    Calls Try.prog 75 #[.agg #[.slice a1 ss.length c1, .slice a2 ps.length c2], .int .i64 at'] w fun e w' => e = .returned (.tuple #[.string ⟨#[]⟩, .bool false]) ∧ Below w.heap.size w w' := by
  have HH : Hid (hasB at' ss.length = false) := hh
  clear hh
  go_enter Try.func75, Try.ntmps75
  go_wp2_with (go_at_call 79; refine (has58 _ _ _ _ _ false HH.out _).mono ?_; rintro e w2 ⟨rfl, hb2⟩)
  go_ret2
  exact ⟨rfl, ((belowRefl w).alloc (Nat.le_refl _) _).trans (hb2.mono (by simp))⟩

set_option maxRecDepth 100000 in
set_option maxHeartbeats 1000000 in
theorem srd20 (ss : List ByteArray) (ps : List Wr) (at' : Int) (a1 a2 : Option Addr) (c1 c2 : Nat) (hn : ss.length ≤ 100000000) (hm : ps.length ≤ 100000000) (hh : hasB at' ss.length = true) (w : World) (hs : SRow w a1 ss) (hp : PRow w a2 ps) :
    Calls Try.prog 73 #[.agg #[.slice a1 ss.length c1, .slice a2 ps.length c2], .int .i64 at'] w fun e w' => e = .returned (.tuple #[.string (rd ss ps at'), .bool true]) ∧ Below w.heap.size w w' := by
  have HS : Hid (SRow w a1 ss) := hs
  have HP : Hid (PRow w a2 ps) := hp
  have hat := hasB_iff.1 hh
  have HI : Hid (decide ((0 : Int) ≤ at' ∧ at' ≤ (ss.length : Int) - 1) = true) := by show _ = _; simp; omega
  obtain ⟨n, rfl⟩ := Int.eq_ofNat_of_zero_le hat.1
  clear hs hp hh
  go_enter Try.func73, Try.ntmps73
  go_wp2_with (go_at_call 47; refine (in57 _ _ _ true HI.out _).mono ?_; rintro e w2 ⟨rfl, rfl⟩)
  go_loop [6] (fun t => ∃ k : Nat, k ≤ ps.length ∧ t = .int .i64 ((k : Int) - 1) ∧ Hid (back ps n ps.length = back ps n k)) (fun t => (intOf t + 1).toNat)
  case atStart => exact ⟨ps.length, Nat.le_refl _, rfl, rfl⟩
  case round =>
    obtain ⟨k, hk, rfl, HE⟩ := hrel
    by_cases h0 : 0 < k
    · obtain ⟨k, rfl⟩ : ∃ j, k = j + 1 := ⟨k - 1, by omega⟩
      have ek : ((k + 1 : Nat) : Int) - 1 = (k : Int) := by omega
      rw [ek]
      have hk0 : (0 : Int) ≤ (k : Int) := by omega
      have hlt' : (k : Int) < (ps.length : Int) := by omega
      have hlt : k < ps.length := by omega
      obtain ⟨b, off, rfl, hbl, hc⟩ := (HP.out.below ((belowRefl w).alloc (Nat.le_refl _) (.cells #[.slice a1 ss.length c1, .slice a2 ps.length c2] 27))) (by omega)
      have hck := (hc k hlt).1
      have hcl := (hc k hlt).2
      clear hc ek
      by_cases he : ps[k].1 = (n : Int)
      · have he' : (ps[k].1 == (n : Int)) = true := by simpa using he
        have HR : Hid (ps[k].2 = rd ss ps n) := (rd_hit hlt he HE.out).symm
        clear he
        go_wp2
        go_ret2
        exact ⟨ret_sb HR.out, (belowRefl w).alloc (Nat.le_refl _) _⟩
      · have he' : (ps[k].1 == (n : Int)) = false := by simpa using he
        have HE2 : Hid (back ps n ps.length = back ps n k) := HE.out.trans (back_miss hlt he)
        clear he
        go_wp2
        go_round
        case rel => exact ⟨k, by omega, rfl, HE2⟩
        case measure => simp [intOf]
    · obtain rfl : k = 0 := by omega
      have HR : Hid (ss.getD n ByteArray.empty = rd ss ps n) := (rd_base HE.out).symm
      have hnl : n < ss.length := by omega
      obtain ⟨b, off, rfl, hbl, hc⟩ := (HS.out.below ((belowRefl w).alloc (Nat.le_refl _) (.cells #[.slice a1 ss.length c1, .slice a2 ps.length c2] 27))) (by omega)
      have hck := hc n hnl
      have HR2 : Hid (ss[n] = rd ss ps n) := (getD_at hnl).symm.trans HR.out
      clear hc
      go_wp2
      go_ret2
      exact ⟨ret_sb HR2.out, (belowRefl w).alloc (Nat.le_refl _) _⟩

set_option maxRecDepth 100000 in
set_option maxHeartbeats 1000000 in
theorem ird21 (ss : List ByteArray) (ps : List Wr) (at' : Int) (a1 a2 : Option Addr) (c1 c2 : Nat) (hn : ss.length ≤ 100000000) (hm : ps.length ≤ 100000000) (hls : ∀ s ∈ ss, s.size ≤ 1000000000) (hlp : ∀ p ∈ ps, p.2.size ≤ 1000000000) (hh : hasB at' ss.length = true) (w : World) (hs : SRow w a1 ss) (hp : PRow w a2 ps) :
    Calls Try.prog 75 #[.agg #[.slice a1 ss.length c1, .slice a2 ps.length c2], .int .i64 at'] w fun e w' => e = .returned (.tuple #[.string (rd ss ps at'), .bool true]) ∧ Below w.heap.size w w' := by
  have HS : Hid (SRow w a1 ss) := hs
  have HP : Hid (PRow w a2 ps) := hp
  have HH : Hid (hasB at' ss.length = true) := hh
  have hat := hasB_iff.1 hh
  obtain ⟨n, rfl⟩ := Int.eq_ofNat_of_zero_le hat.1
  clear hs hp hh
  go_enter Try.func75, Try.ntmps75
  go_wp2_with (go_at_call 79; refine (has58 _ _ _ _ _ true HH.out _).mono ?_; rintro e w2 ⟨rfl, hb2⟩; obtain ⟨hc2, hf2⟩ := bcell hb2)
  have hbw : Below w.heap.size w w2 := ((belowRefl w).alloc (Nat.le_refl _) _).trans (hb2.mono (by simp))
  have HBW : Hid (Below w.heap.size w w2) := hbw
  have g0 : w2.cell? ⟨w.heap.size, 0, none⟩ = some (.slice a1 ss.length c1) := by rw [hc2 _ _ (by simp)]; simp [go_sem]
  have g1 : w2.cell? ⟨w.heap.size, 1, none⟩ = some (.slice a2 ps.length c2) := by rw [hc2 _ _ (by simp)]; simp [go_sem]
  clear hc2 hf2 hbw
  go_loop [6] (fun t => ∃ k : Nat, k ≤ ps.length ∧ t = .int .i64 ((k : Int) - 1) ∧ Hid (back ps n ps.length = back ps n k)) (fun t => (intOf t + 1).toNat)
  case atStart => exact ⟨ps.length, Nat.le_refl _, rfl, rfl⟩
  case round =>
    obtain ⟨k, hk, rfl, HE⟩ := hrel
    by_cases h0 : 0 < k
    · obtain ⟨k, rfl⟩ : ∃ j, k = j + 1 := ⟨k - 1, by omega⟩
      have ek : ((k + 1 : Nat) : Int) - 1 = (k : Int) := by omega
      rw [ek]
      have hk0 : (0 : Int) ≤ (k : Int) := by omega
      have hlt' : (k : Int) < (ps.length : Int) := by omega
      have hlt : k < ps.length := by omega
      obtain ⟨b, off, rfl, hbl, hc⟩ := (HP.out.below HBW.out) (by omega)
      have hck := (hc k hlt).1
      have hcl := (hc k hlt).2
      clear hc ek
      by_cases he : ps[k].1 = (n : Int)
      · have he' : (ps[k].1 == (n : Int)) = true := by simpa using he
        have HR : Hid (ps[k].2 = rd ss ps n) := (rd_hit hlt he HE.out).symm
        have HZ : Hid (ps[k].2.size ≤ 281474976710656) := Nat.le_trans (hlp _ (List.getElem_mem hlt)) (by omega)
        clear he
        go_wp2_with (go_at_call 83; refine (clone54 _ HZ.out _).mono ?_; rintro e w3 ⟨rfl, hb3⟩)
        go_ret2
        exact ⟨ret_sb HR.out, HBW.out.trans (hb3.mono HBW.out.size)⟩
      · have he' : (ps[k].1 == (n : Int)) = false := by simpa using he
        have HE2 : Hid (back ps n ps.length = back ps n k) := HE.out.trans (back_miss hlt he)
        clear he
        go_wp2
        go_round
        case rel => exact ⟨k, by omega, rfl, HE2⟩
        case measure => simp [intOf]
    · obtain rfl : k = 0 := by omega
      have HR : Hid (ss.getD n ByteArray.empty = rd ss ps n) := (rd_base HE.out).symm
      have hnl : n < ss.length := by omega
      obtain ⟨b, off, rfl, hbl, hc⟩ := (HS.out.below HBW.out) (by omega)
      have hck := hc n hnl
      have HR2 : Hid (ss[n] = rd ss ps n) := (getD_at hnl).symm.trans HR.out
      have HZ : Hid (ss[n].size ≤ 281474976710656) := Nat.le_trans (hls _ (List.getElem_mem hnl)) (by omega)
      clear hc
      go_wp2_with (go_at_call 83; refine (clone54 _ HZ.out _).mono ?_; rintro e w3 ⟨rfl, hb3⟩)
      go_ret2
      exact ⟨ret_sb HR2.out, HBW.out.trans (hb3.mono HBW.out.size)⟩
end Go.Proofs.Ytekjpoenbcnhdaa

namespace Go.Proofs.Ytekjpoenbcnhdaa
open Go.RowKit
open DM
attribute [local go_sem ↓] Go.wp_at_zero Go.wp_at_succ

structure DOwn (w : World) (base : Nat) (a1 : Option Addr) (c1 : Nat) (a2 : Option Addr) (c2 : Nat) (ss : List ByteArray) (ps : List Wr) : Prop where
  s : SOwn w base (.slice a1 ss.length c1) ss
  p : POwn w base (.slice a2 ps.length c2) ps
theorem SOwn.srow {w : World} {base : Nat} {a : Option Addr} {c : Nat} {l : List ByteArray} (h : SOwn w base (.slice a l.length c) l) : SRow w a l := by
  obtain ⟨ao, cap, hv, hr⟩ := h.row
  cases hv
  exact hr
theorem POwn.prow {w : World} {base : Nat} {a : Option Addr} {c : Nat} {l : List Wr} (h : POwn w base (.slice a l.length c) l) : PRow w a l := by
  obtain ⟨ao, cap, hv, hr⟩ := h.row
  cases hv
  exact hr
theorem DOwn.below {w w' : World} {base : Nat} {a1 a2 : Option Addr} {c1 c2 : Nat} {ss : List ByteArray} {ps : List Wr} (h : DOwn w base a1 c1 a2 c2 ss ps) (hb : Below w.heap.size w w') : DOwn w' base a1 c1 a2 c2 ss ps := ⟨h.s.below hb, h.p.below hb⟩
theorem DOwn.mono {w : World} {base base' : Nat} {a1 a2 : Option Addr} {c1 c2 : Nat} {ss : List ByteArray} {ps : List Wr} (h : DOwn w base a1 c1 a2 c2 ss ps) (hb : base' ≤ base) : DOwn w base' a1 c1 a2 c2 ss ps := ⟨h.s.mono hb, h.p.mono hb⟩

theorem SOwn.set {w : World} {base : Nat} {v : Value} {l : List ByteArray} (h : SOwn w base v l) {a : Addr} (ha : a.block < base) (u : Value) : SOwn (w.setCell a u) base v l := ownsRow_setCell_below h ha u
theorem POwn.set {w : World} {base : Nat} {v : Value} {l : List Wr} (h : POwn w base v l) {a : Addr} (ha : a.block < base) (u : Value) : POwn (w.setCell a u) base v l := ownsRow_setCell_below h ha u

theorem mkRow (T e size bytes : Nat) (z : Value) (hT : Try.prog.underlying T = some (.slice e))
    (hinfo : (Try.prog.info? e).map (fun i => (i.zero, i.size, i.bytes)) = some (some z, size, bytes)) (n : Nat) (hn : n ≤ 100000000) (hby : bytes ≤ 64) (w : World) :
    (Instr.makeSlice T (.int .i64 (n : Int)) (.int .i64 (n : Int))).run Try.prog w = .ok (.slice (some ⟨w.heap.size, 0, none⟩) n n) (w.alloc (.cells (madeCells z.cells (n * size)) e)) := by
  obtain ⟨i0, hi, hz0, hz1, hz2⟩ := info_parts hinfo
  have hb : (bytes : Int) * (n : Int) ≤ 281474976710656 := by
    have h : bytes * n ≤ 64 * 100000000 := Nat.mul_le_mul hby hn
    have h2 : ((bytes * n : Nat) : Int) ≤ 281474976710656 := by omega
    rwa [Int.natCast_mul] at h2
  have h := run_make (P := Try.prog) w T e i0 z hT hi hz0 .i64 .i64 n n (by omega) (Int.le_refl _) (by rw [hz2]; exact hb) (by omega)
  rw [hz1] at h
  simpa using h

/-! szDisk -/
theorem ret_int {a b : Int} (h : a = b) : Ending.returned (.int .i64 a) = .returned (.int .i64 b) := by rw [h]
end Go.Proofs.Ytekjpoenbcnhdaa

namespace Go.Proofs.Ytekjpoenbcnhdaa
open Go.RowKit
open DM
attribute [local go_sem ↓] Go.wp_at_zero Go.wp_at_succ

theorem boxed {w w' : World} {x y : Value} {t : TypeId} (hb : Below (w.heap.size + 1) (w.alloc (.cells #[x, y] t)) w') : w'.cell? ⟨w.heap.size, 0, none⟩ = some x ∧ w'.cell? ⟨w.heap.size, 1, none⟩ = some y ∧ w.heap.size < w'.heap.size := by
  refine ⟨(hb.cell (p := ⟨w.heap.size, 0, none⟩) (by simp)).trans (by simp [go_sem]), (hb.cell (p := ⟨w.heap.size, 1, none⟩) (by simp)).trans (by simp [go_sem]), ?_⟩
  have := hb.size
  simp at this
  omega

theorem SRow.drew {w : World} {a : Option Addr} {ss : List ByteArray} (h : SRow w a ss) : SRow w.drew a ss := h
theorem PRow.drew {w : World} {a : Option Addr} {ps : List Wr} (h : PRow w a ps) : PRow w.drew a ps := h
def Two (b c : Nat) (x0 x1 x2 x3 : Value) (w : World) : Prop := w.cell? ⟨b, 0, none⟩ = some x0 ∧ w.cell? ⟨b, 1, none⟩ = some x1 ∧ w.cell? ⟨c, 0, none⟩ = some x2 ∧ w.cell? ⟨c, 1, none⟩ = some x3
theorem Two.keep {b c : Nat} {x0 x1 x2 x3 : Value} {W W' : World} (h : Two b c x0 x1 x2 x3 W) (hb : Below W.heap.size W W') (z0 : b < W.heap.size) (z1 : c < W.heap.size) : Two b c x0 x1 x2 x3 W' :=
  ⟨(hb.cell (p := ⟨b, 0, none⟩) z0).trans h.1, (hb.cell (p := ⟨b, 1, none⟩) z0).trans h.2.1, (hb.cell (p := ⟨c, 0, none⟩) z1).trans h.2.2.1, (hb.cell (p := ⟨c, 1, none⟩) z1).trans h.2.2.2⟩
def rdR (ss : List ByteArray) (ps : List Wr) (a : Int) : ByteArray := if hasB a ss.length = true then rd ss ps a else ⟨#[]⟩
theorem srd20_any (ss : List ByteArray) (ps : List Wr) (at' : Int) (a1 a2 : Option Addr) (c1 c2 : Nat) (hn : ss.length ≤ 100000000) (hm : ps.length ≤ 100000000) (w : World) (hs : SRow w a1 ss) (hp : PRow w a2 ps) :
    Calls Try.prog 73 #[.agg #[.slice a1 ss.length c1, .slice a2 ps.length c2], .int .i64 at'] w fun e w' => e = .returned (.tuple #[.string (rdR ss ps at'), .bool (hasB at' ss.length)]) ∧ Below w.heap.size w w' := by
  cases h : hasB at' ss.length with
  | true =>
    rw [show rdR ss ps at' = rd ss ps at' from if_pos h]
    exact srd20 ss ps at' a1 a2 c1 c2 hn hm h w hs hp
  | false =>
    rw [show rdR ss ps at' = ⟨#[]⟩ from if_neg (by simp [h])]
    exact srd20_no ss ps at' a1 a2 c1 c2 hn h w
theorem ird21_any (ss : List ByteArray) (ps : List Wr) (at' : Int) (a1 a2 : Option Addr) (c1 c2 : Nat) (hn : ss.length ≤ 100000000) (hm : ps.length ≤ 100000000) (hls : ∀ s ∈ ss, s.size ≤ 1000000000) (hlp : ∀ p ∈ ps, p.2.size ≤ 1000000000) (w : World) (hs : SRow w a1 ss) (hp : PRow w a2 ps) :
    Calls Try.prog 75 #[.agg #[.slice a1 ss.length c1, .slice a2 ps.length c2], .int .i64 at'] w fun e w' => e = .returned (.tuple #[.string (rdR ss ps at'), .bool (hasB at' ss.length)]) ∧ Below w.heap.size w w' := by
  cases h : hasB at' ss.length with
  | true =>
    rw [show rdR ss ps at' = rd ss ps at' from if_pos h]
    exact ird21 ss ps at' a1 a2 c1 c2 hn hm hls hlp h w hs hp
  | false =>
    rw [show rdR ss ps at' = ⟨#[]⟩ from if_neg (by simp [h])]
    exact ird21_no ss ps at' a1 a2 c1 c2 h w

end Go.Proofs.Ytekjpoenbcnhdaa

namespace Go.Proofs.Ytekjpoenbcnhdaa
open Go.RowKit
open DM
attribute [local go_sem ↓] Go.wp_at_zero Go.wp_at_succ

theorem ret_int' {a b : Int} (h : a = b) : Ending.returned (.int .i64 a) = .returned (.int .i64 b) := by rw [h]

def isA (a : Int) : Bool := decide (0 ≤ a ∧ a ≤ 1)
theorem isA_iff {a : Int} : isA a = true ↔ a = 0 ∨ a = 1 := by simp only [isA, decide_eq_true_eq]; omega
theorem isA_no {a : Int} (h0 : a ≠ 0) (h1 : a ≠ 1) : isA a = false := by simp only [isA, decide_eq_false_iff_not]; omega
def af (a : Int) : Int := if isA a = true then 1 + a * 48 else 0
theorem af_no {a : Int} (h : isA a = false) : af a = 0 := if_neg (by simp [h])

set_option maxHeartbeats 400000 in
theorem isa50 (a : Int) (b : Bool) (hb : isA a = b) (w : World) :
    Calls Try.prog 64 #[.int .i64 a] w fun e w' => e = .returned (.bool b) ∧ w' = w := by
  by_cases h0 : a = 0
  · subst h0; subst hb
    go_enter Try.func64, Try.ntmps64
    go_wp2
    go_ret
    exact ⟨rfl, rfl⟩
  · by_cases h1 : a = 1
    · subst h1; subst hb
      go_enter Try.func64, Try.ntmps64
      go_wp2
      go_ret
      exact ⟨rfl, rfl⟩
    · have HB : Hid (isA a = b) := hb
      have HN : Hid (isA a = false) := isA_no h0 h1
      have e0 : (a == 0) = false := by simpa using h0
      have e1 : (a == 1) = false := by simpa using h1
      clear hb h0 h1
      go_enter Try.func64, Try.ntmps64
      go_wp2
      go_ret
      exact ⟨ret_bool (HN.out.symm.trans HB.out), rfl⟩

set_option maxHeartbeats 400000 in
theorem saf14 (a : Int) (w : World) : Calls Try.prog 68 #[.int .i64 a] w fun e w' => e = .returned (.int .i64 (af a)) ∧ w' = w := by
  by_cases h0 : a = 0
  · subst h0
    go_enter Try.func68, Try.ntmps68
    go_wp2_with (go_at_call 47; refine (in57 _ _ _ true (by decide) _).mono ?_; rintro e w2 ⟨rfl, rfl⟩)
    go_ret
    exact ⟨rfl, rfl⟩
  · by_cases h1 : a = 1
    · subst h1
      go_enter Try.func68, Try.ntmps68
      go_wp2_with (go_at_call 47; refine (in57 _ _ _ true (by decide) _).mono ?_; rintro e w2 ⟨rfl, rfl⟩)
      go_ret
      exact ⟨rfl, rfl⟩
    · have HN : Hid (isA a = false) := isA_no h0 h1
      clear h0 h1
      go_enter Try.func68, Try.ntmps68
      go_wp2_with (go_at_call 47; refine (in57 _ _ _ false HN.out _).mono ?_; rintro e w2 ⟨rfl, rfl⟩)
      go_ret
      exact ⟨ret_int' (af_no HN.out).symm, rfl⟩

set_option maxHeartbeats 400000 in
theorem iaf15 (a : Int) (w : World) : Calls Try.prog 58 #[.int .i64 a] w fun e w' => e = .returned (.int .i64 (af a)) ∧ w' = w := by
  by_cases h0 : a = 0
  · subst h0
    go_enter Try.func58, Try.ntmps58
    go_wp2_with (go_at_call 64; refine (isa50 _ true rfl _).mono ?_; rintro e w2 ⟨rfl, rfl⟩)
    go_ret
    exact ⟨rfl, rfl⟩
  · by_cases h1 : a = 1
    · subst h1
      go_enter Try.func58, Try.ntmps58
      go_wp2_with (go_at_call 64; refine (isa50 _ true rfl _).mono ?_; rintro e w2 ⟨rfl, rfl⟩)
      go_ret
      exact ⟨rfl, rfl⟩
    · have HN : Hid (isA a = false) := isA_no h0 h1
      clear h0 h1
      go_enter Try.func58, Try.ntmps58
      go_wp2_with (go_at_call 64; refine (isa50 _ false HN.out _).mono ?_; rintro e w2 ⟨rfl, rfl⟩)
      go_ret
      exact ⟨ret_int' (af_no HN.out).symm, rfl⟩

def fb (t : ByteArray) : Int := if h : 0 < t.size then (t[0].toNat : Int) else 0
theorem fb_pos {t : ByteArray} (h : 0 < t.size) : fb t = (t[0].toNat : Int) := dif_pos h
theorem fb_le (t : ByteArray) : 0 ≤ fb t ∧ fb t ≤ 255 := by
  unfold fb
  split
  · have := t[0].toNat_lt
    omega
  · omega
theorem ne_nil {t : ByteArray} (h : 0 < t.size) : t.toList.isEmpty = false := by
  rw [ByteArray.toList_eq]
  cases hd : t.data.toList with
  | nil =>
    have : t.data.toList.length = t.size := by simp
    rw [hd] at this
    simp at this
    omega
  | cons a l => rfl
theorem ba_nil {t : ByteArray} (h : ¬ 0 < t.size) : t = ⟨#[]⟩ := by
  apply ByteArray.ext
  apply Array.eq_empty_of_size_eq_zero
  show t.size = 0
  omega

set_option maxHeartbeats 1000000 in
theorem sby61 (ss : List ByteArray) (ps : List Wr) (at' : Int) (a1 a2 : Option Addr) (c1 c2 : Nat) (hn : ss.length ≤ 100000000) (hm : ps.length ≤ 100000000) (w : World) (hs : SRow w a1 ss) (hp : PRow w a2 ps) :
    Calls Try.prog 49 #[.agg #[.slice a1 ss.length c1, .slice a2 ps.length c2], .int .i64 at'] w fun e w' => e = .returned (.int .i64 (fb (rdR ss ps at'))) ∧ Below w.heap.size w w' := by
  have b0 : Below w.heap.size w (w.alloc (.cells #[.slice a1 ss.length c1, .slice a2 ps.length c2] 27)) := (belowRefl w).alloc (Nat.le_refl _) _
  have HC : Hid (Calls Try.prog 73 #[.agg #[.slice a1 ss.length c1, .slice a2 ps.length c2], .int .i64 at'] (w.alloc (.cells #[.slice a1 ss.length c1, .slice a2 ps.length c2] 27)) fun e w' => e = .returned (.tuple #[.string (rdR ss ps at'), .bool (hasB at' ss.length)]) ∧ Below (w.alloc (.cells #[.slice a1 ss.length c1, .slice a2 ps.length c2] 27)).heap.size (w.alloc (.cells #[.slice a1 ss.length c1, .slice a2 ps.length c2] 27)) w') := srd20_any ss ps at' a1 a2 c1 c2 hn hm _ (hs.below b0) (hp.below b0)
  have HB0 : Hid (Below w.heap.size w (w.alloc (.cells #[.slice a1 ss.length c1, .slice a2 ps.length c2] 27))) := b0
  have HZ : Hid (hasB at' ss.length = false → rdR ss ps at' = ⟨#[]⟩) := fun h => if_neg (by simp [h])
  clear hs hp b0
  generalize rdR ss ps at' = t at *
  generalize hasB at' ss.length = b at *
  go_enter Try.func49, Try.ntmps49
  go_wp2_with fail
  refine HC.out.mono ?_
  rintro e w2 ⟨rfl, hb2⟩
  have HB2 : Hid (Below w.heap.size w w2) := HB0.out.trans (hb2.mono (by simp))
  clear hb2 HC
  cases b with
  | true =>
    clear HZ
    by_cases h0 : 0 < t.size
    · have h0' : (0 : Int) < (t.size : Int) := by omega
      have HF2 : Hid (fb t = (t[0].toNat : Int)) := fb_pos h0
      have hne : t.toList.isEmpty = false := ne_nil h0
      have h255 : (t[0].toNat : Int) ≤ 255 := by have := t[0].toNat_lt; omega
      go_wp2
      go_ret
      exact ⟨ret_int' HF2.out.symm, HB2.out⟩
    · obtain rfl := ba_nil h0
      go_wp2
      go_ret
      exact ⟨rfl, HB2.out⟩
  | false =>
    obtain rfl := HZ.out rfl
    go_wp2
    go_ret
    exact ⟨rfl, HB2.out⟩

set_option maxHeartbeats 1000000 in
theorem iby62 (ss : List ByteArray) (ps : List Wr) (at' : Int) (a1 a2 : Option Addr) (c1 c2 : Nat) (hn : ss.length ≤ 100000000) (hm : ps.length ≤ 100000000) (hls : ∀ s ∈ ss, s.size ≤ 1000000000) (hlp : ∀ p ∈ ps, p.2.size ≤ 1000000000) (w : World) (hs : SRow w a1 ss) (hp : PRow w a2 ps) :
    Calls Try.prog 54 #[.agg #[.slice a1 ss.length c1, .slice a2 ps.length c2], .int .i64 at'] w fun e w' => e = .returned (.int .i64 (fb (rdR ss ps at'))) ∧ Below w.heap.size w w' := by
  have b0 : Below w.heap.size w (w.alloc (.cells #[.slice a1 ss.length c1, .slice a2 ps.length c2] 27)) := (belowRefl w).alloc (Nat.le_refl _) _
  have HC : Hid (Calls Try.prog 75 #[.agg #[.slice a1 ss.length c1, .slice a2 ps.length c2], .int .i64 at'] (w.alloc (.cells #[.slice a1 ss.length c1, .slice a2 ps.length c2] 27)) fun e w' => e = .returned (.tuple #[.string (rdR ss ps at'), .bool (hasB at' ss.length)]) ∧ Below (w.alloc (.cells #[.slice a1 ss.length c1, .slice a2 ps.length c2] 27)).heap.size (w.alloc (.cells #[.slice a1 ss.length c1, .slice a2 ps.length c2] 27)) w') := ird21_any ss ps at' a1 a2 c1 c2 hn hm hls hlp _ (hs.below b0) (hp.below b0)
  have HB0 : Hid (Below w.heap.size w (w.alloc (.cells #[.slice a1 ss.length c1, .slice a2 ps.length c2] 27))) := b0
  have HZ : Hid (hasB at' ss.length = false → rdR ss ps at' = ⟨#[]⟩) := fun h => if_neg (by simp [h])
  clear hs hp b0 hls hlp
  generalize rdR ss ps at' = t at *
  generalize hasB at' ss.length = b at *
  go_enter Try.func54, Try.ntmps54
  go_wp2_with fail
  refine HC.out.mono ?_
  rintro e w2 ⟨rfl, hb2⟩
  have HB2 : Hid (Below w.heap.size w w2) := HB0.out.trans (hb2.mono (by simp))
  clear hb2 HC
  cases b with
  | true =>
    clear HZ
    by_cases h0 : 0 < t.size
    · have h0' : (0 : Int) < (t.size : Int) := by omega
      have HF2 : Hid (fb t = (t[0].toNat : Int)) := fb_pos h0
      have hne : t.toList.isEmpty = false := ne_nil h0
      have h255 : (t[0].toNat : Int) ≤ 255 := by have := t[0].toNat_lt; omega
      go_wp2
      go_ret
      exact ⟨ret_int' HF2.out.symm, HB2.out⟩
    · obtain rfl := ba_nil h0
      go_wp2
      go_ret
      exact ⟨rfl, HB2.out⟩
  | false =>
    obtain rfl := HZ.out rfl
    go_wp2
    go_ret
    exact ⟨rfl, HB2.out⟩

end Go.Proofs.Ytekjpoenbcnhdaa

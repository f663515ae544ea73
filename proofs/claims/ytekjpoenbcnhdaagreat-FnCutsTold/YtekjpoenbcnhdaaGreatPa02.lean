/- What ReadSector returns, on both sides. -/
import Derived.Test.YtekjpoenbcnhdaaGreatPa01
import Derived.Lib.ItoaNum
namespace Go.Proofs.YtekjpoenbcnhdaaGreat
open Go.RowKit
open DM
attribute [local go_sem ↓] Go.wp_at_zero Go.wp_at_succ

set_option maxHeartbeats 400000 in
theorem clone54 (s : ByteArray) (hs : s.size ≤ 281474976710656) (w : World) :
  Calls Tryz.prog 98 #[.string s] w fun e w' => e = .returned (.string s) ∧ Below w.heap.size w w' := by
 go_enter Tryz.func98, Tryz.ntmps98
 go_wp2_with (go_at_call 105; refine (Tryz.stringslite_Clone s _ hs).mono ?_; rintro e w2 ⟨rfl, hb2⟩)
 go_ret
 exact ⟨rfl, hb2⟩

theorem ret_sb {s t : ByteArray} {b : Bool} (h : s = t) : Ending.returned (.tuple #[.string s, .bool b]) = .returned (.tuple #[.string t, .bool b]) := by rw [h]

theorem getD_at {ss : List ByteArray} {n : Nat} (h : n < ss.length) : ss.getD n ByteArray.empty = ss[n] := by simp [h]

set_option maxHeartbeats 1000000 in
theorem srd20_no (ss : List ByteArray) (ps : List Wr) (at' : Int) (a1 a2 : Option Addr) (c1 c2 : Nat) (hn : ss.length ≤ 100000000) (hh : hasB at' ss.length = false) (w : World) :
  Calls Tryz.prog 88 #[.agg #[.slice a1 ss.length c1, .slice a2 ps.length c2], .int .i64 at'] w fun e w' => e = .returned (.tuple #[.string ⟨#[]⟩, .bool false]) ∧ Below w.heap.size w w' := by
 have HI : Hid (decide ((0 : Int) ≤ at' ∧ at' ≤ (ss.length : Int) - 1) = false) := by
  show _ = _
  simp only [hasB, decide_eq_false_iff_not] at hh ⊢
  omega
 clear hh
 go_enter Tryz.func88, Tryz.ntmps88
 go_wp2_with (go_at_call 83; refine (in57 _ _ _ false HI.out _).mono ?_; rintro e w2 ⟨rfl, rfl⟩)
 go_ret2
 exact ⟨rfl, (belowRefl w).alloc (Nat.le_refl _) _⟩

set_option maxHeartbeats 1000000 in
theorem ird21_no (ss : List ByteArray) (ps : List Wr) (at' : Int) (a1 a2 : Option Addr) (c1 c2 : Nat) (hh : hasB at' ss.length = false) (w : World) :
  Calls Tryz.prog 90 #[.agg #[.slice a1 ss.length c1, .slice a2 ps.length c2], .int .i64 at'] w fun e w' => e = .returned (.tuple #[.string ⟨#[]⟩, .bool false]) ∧ Below w.heap.size w w' := by
 have HH : Hid (hasB at' ss.length = false) := hh
 clear hh
 go_enter Tryz.func90, Tryz.ntmps90
 go_wp2_with (go_at_call 94; refine (has58 _ _ _ _ _ false HH.out _).mono ?_; rintro e w2 ⟨rfl, hb2⟩)
 go_ret2
 exact ⟨rfl, ((belowRefl w).alloc (Nat.le_refl _) _).trans (hb2.mono (by simp))⟩

set_option maxRecDepth 100000 in
set_option maxHeartbeats 1000000 in
theorem srd20 (ss : List ByteArray) (ps : List Wr) (at' : Int) (a1 a2 : Option Addr) (c1 c2 : Nat) (hn : ss.length ≤ 100000000) (hm : ps.length ≤ 100000000) (hh : hasB at' ss.length = true) (w : World) (hs : SRow w a1 ss) (hp : PRow w a2 ps) :
  Calls Tryz.prog 88 #[.agg #[.slice a1 ss.length c1, .slice a2 ps.length c2], .int .i64 at'] w fun e w' => e = .returned (.tuple #[.string (rd ss ps at'), .bool true]) ∧ Below w.heap.size w w' := by
 have HS : Hid (SRow w a1 ss) := hs
 have HP : Hid (PRow w a2 ps) := hp
 have hat := hasB_iff.1 hh
 have HI : Hid (decide ((0 : Int) ≤ at' ∧ at' ≤ (ss.length : Int) - 1) = true) := by show _ = _; simp; omega
 obtain ⟨n, rfl⟩ := Int.eq_ofNat_of_zero_le hat.1
 clear hs hp hh
 go_enter Tryz.func88, Tryz.ntmps88
 go_wp2_with (go_at_call 83; refine (in57 _ _ _ true HI.out _).mono ?_; rintro e w2 ⟨rfl, rfl⟩)
 go_loop [6] (fun t => ∃ k : Nat, k ≤ ps.length ∧ t = .int .i64 ((k : Int) - 1) ∧ Hid (back ps n ps.length = back ps n k)) (fun t => (intOf t + 1).toNat)
 case atStart => exact ⟨ps.length, Nat.le_refl _, rfl, rfl⟩
 case round =>
  obtain ⟨k, hk, rfl, HE⟩ := hrel
  by_cases h0 : 0 < k
  ·obtain ⟨k, rfl⟩ : ∃ j, k = j + 1 := ⟨k - 1, by omega⟩
   have ek : ((k + 1 : Nat) : Int) - 1 = (k : Int) := by omega
   rw [ek]
   have hk0 : (0 : Int) ≤ (k : Int) := by omega
   have hlt' : (k : Int) < (ps.length : Int) := by omega
   have hlt : k < ps.length := by omega
   obtain ⟨b, off, rfl, hbl, hc⟩ := (HP.out.below ((belowRefl w).alloc (Nat.le_refl _) (.cells #[.slice a1 ss.length c1, .slice a2 ps.length c2] 27))) (by omega)
   have hck := (hc k hlt).1
   have hcl := (hc k hlt).2
   clear hc ek
   by_cases he : ps[k].1 = (n : Int)
   ·have he' : (ps[k].1 == (n : Int)) = true := by simpa using he
    have HR : Hid (ps[k].2 = rd ss ps n) := (rd_hit hlt he HE.out).symm
    clear he
    go_wp2
    go_ret2
    exact ⟨ret_sb HR.out, (belowRefl w).alloc (Nat.le_refl _) _⟩
   ·have he' : (ps[k].1 == (n : Int)) = false := by simpa using he
    have HE2 : Hid (back ps n ps.length = back ps n k) := HE.out.trans (back_miss hlt he)
    clear he
    go_wp2
    go_round
    case rel => exact ⟨k, by omega, rfl, HE2⟩
    case measure => simp [intOf]
  ·obtain rfl : k = 0 := by omega
   have HR : Hid (ss.getD n ByteArray.empty = rd ss ps n) := (rd_base HE.out).symm
   have hnl : n < ss.length := by omega
   obtain ⟨b, off, rfl, hbl, hc⟩ := (HS.out.below ((belowRefl w).alloc (Nat.le_refl _) (.cells #[.slice a1 ss.length c1, .slice a2 ps.length c2] 27))) (by omega)
   have hck := hc n hnl
   have HR2 : Hid (ss[n] = rd ss ps n) := (getD_at hnl).symm.trans HR.out
   clear hc
   go_wp2
   go_ret2
   exact ⟨ret_sb HR2.out, (belowRefl w).alloc (Nat.le_refl _) _⟩

set_option maxRecDepth 100000 in
set_option maxHeartbeats 1000000 in
theorem ird21 (ss : List ByteArray) (ps : List Wr) (at' : Int) (a1 a2 : Option Addr) (c1 c2 : Nat) (hn : ss.length ≤ 100000000) (hm : ps.length ≤ 100000000) (hls : ∀ s ∈ ss, s.size ≤ 1000000000) (hlp : ∀ p ∈ ps, p.2.size ≤ 1000000000) (hh : hasB at' ss.length = true) (w : World) (hs : SRow w a1 ss) (hp : PRow w a2 ps) :
  Calls Tryz.prog 90 #[.agg #[.slice a1 ss.length c1, .slice a2 ps.length c2], .int .i64 at'] w fun e w' => e = .returned (.tuple #[.string (rd ss ps at'), .bool true]) ∧ Below w.heap.size w w' := by
 have HS : Hid (SRow w a1 ss) := hs
 have HP : Hid (PRow w a2 ps) := hp
 have HH : Hid (hasB at' ss.length = true) := hh
 have hat := hasB_iff.1 hh
 obtain ⟨n, rfl⟩ := Int.eq_ofNat_of_zero_le hat.1
 clear hs hp hh
 go_enter Tryz.func90, Tryz.ntmps90
 go_wp2_with (go_at_call 94; refine (has58 _ _ _ _ _ true HH.out _).mono ?_; rintro e w2 ⟨rfl, hb2⟩; obtain ⟨hc2, hf2⟩ := bcell hb2)
 have hbw : Below w.heap.size w w2 := ((belowRefl w).alloc (Nat.le_refl _) _).trans (hb2.mono (by simp))
 have HBW : Hid (Below w.heap.size w w2) := hbw
 have g0 : w2.cell? ⟨w.heap.size, 0, none⟩ = some (.slice a1 ss.length c1) := by rw [hc2 _ _ (by simp)]; simp [go_sem]
 have g1 : w2.cell? ⟨w.heap.size, 1, none⟩ = some (.slice a2 ps.length c2) := by rw [hc2 _ _ (by simp)]; simp [go_sem]
 clear hc2 hf2 hbw
 go_loop [6] (fun t => ∃ k : Nat, k ≤ ps.length ∧ t = .int .i64 ((k : Int) - 1) ∧ Hid (back ps n ps.length = back ps n k)) (fun t => (intOf t + 1).toNat)
 case atStart => exact ⟨ps.length, Nat.le_refl _, rfl, rfl⟩
 case round =>
  obtain ⟨k, hk, rfl, HE⟩ := hrel
  by_cases h0 : 0 < k
  ·obtain ⟨k, rfl⟩ : ∃ j, k = j + 1 := ⟨k - 1, by omega⟩
   have ek : ((k + 1 : Nat) : Int) - 1 = (k : Int) := by omega
   rw [ek]
   have hk0 : (0 : Int) ≤ (k : Int) := by omega
   have hlt' : (k : Int) < (ps.length : Int) := by omega
   have hlt : k < ps.length := by omega
   obtain ⟨b, off, rfl, hbl, hc⟩ := (HP.out.below HBW.out) (by omega)
   have hck := (hc k hlt).1
   have hcl := (hc k hlt).2
   clear hc ek
   by_cases he : ps[k].1 = (n : Int)
   ·have he' : (ps[k].1 == (n : Int)) = true := by simpa using he
    have HR : Hid (ps[k].2 = rd ss ps n) := (rd_hit hlt he HE.out).symm
    have HZ : Hid (ps[k].2.size ≤ 281474976710656) := Nat.le_trans (hlp _ (List.getElem_mem hlt)) (by omega)
    clear he
    go_wp2_with (go_at_call 98; refine (clone54 _ HZ.out _).mono ?_; rintro e w3 ⟨rfl, hb3⟩)
    go_ret2
    exact ⟨ret_sb HR.out, HBW.out.trans (hb3.mono HBW.out.size)⟩
   ·have he' : (ps[k].1 == (n : Int)) = false := by simpa using he
    have HE2 : Hid (back ps n ps.length = back ps n k) := HE.out.trans (back_miss hlt he)
    clear he
    go_wp2
    go_round
    case rel => exact ⟨k, by omega, rfl, HE2⟩
    case measure => simp [intOf]
  ·obtain rfl : k = 0 := by omega
   have HR : Hid (ss.getD n ByteArray.empty = rd ss ps n) := (rd_base HE.out).symm
   have hnl : n < ss.length := by omega
   obtain ⟨b, off, rfl, hbl, hc⟩ := (HS.out.below HBW.out) (by omega)
   have hck := hc n hnl
   have HR2 : Hid (ss[n] = rd ss ps n) := (getD_at hnl).symm.trans HR.out
   have HZ : Hid (ss[n].size ≤ 281474976710656) := Nat.le_trans (hls _ (List.getElem_mem hnl)) (by omega)
   clear hc
   go_wp2_with (go_at_call 98; refine (clone54 _ HZ.out _).mono ?_; rintro e w3 ⟨rfl, hb3⟩)
   go_ret2
   exact ⟨ret_sb HR2.out, HBW.out.trans (hb3.mono HBW.out.size)⟩
end Go.Proofs.YtekjpoenbcnhdaaGreat

namespace Go.Proofs.YtekjpoenbcnhdaaGreat
open Go.RowKit
open DM
attribute [local go_sem ↓] Go.wp_at_zero Go.wp_at_succ

structure DOwn (w : World) (base : Nat) (a1 : Option Addr) (c1 : Nat) (a2 : Option Addr) (c2 : Nat) (ss : List ByteArray) (ps : List Wr) : Prop where
 s : SOwn w base (.slice a1 ss.length c1) ss
 p : POwn w base (.slice a2 ps.length c2) ps
theorem SOwn.srow {w : World} {base : Nat} {a : Option Addr} {c : Nat} {l : List ByteArray} (h : SOwn w base (.slice a l.length c) l) : SRow w a l := by
 obtain ⟨ao, cap, hv, hr⟩ := h.row
 cases hv
 exact hr
theorem POwn.prow {w : World} {base : Nat} {a : Option Addr} {c : Nat} {l : List Wr} (h : POwn w base (.slice a l.length c) l) : PRow w a l := by
 obtain ⟨ao, cap, hv, hr⟩ := h.row
 cases hv
 exact hr
theorem DOwn.below {w w' : World} {base : Nat} {a1 a2 : Option Addr} {c1 c2 : Nat} {ss : List ByteArray} {ps : List Wr} (h : DOwn w base a1 c1 a2 c2 ss ps) (hb : Below w.heap.size w w') : DOwn w' base a1 c1 a2 c2 ss ps := ⟨h.s.below hb, h.p.below hb⟩
theorem DOwn.mono {w : World} {base base' : Nat} {a1 a2 : Option Addr} {c1 c2 : Nat} {ss : List ByteArray} {ps : List Wr} (h : DOwn w base a1 c1 a2 c2 ss ps) (hb : base' ≤ base) : DOwn w base' a1 c1 a2 c2 ss ps := ⟨h.s.mono hb, h.p.mono hb⟩

theorem SOwn.set {w : World} {base : Nat} {v : Value} {l : List ByteArray} (h : SOwn w base v l) {a : Addr} (ha : a.block < base) (u : Value) : SOwn (w.setCell a u) base v l := ownsRow_setCell_below h ha u
theorem POwn.set {w : World} {base : Nat} {v : Value} {l : List Wr} (h : POwn w base v l) {a : Addr} (ha : a.block < base) (u : Value) : POwn (w.setCell a u) base v l := ownsRow_setCell_below h ha u

theorem mkRow (T e size bytes : Nat) (z : Value) (hT : Tryz.prog.underlying T = some (.slice e))
  (hinfo : (Tryz.prog.info? e).map (fun i => (i.zero, i.size, i.bytes)) = some (some z, size, bytes)) (n : Nat) (hn : n ≤ 100000000) (hby : bytes ≤ 64) (w : World) :
  (Instr.makeSlice T (.int .i64 (n : Int)) (.int .i64 (n : Int))).run Tryz.prog w = .ok (.slice (some ⟨w.heap.size, 0, none⟩) n n) (w.alloc (.cells (madeCells z.cells (n * size)) e)) := by
 obtain ⟨i0, hi, hz0, hz1, hz2⟩ := info_parts hinfo
 have hb : (bytes : Int) * (n : Int) ≤ 281474976710656 := by
  have h : bytes * n ≤ 64 * 100000000 := Nat.mul_le_mul hby hn
  have h2 : ((bytes * n : Nat) : Int) ≤ 281474976710656 := by omega
  rwa [Int.natCast_mul] at h2
 have h := run_make (P := Tryz.prog) w T e i0 z hT hi hz0 .i64 .i64 n n (by omega) (Int.le_refl _) (by rw [hz2]; exact hb) (by omega)
 rw [hz1] at h
 simpa using h

/-! szDisk -/
theorem ret_int {a b : Int} (h : a = b) : Ending.returned (.int .i64 a) = .returned (.int .i64 b) := by rw [h]
end Go.Proofs.YtekjpoenbcnhdaaGreat

namespace Go.Proofs.YtekjpoenbcnhdaaGreat
open Go.RowKit
open DM
attribute [local go_sem ↓] Go.wp_at_zero Go.wp_at_succ

theorem boxed {w w' : World} {x y : Value} {t : TypeId} (hb : Below (w.heap.size + 1) (w.alloc (.cells #[x, y] t)) w') : w'.cell? ⟨w.heap.size, 0, none⟩ = some x ∧ w'.cell? ⟨w.heap.size, 1, none⟩ = some y ∧ w.heap.size < w'.heap.size := by
 refine ⟨(hb.cell (p := ⟨w.heap.size, 0, none⟩) (by simp)).trans (by simp [go_sem]), (hb.cell (p := ⟨w.heap.size, 1, none⟩) (by simp)).trans (by simp [go_sem]), ?_⟩
 have := hb.size
 simp at this
 omega

theorem SRow.drew {w : World} {a : Option Addr} {ss : List ByteArray} (h : SRow w a ss) : SRow w.drew a ss := h
theorem PRow.drew {w : World} {a : Option Addr} {ps : List Wr} (h : PRow w a ps) : PRow w.drew a ps := h
def Two (b c : Nat) (x0 x1 x2 x3 : Value) (w : World) : Prop := w.cell? ⟨b, 0, none⟩ = some x0 ∧ w.cell? ⟨b, 1, none⟩ = some x1 ∧ w.cell? ⟨c, 0, none⟩ = some x2 ∧ w.cell? ⟨c, 1, none⟩ = some x3
theorem Two.keep {b c : Nat} {x0 x1 x2 x3 : Value} {W W' : World} (h : Two b c x0 x1 x2 x3 W) (hb : Below W.heap.size W W') (z0 : b < W.heap.size) (z1 : c < W.heap.size) : Two b c x0 x1 x2 x3 W' :=
 ⟨(hb.cell (p := ⟨b, 0, none⟩) z0).trans h.1, (hb.cell (p := ⟨b, 1, none⟩) z0).trans h.2.1, (hb.cell (p := ⟨c, 0, none⟩) z1).trans h.2.2.1, (hb.cell (p := ⟨c, 1, none⟩) z1).trans h.2.2.2⟩
def rdR (ss : List ByteArray) (ps : List Wr) (a : Int) : ByteArray := if hasB a ss.length = true then rd ss ps a else ⟨#[]⟩
theorem srd20_any (ss : List ByteArray) (ps : List Wr) (at' : Int) (a1 a2 : Option Addr) (c1 c2 : Nat) (hn : ss.length ≤ 100000000) (hm : ps.length ≤ 100000000) (w : World) (hs : SRow w a1 ss) (hp : PRow w a2 ps) :
  Calls Tryz.prog 88 #[.agg #[.slice a1 ss.length c1, .slice a2 ps.length c2], .int .i64 at'] w fun e w' => e = .returned (.tuple #[.string (rdR ss ps at'), .bool (hasB at' ss.length)]) ∧ Below w.heap.size w w' := by
 cases h : hasB at' ss.length with
 | true =>
  rw [show rdR ss ps at' = rd ss ps at' from if_pos h]
  exact srd20 ss ps at' a1 a2 c1 c2 hn hm h w hs hp
 | false =>
  rw [show rdR ss ps at' = ⟨#[]⟩ from if_neg (by simp [h])]
  exact srd20_no ss ps at' a1 a2 c1 c2 hn h w
theorem ird21_any (ss : List ByteArray) (ps : List Wr) (at' : Int) (a1 a2 : Option Addr) (c1 c2 : Nat) (hn : ss.length ≤ 100000000) (hm : ps.length ≤ 100000000) (hls : ∀ s ∈ ss, s.size ≤ 1000000000) (hlp : ∀ p ∈ ps, p.2.size ≤ 1000000000) (w : World) (hs : SRow w a1 ss) (hp : PRow w a2 ps) :
  Calls Tryz.prog 90 #[.agg #[.slice a1 ss.length c1, .slice a2 ps.length c2], .int .i64 at'] w fun e w' => e = .returned (.tuple #[.string (rdR ss ps at'), .bool (hasB at' ss.length)]) ∧ Below w.heap.size w w' := by
 cases h : hasB at' ss.length with
 | true =>
  rw [show rdR ss ps at' = rd ss ps at' from if_pos h]
  exact ird21 ss ps at' a1 a2 c1 c2 hn hm hls hlp h w hs hp
 | false =>
  rw [show rdR ss ps at' = ⟨#[]⟩ from if_neg (by simp [h])]
  exact ird21_no ss ps at' a1 a2 c1 c2 h w

end Go.Proofs.YtekjpoenbcnhdaaGreat

namespace Go.Proofs.YtekjpoenbcnhdaaGreat
open Go.RowKit
open DM
attribute [local go_sem ↓] Go.wp_at_zero Go.wp_at_succ

theorem ret_int' {a b : Int} (h : a = b) : Ending.returned (.int .i64 a) = .returned (.int .i64 b) := by rw [h]

def isA (a : Int) : Bool := decide (0 ≤ a ∧ a ≤ 1)
theorem isA_iff {a : Int} : isA a = true ↔ a = 0 ∨ a = 1 := by simp only [isA, decide_eq_true_eq]; omega
theorem isA_no {a : Int} (h0 : a ≠ 0) (h1 : a ≠ 1) : isA a = false := by simp only [isA, decide_eq_false_iff_not]; omega
def af (a : Int) : Int := if isA a = true then 1 + a * 48 else 0
theorem af_no {a : Int} (h : isA a = false) : af a = 0 := if_neg (by simp [h])

set_option maxHeartbeats 400000 in
theorem isa50 (a : Int) (b : Bool) (hb : isA a = b) (w : World) :
  Calls Tryz.prog 76 #[.int .i64 a] w fun e w' => e = .returned (.bool b) ∧ w' = w := by
 by_cases h0 : a = 0
 ·subst h0; subst hb
  go_enter Tryz.func76, Tryz.ntmps76
  go_wp2
  go_ret
  exact ⟨rfl, rfl⟩
 ·by_cases h1 : a = 1
  ·subst h1; subst hb
   go_enter Tryz.func76, Tryz.ntmps76
   go_wp2
   go_ret
   exact ⟨rfl, rfl⟩
  ·have HB : Hid (isA a = b) := hb
   have HN : Hid (isA a = false) := isA_no h0 h1
   have e0 : (a == 0) = false := by simpa using h0
   have e1 : (a == 1) = false := by simpa using h1
   clear hb h0 h1
   go_enter Tryz.func76, Tryz.ntmps76
   go_wp2
   go_ret
   exact ⟨ret_bool (HN.out.symm.trans HB.out), rfl⟩

set_option maxHeartbeats 400000 in
theorem saf14 (a : Int) (w : World) : Calls Tryz.prog 58 #[.int .i64 a] w fun e w' => e = .returned (.int .i64 (af a)) ∧ w' = w := by
 by_cases h0 : a = 0
 ·subst h0
  go_enter Tryz.func58, Tryz.ntmps58
  go_wp2_with (go_at_call 83; refine (in57 _ _ _ true (by decide) _).mono ?_; rintro e w2 ⟨rfl, rfl⟩)
  go_ret
  exact ⟨rfl, rfl⟩
 ·by_cases h1 : a = 1
  ·subst h1
   go_enter Tryz.func58, Tryz.ntmps58
   go_wp2_with (go_at_call 83; refine (in57 _ _ _ true (by decide) _).mono ?_; rintro e w2 ⟨rfl, rfl⟩)
   go_ret
   exact ⟨rfl, rfl⟩
  ·have HN : Hid (isA a = false) := isA_no h0 h1
   clear h0 h1
   go_enter Tryz.func58, Tryz.ntmps58
   go_wp2_with (go_at_call 83; refine (in57 _ _ _ false HN.out _).mono ?_; rintro e w2 ⟨rfl, rfl⟩)
   go_ret
   exact ⟨ret_int' (af_no HN.out).symm, rfl⟩

set_option maxHeartbeats 400000 in
theorem iaf15 (a : Int) (w : World) : Calls Tryz.prog 70 #[.int .i64 a] w fun e w' => e = .returned (.int .i64 (af a)) ∧ w' = w := by
 by_cases h0 : a = 0
 ·subst h0
  go_enter Tryz.func70, Tryz.ntmps70
  go_wp2_with (go_at_call 76; refine (isa50 _ true rfl _).mono ?_; rintro e w2 ⟨rfl, rfl⟩)
  go_ret
  exact ⟨rfl, rfl⟩
 ·by_cases h1 : a = 1
  ·subst h1
   go_enter Tryz.func70, Tryz.ntmps70
   go_wp2_with (go_at_call 76; refine (isa50 _ true rfl _).mono ?_; rintro e w2 ⟨rfl, rfl⟩)
   go_ret
   exact ⟨rfl, rfl⟩
  ·have HN : Hid (isA a = false) := isA_no h0 h1
   clear h0 h1
   go_enter Tryz.func70, Tryz.ntmps70
   go_wp2_with (go_at_call 76; refine (isa50 _ false HN.out _).mono ?_; rintro e w2 ⟨rfl, rfl⟩)
   go_ret
   exact ⟨ret_int' (af_no HN.out).symm, rfl⟩

def fb (t : ByteArray) : Int := if h : 0 < t.size then (t[0].toNat : Int) else 0
theorem fb_pos {t : ByteArray} (h : 0 < t.size) : fb t = (t[0].toNat : Int) := dif_pos h
theorem fb_le (t : ByteArray) : 0 ≤ fb t ∧ fb t ≤ 255 := by
 unfold fb
 split
 ·have := t[0].toNat_lt
  omega
 ·omega
theorem ne_nil {t : ByteArray} (h : 0 < t.size) : t.toList.isEmpty = false := by
 rw [ByteArray.toList_eq]
 cases hd : t.data.toList with
 | nil =>
  have : t.data.toList.length = t.size := by simp
  rw [hd] at this
  simp at this
  omega
 | cons a l => rfl
theorem ba_nil {t : ByteArray} (h : ¬ 0 < t.size) : t = ⟨#[]⟩ := by
 apply ByteArray.ext
 apply Array.eq_empty_of_size_eq_zero
 show t.size = 0
 omega

set_option maxHeartbeats 1000000 in
theorem sby61 (ss : List ByteArray) (ps : List Wr) (at' : Int) (a1 a2 : Option Addr) (c1 c2 : Nat) (hn : ss.length ≤ 100000000) (hm : ps.length ≤ 100000000) (w : World) (hs : SRow w a1 ss) (hp : PRow w a2 ps) :
  Calls Tryz.prog 79 #[.agg #[.slice a1 ss.length c1, .slice a2 ps.length c2], .int .i64 at'] w fun e w' => e = .returned (.int .i64 (fb (rdR ss ps at'))) ∧ Below w.heap.size w w' := by
 have b0 : Below w.heap.size w (w.alloc (.cells #[.slice a1 ss.length c1, .slice a2 ps.length c2] 27)) := (belowRefl w).alloc (Nat.le_refl _) _
 have HC : Hid (Calls Tryz.prog 88 #[.agg #[.slice a1 ss.length c1, .slice a2 ps.length c2], .int .i64 at'] (w.alloc (.cells #[.slice a1 ss.length c1, .slice a2 ps.length c2] 27)) fun e w' => e = .returned (.tuple #[.string (rdR ss ps at'), .bool (hasB at' ss.length)]) ∧ Below (w.alloc (.cells #[.slice a1 ss.length c1, .slice a2 ps.length c2] 27)).heap.size (w.alloc (.cells #[.slice a1 ss.length c1, .slice a2 ps.length c2] 27)) w') := srd20_any ss ps at' a1 a2 c1 c2 hn hm _ (hs.below b0) (hp.below b0)
 have HB0 : Hid (Below w.heap.size w (w.alloc (.cells #[.slice a1 ss.length c1, .slice a2 ps.length c2] 27))) := b0
 have HZ : Hid (hasB at' ss.length = false → rdR ss ps at' = ⟨#[]⟩) := fun h => if_neg (by simp [h])
 clear hs hp b0
 generalize rdR ss ps at' = t at *
 generalize hasB at' ss.length = b at *
 go_enter Tryz.func79, Tryz.ntmps79
 go_wp2_with fail
 refine HC.out.mono ?_
 rintro e w2 ⟨rfl, hb2⟩
 have HB2 : Hid (Below w.heap.size w w2) := HB0.out.trans (hb2.mono (by simp))
 clear hb2 HC
 cases b with
 | true =>
  clear HZ
  by_cases h0 : 0 < t.size
  ·have h0' : (0 : Int) < (t.size : Int) := by omega
   have HF2 : Hid (fb t = (t[0].toNat : Int)) := fb_pos h0
   have hne : t.toList.isEmpty = false := ne_nil h0
   have h255 : (t[0].toNat : Int) ≤ 255 := by have := t[0].toNat_lt; omega
   go_wp2
   go_ret
   exact ⟨ret_int' HF2.out.symm, HB2.out⟩
  ·obtain rfl := ba_nil h0
   go_wp2
   go_ret
   exact ⟨rfl, HB2.out⟩
 | false =>
  obtain rfl := HZ.out rfl
  go_wp2
  go_ret
  exact ⟨rfl, HB2.out⟩

set_option maxHeartbeats 1000000 in
theorem iby62 (ss : List ByteArray) (ps : List Wr) (at' : Int) (a1 a2 : Option Addr) (c1 c2 : Nat) (hn : ss.length ≤ 100000000) (hm : ps.length ≤ 100000000) (hls : ∀ s ∈ ss, s.size ≤ 1000000000) (hlp : ∀ p ∈ ps, p.2.size ≤ 1000000000) (w : World) (hs : SRow w a1 ss) (hp : PRow w a2 ps) :
  Calls Tryz.prog 66 #[.agg #[.slice a1 ss.length c1, .slice a2 ps.length c2], .int .i64 at'] w fun e w' => e = .returned (.int .i64 (fb (rdR ss ps at'))) ∧ Below w.heap.size w w' := by
 have b0 : Below w.heap.size w (w.alloc (.cells #[.slice a1 ss.length c1, .slice a2 ps.length c2] 27)) := (belowRefl w).alloc (Nat.le_refl _) _
 have HC : Hid (Calls Tryz.prog 90 #[.agg #[.slice a1 ss.length c1, .slice a2 ps.length c2], .int .i64 at'] (w.alloc (.cells #[.slice a1 ss.length c1, .slice a2 ps.length c2] 27)) fun e w' => e = .returned (.tuple #[.string (rdR ss ps at'), .bool (hasB at' ss.length)]) ∧ Below (w.alloc (.cells #[.slice a1 ss.length c1, .slice a2 ps.length c2] 27)).heap.size (w.alloc (.cells #[.slice a1 ss.length c1, .slice a2 ps.length c2] 27)) w') := ird21_any ss ps at' a1 a2 c1 c2 hn hm hls hlp _ (hs.below b0) (hp.below b0)
 have HB0 : Hid (Below w.heap.size w (w.alloc (.cells #[.slice a1 ss.length c1, .slice a2 ps.length c2] 27))) := b0
 have HZ : Hid (hasB at' ss.length = false → rdR ss ps at' = ⟨#[]⟩) := fun h => if_neg (by simp [h])
 clear hs hp b0 hls hlp
 generalize rdR ss ps at' = t at *
 generalize hasB at' ss.length = b at *
 go_enter Tryz.func66, Tryz.ntmps66
 go_wp2_with fail
 refine HC.out.mono ?_
 rintro e w2 ⟨rfl, hb2⟩
 have HB2 : Hid (Below w.heap.size w w2) := HB0.out.trans (hb2.mono (by simp))
 clear hb2 HC
 cases b with
 | true =>
  clear HZ
  by_cases h0 : 0 < t.size
  ·have h0' : (0 : Int) < (t.size : Int) := by omega
   have HF2 : Hid (fb t = (t[0].toNat : Int)) := fb_pos h0
   have hne : t.toList.isEmpty = false := ne_nil h0
   have h255 : (t[0].toNat : Int) ≤ 255 := by have := t[0].toNat_lt; omega
   go_wp2
   go_ret
   exact ⟨ret_int' HF2.out.symm, HB2.out⟩
  ·obtain rfl := ba_nil h0
   go_wp2
   go_ret
   exact ⟨rfl, HB2.out⟩
 | false =>
  obtain rfl := HZ.out rfl
  go_wp2
  go_ret
  exact ⟨rfl, HB2.out⟩

end Go.Proofs.YtekjpoenbcnhdaaGreat

namespace Go.Proofs.YtekjpoenbcnhdaaGreat
open Go.RowKit
open DM
attribute [local go_sem ↓] Go.wp_at_zero Go.wp_at_succ

def act (ss : List ByteArray) (ps : List Wr) : Int := fb (rdR ss ps 0) % 2
theorem act_01 (ss : List ByteArray) (ps : List Wr) : isA (act ss ps) = true := by
 have : 0 ≤ fb (rdR ss ps 0) % 2 ∧ fb (rdR ss ps 0) % 2 < 2 := ⟨Int.emod_nonneg _ (by decide), Int.emod_lt_of_pos _ (by decide)⟩
 rw [isA_iff, act]
 omega
def cnt (ss : List ByteArray) (ps : List Wr) (a : Int) : Int := if isA a = true then fb (rdR ss ps (af a)) else 0
theorem cnt_le (ss : List ByteArray) (ps : List Wr) (a : Int) : 0 ≤ cnt ss ps a ∧ cnt ss ps a ≤ 255 := by
 unfold cnt
 split
 ·exact fb_le _
 ·omega
theorem tmod2 (x : Int) (h : 0 ≤ x) : x.tmod 2 = x % 2 := Int.tmod_eq_emod_of_nonneg h

set_option maxHeartbeats 1000000 in
theorem sac25 (ss : List ByteArray) (ps : List Wr) (a1 a2 : Option Addr) (c1 c2 : Nat) (hn : ss.length ≤ 100000000) (hm : ps.length ≤ 100000000) (w : World) (hs : SRow w a1 ss) (hp : PRow w a2 ps) :
  Calls Tryz.prog 36 #[.agg #[.slice a1 ss.length c1, .slice a2 ps.length c2]] w fun e w' => e = .returned (.int .i64 (act ss ps)) ∧ Below w.heap.size w w' := by
 have b0 : Below w.heap.size w (w.alloc (.cells #[.slice a1 ss.length c1, .slice a2 ps.length c2] 27)) := (belowRefl w).alloc (Nat.le_refl _) _
 have HC : Hid (Calls Tryz.prog 79 #[.agg #[.slice a1 ss.length c1, .slice a2 ps.length c2], .int .i64 0] (w.alloc (.cells #[.slice a1 ss.length c1, .slice a2 ps.length c2] 27)) fun e w' => e = .returned (.int .i64 (fb (rdR ss ps 0))) ∧ Below (w.alloc (.cells #[.slice a1 ss.length c1, .slice a2 ps.length c2] 27)).heap.size (w.alloc (.cells #[.slice a1 ss.length c1, .slice a2 ps.length c2] 27)) w') := sby61 ss ps 0 a1 a2 c1 c2 hn hm _ (hs.below b0) (hp.below b0)
 have HB0 : Hid (Below w.heap.size w (w.alloc (.cells #[.slice a1 ss.length c1, .slice a2 ps.length c2] 27))) := b0
 have hf := fb_le (rdR ss ps 0)
 have h0 := hf.1
 have h1 := hf.2
 have HM : Hid ((fb (rdR ss ps 0)).tmod 2 = act ss ps) := tmod2 _ h0
 have HM2 : Hid (fb (rdR ss ps 0) % 2 = act ss ps) := rfl
 clear hs hp b0 hf
 generalize fb (rdR ss ps 0) = t at *
 go_enter Tryz.func36, Tryz.ntmps36
 go_wp2_with (go_at_call 79; refine HC.out.mono ?_; rintro e w2 ⟨rfl, hb2⟩)
 go_ret
 exact ⟨ret_int' (by first | exact HM2.out | exact HM.out), HB0.out.trans (hb2.mono (by simp))⟩

set_option maxHeartbeats 1000000 in
theorem iac26 (ss : List ByteArray) (ps : List Wr) (a1 a2 : Option Addr) (c1 c2 : Nat) (hn : ss.length ≤ 100000000) (hm : ps.length ≤ 100000000) (hls : ∀ s ∈ ss, s.size ≤ 1000000000) (hlp : ∀ p ∈ ps, p.2.size ≤ 1000000000) (w : World) (hs : SRow w a1 ss) (hp : PRow w a2 ps) :
  Calls Tryz.prog 30 #[.agg #[.slice a1 ss.length c1, .slice a2 ps.length c2]] w fun e w' => e = .returned (.int .i64 (act ss ps)) ∧ Below w.heap.size w w' := by
 have b0 : Below w.heap.size w (w.alloc (.cells #[.slice a1 ss.length c1, .slice a2 ps.length c2] 27)) := (belowRefl w).alloc (Nat.le_refl _) _
 have HC : Hid (Calls Tryz.prog 66 #[.agg #[.slice a1 ss.length c1, .slice a2 ps.length c2], .int .i64 0] (w.alloc (.cells #[.slice a1 ss.length c1, .slice a2 ps.length c2] 27)) fun e w' => e = .returned (.int .i64 (fb (rdR ss ps 0))) ∧ Below (w.alloc (.cells #[.slice a1 ss.length c1, .slice a2 ps.length c2] 27)).heap.size (w.alloc (.cells #[.slice a1 ss.length c1, .slice a2 ps.length c2] 27)) w') := iby62 ss ps 0 a1 a2 c1 c2 hn hm hls hlp _ (hs.below b0) (hp.below b0)
 have HB0 : Hid (Below w.heap.size w (w.alloc (.cells #[.slice a1 ss.length c1, .slice a2 ps.length c2] 27))) := b0
 have hf := fb_le (rdR ss ps 0)
 have h0 := hf.1
 have h1 := hf.2
 have HM : Hid ((fb (rdR ss ps 0)).tmod 2 = act ss ps) := tmod2 _ h0
 have HM2 : Hid (fb (rdR ss ps 0) % 2 = act ss ps) := rfl
 clear hs hp b0 hf hls hlp
 generalize fb (rdR ss ps 0) = t at *
 go_enter Tryz.func30, Tryz.ntmps30
 go_wp2_with (go_at_call 66; refine HC.out.mono ?_; rintro e w2 ⟨rfl, hb2⟩)
 go_ret
 exact ⟨ret_int' (by first | exact HM2.out | exact HM.out), HB0.out.trans (hb2.mono (by simp))⟩

set_option maxHeartbeats 2000000 in
theorem scn27 (ss : List ByteArray) (ps : List Wr) (a : Int) (a1 a2 : Option Addr) (c1 c2 : Nat) (hn : ss.length ≤ 100000000) (hm : ps.length ≤ 100000000) (w : World) (hs : SRow w a1 ss) (hp : PRow w a2 ps) :
  Calls Tryz.prog 41 #[.agg #[.slice a1 ss.length c1, .slice a2 ps.length c2], .int .i64 a] w fun e w' => e = .returned (.int .i64 (cnt ss ps a)) ∧ Below w.heap.size w w' := by
 have b0 : Below w.heap.size w (w.alloc (.cells #[.slice a1 ss.length c1, .slice a2 ps.length c2] 27)) := (belowRefl w).alloc (Nat.le_refl _) _
 cases hA : isA a with
 | true =>
  have HC : Hid (Calls Tryz.prog 79 #[.agg #[.slice a1 ss.length c1, .slice a2 ps.length c2], .int .i64 (af a)] ((w.alloc (.cells #[.slice a1 ss.length c1, .slice a2 ps.length c2] 27))).drew fun e w' => e = .returned (.int .i64 (fb (rdR ss ps (af a)))) ∧ Below ((w.alloc (.cells #[.slice a1 ss.length c1, .slice a2 ps.length c2] 27))).drew.heap.size ((w.alloc (.cells #[.slice a1 ss.length c1, .slice a2 ps.length c2] 27))).drew w') := sby61 ss ps (af a) a1 a2 c1 c2 hn hm _ (hs.below b0).drew (hp.below b0).drew
  have HB0 : Hid (Below w.heap.size w ((w.alloc (.cells #[.slice a1 ss.length c1, .slice a2 ps.length c2] 27))).drew) := b0.drew
  have HM : Hid (fb (rdR ss ps (af a)) = cnt ss ps a) := (if_pos hA).symm
  have HA : Hid (isA a = true) := hA
  have HF : Hid (∀ w : World, Calls Tryz.prog 58 #[.int .i64 a] w fun e w' => e = .returned (.int .i64 (af a)) ∧ w' = w) := saf14 a
  clear hs hp b0 hA
  generalize af a = q at *
  generalize fb (rdR ss ps q) = t at *
  go_enter Tryz.func41, Tryz.ntmps41
  go_wp2_with (go_at_call 83; refine (in57 _ _ _ true HA.out _).mono ?_; rintro e w2 ⟨rfl, rfl⟩)
  go_region_held3 (fun w' => w'.cell? ⟨w.heap.size, 0, none⟩ = some (.slice a1 ss.length c1) ∧ w'.cell? ⟨w.heap.size, 1, none⟩ = some (.slice a2 ps.length c2)) (first | go_keep | exact t4.out) ((first | (go_at_call 58; refine (HF.out _).mono ?_; rintro e w3 ⟨rfl, rfl⟩) | (go_at_call 79; refine HC.out.mono ?_; rintro e w4 ⟨rfl, hb4⟩; have t4 : Hid (w4.cell? ⟨w.heap.size, 0, none⟩ = some (.slice a1 ss.length c1) ∧ w4.cell? ⟨w.heap.size, 1, none⟩ = some (.slice a2 ps.length c2)) := ⟨(hb4.cell (p := ⟨w.heap.size, 0, none⟩) (by simp)).trans (by simp [go_sem]), (hb4.cell (p := ⟨w.heap.size, 1, none⟩) (by simp)).trans (by simp [go_sem])⟩)))
  all_goals
   go_wp2
   go_ret
   exact ⟨ret_int' HM.out, HB0.out.trans (hb4.mono (by simp))⟩
 | false =>
  have HM : Hid (0 = cnt ss ps a) := (if_neg (by simp [hA])).symm
  have HA : Hid (isA a = false) := hA
  have HB0 : Hid (Below w.heap.size w (w.alloc (.cells #[.slice a1 ss.length c1, .slice a2 ps.length c2] 27))) := b0
  clear hs hp b0 hA
  go_enter Tryz.func41, Tryz.ntmps41
  go_wp2_with (go_at_call 83; refine (in57 _ _ _ false HA.out _).mono ?_; rintro e w2 ⟨rfl, rfl⟩)
  go_ret
  exact ⟨ret_int' HM.out, HB0.out⟩

set_option maxHeartbeats 2000000 in
theorem icn28 (ss : List ByteArray) (ps : List Wr) (a : Int) (a1 a2 : Option Addr) (c1 c2 : Nat) (hn : ss.length ≤ 100000000) (hm : ps.length ≤ 100000000) (hls : ∀ s ∈ ss, s.size ≤ 1000000000) (hlp : ∀ p ∈ ps, p.2.size ≤ 1000000000) (w : World) (hs : SRow w a1 ss) (hp : PRow w a2 ps) :
  Calls Tryz.prog 34 #[.agg #[.slice a1 ss.length c1, .slice a2 ps.length c2], .int .i64 a] w fun e w' => e = .returned (.int .i64 (cnt ss ps a)) ∧ Below w.heap.size w w' := by
 have b0 : Below w.heap.size w (w.alloc (.cells #[.slice a1 ss.length c1, .slice a2 ps.length c2] 27)) := (belowRefl w).alloc (Nat.le_refl _) _
 cases hA : isA a with
 | true =>
  have HC : Hid (Calls Tryz.prog 66 #[.agg #[.slice a1 ss.length c1, .slice a2 ps.length c2], .int .i64 (af a)] ((w.alloc (.cells #[.slice a1 ss.length c1, .slice a2 ps.length c2] 27))).drew fun e w' => e = .returned (.int .i64 (fb (rdR ss ps (af a)))) ∧ Below ((w.alloc (.cells #[.slice a1 ss.length c1, .slice a2 ps.length c2] 27))).drew.heap.size ((w.alloc (.cells #[.slice a1 ss.length c1, .slice a2 ps.length c2] 27))).drew w') := iby62 ss ps (af a) a1 a2 c1 c2 hn hm hls hlp _ (hs.below b0).drew (hp.below b0).drew
  have HB0 : Hid (Below w.heap.size w ((w.alloc (.cells #[.slice a1 ss.length c1, .slice a2 ps.length c2] 27))).drew) := b0.drew
  have HM : Hid (fb (rdR ss ps (af a)) = cnt ss ps a) := (if_pos hA).symm
  have HA : Hid (isA a = true) := hA
  have HF : Hid (∀ w : World, Calls Tryz.prog 70 #[.int .i64 a] w fun e w' => e = .returned (.int .i64 (af a)) ∧ w' = w) := iaf15 a
  clear hs hp b0 hA hls hlp
  generalize af a = q at *
  generalize fb (rdR ss ps q) = t at *
  go_enter Tryz.func34, Tryz.ntmps34
  go_wp2_with (go_at_call 76; refine (isa50 _ true HA.out _).mono ?_; rintro e w2 ⟨rfl, rfl⟩)
  go_region_held3 (fun w' => w'.cell? ⟨w.heap.size, 0, none⟩ = some (.slice a1 ss.length c1) ∧ w'.cell? ⟨w.heap.size, 1, none⟩ = some (.slice a2 ps.length c2)) (first | go_keep | exact t4.out) ((first | (go_at_call 70; refine (HF.out _).mono ?_; rintro e w3 ⟨rfl, rfl⟩) | (go_at_call 66; refine HC.out.mono ?_; rintro e w4 ⟨rfl, hb4⟩; have t4 : Hid (w4.cell? ⟨w.heap.size, 0, none⟩ = some (.slice a1 ss.length c1) ∧ w4.cell? ⟨w.heap.size, 1, none⟩ = some (.slice a2 ps.length c2)) := ⟨(hb4.cell (p := ⟨w.heap.size, 0, none⟩) (by simp)).trans (by simp [go_sem]), (hb4.cell (p := ⟨w.heap.size, 1, none⟩) (by simp)).trans (by simp [go_sem])⟩)))
  all_goals
   go_wp2
   go_ret
   exact ⟨ret_int' HM.out, HB0.out.trans (hb4.mono (by simp))⟩
 | false =>
  have HM : Hid (0 = cnt ss ps a) := (if_neg (by simp [hA])).symm
  have HA : Hid (isA a = false) := hA
  have HB0 : Hid (Below w.heap.size w (w.alloc (.cells #[.slice a1 ss.length c1, .slice a2 ps.length c2] 27))) := b0
  clear hs hp b0 hA hls hlp
  go_enter Tryz.func34, Tryz.ntmps34
  go_wp2_with (go_at_call 76; refine (isa50 _ false HA.out _).mono ?_; rintro e w2 ⟨rfl, rfl⟩)
  go_ret
  exact ⟨ret_int' HM.out, HB0.out⟩
end Go.Proofs.YtekjpoenbcnhdaaGreat

namespace Go.Proofs.YtekjpoenbcnhdaaGreat
namespace WM

def varF : Nat → Nat → List UInt8
 | 0, n => [UInt8.ofNat n]
 | f + 1, n => if 127 < n then UInt8.ofNat (n % 128 + 128) :: varF f (n / 128) else [UInt8.ofNat n]

def varL (n : Nat) : List UInt8 := varF n n

theorem varF_eq : ∀ f n, n ≤ f → ∀ g, n ≤ g → varF f n = varF g n := by
 intro f
 induction f with
 | zero =>
  intro n hn g hg
  obtain rfl : n = 0 := by omega
  cases g <;> simp [varF]
 | succ f ih =>
  intro n hn g hg
  cases g with
  | zero =>
   obtain rfl : n = 0 := by omega
   simp [varF]
  | succ g =>
   simp only [varF]
   by_cases h : 127 < n
   ·rw [if_pos h, if_pos h, ih (n / 128) (by omega) g (by omega)]
   ·rw [if_neg h, if_neg h]

theorem varL_big (n : Nat) (h : 127 < n) : varL n = UInt8.ofNat (n % 128 + 128) :: varL (n / 128) := by
 unfold varL
 cases n with
 | zero => omega
 | succ m =>
  rw [varF, if_pos h, varF_eq m ((m + 1) / 128) (by omega) ((m + 1) / 128) (Nat.le_refl _)]

theorem varL_small (n : Nat) (h : n ≤ 127) : varL n = [UInt8.ofNat n] := by
 unfold varL
 cases n with
 | zero => rfl
 | succ m => rw [varF, if_neg (by omega)]

theorem varL_pos (n : Nat) : 1 ≤ (varL n).length := by
 by_cases h : 127 < n
 ·rw [varL_big n h]; simp
 ·rw [varL_small n (by omega)]; simp

theorem varL_len5 (n : Nat) (h : n < 34359738368) : (varL n).length ≤ 5 := by
 have step : ∀ k m, m < k * 128 → (∀ j, j < k → (varL j).length ≤ 4) → (varL m).length ≤ 5 := by
  intro k m hm hj
  by_cases h : 127 < m
  ·rw [varL_big m h]; simp; exact hj _ (by omega)
  ·rw [varL_small m (by omega)]; simp
 have s1 : ∀ m, m < 128 → (varL m).length ≤ 1 := fun m hm => by rw [varL_small m (by omega)]; simp
 have s2 : ∀ m, m < 16384 → (varL m).length ≤ 2 := fun m hm => by
  by_cases h : 127 < m
  ·rw [varL_big m h]; have := s1 (m / 128) (by omega); simp; omega
  ·have := s1 m (by omega); omega
 have s3 : ∀ m, m < 2097152 → (varL m).length ≤ 3 := fun m hm => by
  by_cases h : 127 < m
  ·rw [varL_big m h]; have := s2 (m / 128) (by omega); simp; omega
  ·have := s1 m (by omega); omega
 have s4 : ∀ m, m < 268435456 → (varL m).length ≤ 4 := fun m hm => by
  by_cases h : 127 < m
  ·rw [varL_big m h]; have := s3 (m / 128) (by omega); simp; omega
  ·have := s1 m (by omega); omega
 exact step 268435456 n h s4

def val : List UInt8 → Nat
 | [] => 0
 | b :: t => b.toNat % 128 + 128 * val t

theorem val_snoc (l : List UInt8) (b : UInt8) : val (l ++ [b]) = val l + b.toNat % 128 * 128 ^ l.length := by
 induction l with
 | nil => simp [val]
 | cons c t ih =>
  simp only [List.cons_append, val, ih, List.length_cons, Nat.pow_succ]
  rw [Nat.mul_add, Nat.mul_comm (128 ^ t.length) 128, ← Nat.mul_assoc, Nat.mul_comm 128 (b.toNat % 128), ← Nat.mul_assoc]
  omega

theorem ofNat_high (c : UInt8) (h : 128 ≤ c.toNat) : UInt8.ofNat (c.toNat % 128 + 128) = c := by
 apply UInt8.toNat_inj.1
 have := c.toNat_lt
 simp only [UInt8.toNat_ofNat']
 omega

theorem var_val : ∀ (pre : List UInt8) (b : UInt8), (∀ c ∈ pre, 128 ≤ c.toNat) → b.toNat < 128 →
  (varL (val (pre ++ [b])) = pre ++ [b] ↔ ¬ (b.toNat = 0 ∧ 0 < pre.length)) := by
 intro pre
 induction pre with
 | nil =>
  intro b _ hb
  have e : val ([] ++ [b]) = b.toNat := by simp [val]; omega
  rw [e, varL_small _ (by omega)]
  simp
 | cons c p ih =>
  intro b hc hb
  have hcc := hc c (by simp)
  have ih' := ih b (fun d hd => hc d (by simp [hd])) hb
  have hclt := c.toNat_lt
  have e : val ((c :: p) ++ [b]) = c.toNat % 128 + 128 * val (p ++ [b]) := by simp [val]
  rw [e]
  by_cases hm : val (p ++ [b]) = 0
  ·rw [hm, varL_small _ (by omega)]
   have hb0 : b.toNat = 0 := by
    rw [val_snoc] at hm
    have hp : 0 < 128 ^ p.length := Nat.pow_pos (by omega)
    have : b.toNat % 128 * 128 ^ p.length = 0 := by omega
    rcases Nat.mul_eq_zero.1 this with h | h
    ·omega
    ·omega
   constructor
   ·intro h
    have := congrArg List.length h
    simp at this
   ·intro h; exact absurd ⟨hb0, by simp⟩ h
  ·rw [varL_big _ (by omega)]
   have e1 : (c.toNat % 128 + 128 * val (p ++ [b])) % 128 = c.toNat % 128 := by omega
   have e2 : (c.toNat % 128 + 128 * val (p ++ [b])) / 128 = val (p ++ [b]) := by omega
   rw [e1, e2, ofNat_high c hcc]
   constructor
   ·intro h
    have h' : varL (val (p ++ [b])) = p ++ [b] := by
     have := List.cons.inj h
     exact this.2
    have n1 := ih'.1 h'
    intro ⟨hb0, _⟩
    by_cases hp : p = []
    ·subst hp
     simp [val, hb0] at hm
    ·exact n1 ⟨hb0, by cases p with | nil => exact absurd rfl hp | cons _ _ => simp⟩
   ·intro h
    have : varL (val (p ++ [b])) = p ++ [b] := by
     apply ih'.2
     intro ⟨h1, h2⟩
     exact h ⟨h1, by simp⟩
    rw [this]; rfl

def rvGo : Nat → Nat → Nat → List UInt8 → Option (Nat × Nat)
 | 0, _, _, _ => none
 | _ + 1, _, _, [] => none
 | f + 1, n, k, b :: t =>
  if b.toNat < 128 then
   (if 1000000000 < n + b.toNat % 128 * 128 ^ k ∨ (b.toNat = 0 ∧ 0 < k) then none else some (n + b.toNat % 128 * 128 ^ k, k + 1))
  else rvGo f (n + b.toNat % 128 * 128 ^ k) (k + 1) t

def rv (l : List UInt8) : Option (Nat × Nat) := rvGo 5 0 0 l

theorem rvGo_bd : ∀ f n k l r, rvGo f n k l = some r → r.1 ≤ 1000000000 ∧ k < r.2 ∧ r.2 ≤ k + l.length := by
 intro f
 induction f with
 | zero => intro n k l r h; simp [rvGo] at h
 | succ f ih =>
  intro n k l r h
  cases l with
  | nil => simp [rvGo] at h
  | cons b t =>
   simp only [rvGo] at h
   split at h
   ·split at h
    ·cases h
    ·cases h; simp only [List.length_cons]; omega
   ·have := ih _ _ _ _ h
    simp only [List.length_cons]
    omega

end WM
end Go.Proofs.YtekjpoenbcnhdaaGreat

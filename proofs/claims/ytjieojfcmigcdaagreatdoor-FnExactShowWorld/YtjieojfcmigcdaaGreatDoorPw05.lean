/- What impl.figureValues returns: what each byte is worth as one of the first figures. -/
import Derived.Test.YtjieojfcmigcdaaGreatDoorPw04
import Derived.Deep.QuietTactic
import Derived.BigQuiet
import Derived.Deep.LoopGhost
import Derived.WalkMore
import Derived.Shelf.Small.Bits
import Derived.Shelf.Strconv.Itoa0
import Derived.Shelf.Strconv.Itoa1
import Derived.Shelf.LaysM
import Derived.Shelf.Strconv.Itoa2
import Derived.Shelf.Strconv.Itoa3
import Derived.Shelf.Strconv.Clone
import Derived.Test.YtjieojfcmigcdaaGreatDoorProg
import Derived.Lib.ItoaLen
import Derived.Lib.ItoaMem
import Derived.Lib.AppendIntMem
import Derived.OpenShut
import Derived.Test.YtjieojfcmigcdaaGreatDoorPw03
import Derived.WalkKit
import Derived.Test.YtjieojfcmigcdaaGreatDoorPw01
import Derived.WalkSpells
import Derived.WalkLawsBesides
import Derived.Deep.RegionHeld3
import Derived.Deep.DrawnRows
import Derived.Deep.AppendLies
import Derived.Test.YtjieojfcmigcdaaGreatDoorPw02
namespace Go.Proofs.YtjieojfcmigcdaaGreatDoor
open Go.RowKit
open KM (take_snoc)

theorem Own.shape {w : World} {base : Nat} {v : Value} {l : List UInt8} (h : Own w base v l) (hl : 0 < l.length) :
  ∃ g cap, v = .slice (some ⟨g, 0, none⟩) l.length cap ∧ g < w.heap.size ∧ ∀ j (hj : j < l.length), w.cell? ⟨g, j, none⟩ = some (.int .u8 (l[j].toNat : Int)) := by
 have h0 := h
 rcases h.2 with ⟨rfl, h1⟩ | ⟨g, cap, cur, rfl, hg, hh, hnc, hcp, hcs, htake⟩
 ·omega
 ·refine ⟨g, cap, rfl, (World.ownsRow.lt h0 g rfl).2, fun j hj => ?_⟩
  rw [World.ownsRow.cellAt h0 j (by omega)]
  simp [bv, hj]

end Go.Proofs.YtjieojfcmigcdaaGreatDoor

namespace Go.Proofs
open Go.Shelf
def Tryz.laysM171_ren : Go.Shelf.Ren := ⟨fun | 171 => 66 | 243 => 82 | 246 => 96 | 283 => 101 | 284 => 102 | 285 => 103 | 286 => 104 | 129 => 108 | 317 => 107 | 318 => 109 | 319 => 110 | 320 => 111 | 337 => 122 | 338 => 123 | n => n, fun | 3 => 3 | 9 => 9 | 2 => 2 | 4 => 4 | 171 => 175 | 0 => 0 | 53 => 176 | 37 => 72 | 5 => 5 | 173 => 179 | 212 => 186 | 51 => 187 | 20 => 20 | 213 => 188 | 46 => 183 | 232 => 207 | 233 => 208 | n => n, fun | 17 => 1 | 18 => 2 | 19 => 3 | n => n⟩
theorem Tryz.laysM171 : Go.Proofs.LaysM.n171 Tryz.prog Tryz.laysM171_ren := {
 mixed := by kernel_rfl
 f129 := Tryz.func108.trans (congrArg some (by kernel_rfl))
 f171 := Tryz.func66.trans (congrArg some (by kernel_rfl))
 f243 := Tryz.func82.trans (congrArg some (by kernel_rfl))
 f246 := Tryz.func96.trans (congrArg some (by kernel_rfl))
 f283 := Tryz.func101.trans (congrArg some (by kernel_rfl))
 f284 := Tryz.func102.trans (congrArg some (by kernel_rfl))
 f285 := Tryz.func103.trans (congrArg some (by kernel_rfl))
 f286 := Tryz.func104.trans (congrArg some (by kernel_rfl))
 f317 := Tryz.func107.trans (congrArg some (by kernel_rfl))
 f318 := Tryz.func109.trans (congrArg some (by kernel_rfl))
 f319 := Tryz.func110.trans (congrArg some (by kernel_rfl))
 f320 := Tryz.func111.trans (congrArg some (by kernel_rfl))
 f337 := Tryz.func122.trans (congrArg some (by kernel_rfl))
 f338 := Tryz.func123.trans (congrArg some (by kernel_rfl))
 t0 := Tryz.underlying0
 a0 := Tryz.isAgg0
 z0 := Tryz.sizeOf0
 v0 := Tryz.zeroValue0
 t2 := Tryz.underlying2
 a2 := Tryz.isAgg2
 z2 := Tryz.sizeOf2
 v2 := Tryz.zeroValue2
 t3 := Tryz.underlying3
 a3 := Tryz.isAgg3
 z3 := Tryz.sizeOf3
 v3 := Tryz.zeroValue3
 t4 := Tryz.underlying4
 a4 := Tryz.isAgg4
 z4 := Tryz.sizeOf4
 v4 := Tryz.zeroValue4
 t5 := Tryz.underlying5
 a5 := Tryz.isAgg5
 z5 := Tryz.sizeOf5
 v5 := Tryz.zeroValue5
 t9 := Tryz.underlying9
 a9 := Tryz.isAgg9
 z9 := Tryz.sizeOf9
 v9 := Tryz.zeroValue9
 t20 := Tryz.underlying20
 a20 := Tryz.isAgg20
 z20 := Tryz.sizeOf20
 v20 := Tryz.zeroValue20
 t37 := Tryz.underlying72
 a37 := Tryz.isAgg72
 z37 := Tryz.sizeOf72
 v37 := Tryz.zeroValue72
 t46 := Tryz.underlying183
 a46 := Tryz.isAgg183
 z46 := Tryz.sizeOf183
 v46 := Tryz.zeroValue183
 t51 := Tryz.underlying187
 a51 := Tryz.isAgg187
 z51 := Tryz.sizeOf187
 v51 := Tryz.zeroValue187
 t53 := Tryz.underlying176
 a53 := Tryz.isAgg176
 z53 := Tryz.sizeOf176
 v53 := Tryz.zeroValue176
 t171 := Tryz.underlying175
 a171 := Tryz.isAgg175
 z171 := Tryz.sizeOf175
 v171 := Tryz.zeroValue175
 t173 := Tryz.underlying179
 a173 := Tryz.isAgg179
 z173 := Tryz.sizeOf179
 v173 := Tryz.zeroValue179
 t212 := Tryz.underlying186
 a212 := Tryz.isAgg186
 z212 := Tryz.sizeOf186
 v212 := Tryz.zeroValue186
 t213 := Tryz.underlying188
 a213 := Tryz.isAgg188
 z213 := Tryz.sizeOf188
 t232 := Tryz.underlying207
 a232 := Tryz.isAgg207
 z232 := Tryz.sizeOf207
 v232 := Tryz.zeroValue207
 t233 := Tryz.underlying208
 a233 := Tryz.isAgg208
 z233 := Tryz.sizeOf208
 v233 := Tryz.zeroValue208
 g17 := by kernel_rfl
 g18 := by kernel_rfl
 g19 := by kernel_rfl
 i0 := by kernel_rfl
 i2 := by kernel_rfl
 i3 := by kernel_rfl
 i4 := by kernel_rfl
 i5 := by kernel_rfl
 i9 := by kernel_rfl
 i20 := by kernel_rfl
 i37 := by kernel_rfl
 i46 := by kernel_rfl
 i51 := by kernel_rfl
 i53 := by kernel_rfl
 i171 := by kernel_rfl
 i173 := by kernel_rfl
 i212 := by kernel_rfl
 i232 := by kernel_rfl
 i233 := by kernel_rfl
 m17 := by kernel_rfl
 m18 := by kernel_rfl
 m19 := by kernel_rfl }
open Go.RowKit Go.Sort Go.Lib in
theorem Tryz.strconv_Itoa (n : Int) (h0 : -9223372036854775808 ≤ n) (h1 : n ≤ 9223372036854775807) (w : World) (htab : Lib.TabIs Tryz.prog w "internal/strconv.uint64pow10" .u64 Lib.pow10Tab) :
  Calls Tryz.prog 66 #[.int .i64 n] w fun e w' => e = .returned (.string ⟨(Lib.itoa n).toArray⟩) ∧ ∃ k os, w' = grow (w.drewN k) os := Any.strconv_Itoa Tryz.laysM171 n h0 h1 w htab
end Go.Proofs

namespace Go.Proofs.YtjieojfcmigcdaaGreatDoor
open Go.RowKit

theorem dd_lenW (m : Nat) (h : m < 18446744073709551616) : (dd m).length ≤ 20 := by
 unfold dd
 split
 ·simp
 ·rw [Lib.decDigits_length]; exact Lib.nDigits_le20 m h

theorem app_dataW (b : UInt8) (s : ByteArray) : ((⟨#[b]⟩ : ByteArray) ++ s).data.toList = b :: s.data.toList := by
 simp

theorem fig_decW (m : Nat) : WM.fig (m % 10) = UInt8.ofNat (48 + m % 10) := by
 unfold WM.fig; rw [if_pos (by omega)]

theorem dd_roundW {m N : Nat} {s : ByteArray} (hm : 0 < m) (h : dd m ++ s.data.toList = dd N) : dd (m / 10) ++ ((⟨#[WM.fig (m % 10)]⟩ : ByteArray) ++ s).data.toList = dd N := by
 rw [app_dataW, fig_decW, ← h, dd_step m hm]
 simp

theorem round_sizeW {m N : Nat} {s : ByteArray} (hN : N < 18446744073709551616) (h : dd m ++ s.data.toList = dd N) : s.size ≤ 20 := by
 have h1 := dd_lenW N hN
 have h2 := congrArg List.length h
 simp at h2
 omega

theorem conv1W (wr : World) (b : UInt8) : (convert 72 9 (.slice (some ⟨wr.heap.size, 0, none⟩) 1 1)).run Tryz.prog (wr.alloc (.cells #[.int .u8 (b.toNat : Int)] 5)) = .ok (.string ⟨#[b]⟩) (wr.alloc (.cells #[.int .u8 (b.toNat : Int)] 5)) := by
 have h : Own (wr.alloc (.cells #[.int .u8 (b.toNat : Int)] 5)) wr.heap.size (.slice (some ⟨wr.heap.size, 0, none⟩) 1 1) [b] :=
  World.ownsRow_lit (size := 1) wr #[.int .u8 (b.toNat : Int)] 1 (Nat.le_refl _) (by unfold maxLen; omega) rfl
 exact h.str

set_option maxRecDepth 100000 in
set_option maxHeartbeats 400000 in
theorem sdec_zero (w : World) : Calls Tryz.prog 18 #[.int .i64 0] w fun e w' => e = .returned (.string ⟨(Lib.itoa 0).toArray⟩) ∧ Below w.heap.size w w' := by
 go_enter Tryz.func18, Tryz.ntmps18
 go_wp2
 go_ret
 refine ⟨ret_str ?_, Below.refl _ _⟩
 have : Lib.itoa 0 = [48] := by
  have := Lib.itoa_nonneg 0
  rw [show ((0 : Nat) : Int) = 0 from rfl] at this
  rw [this, Lib.decDigits_one (by omega)]
  rfl
 rw [this]

set_option maxRecDepth 100000 in
set_option maxHeartbeats 1000000 in
theorem sdec_pos (N : Nat) (h0 : 0 < N) (h1 : N ≤ 9223372036854775807) (w : World) : Calls Tryz.prog 18 #[.int .i64 N] w fun e w' => e = .returned (.string ⟨(Lib.itoa (N : Int)).toArray⟩) ∧ Below w.heap.size w w' := by
 have hz : ((N : Int) == 0) = false := by rw [beq_eq_false_iff_ne]; omega
 have hd : decide ((N : Int) < 0) = false := by simp
 have hf : Hid (Lib.itoa (N : Int) = dd N) := by
  show _ = _
  rw [Lib.itoa_nonneg, dd, if_neg (by omega)]
 go_enter Tryz.func18, Tryz.ntmps18
 go_wp2
 go_loopw [0, 4] (fun t v wr => ∃ (m : Nat) (s : ByteArray), m ≤ N ∧ t = .int .i64 m ∧ v = .string s ∧ Hid (dd m ++ s.data.toList = dd N) ∧ Below w.heap.size w wr) (fun t _ _ => (intOf t).toNat)
 case atStart => exact ⟨N, ⟨#[]⟩, Nat.le_refl _, rfl, rfl, by show _ = _; simp, Below.refl _ _⟩
 case round =>
  obtain ⟨m, s, hm, rfl, rfl, HE, hb⟩ := hrel
  have hsz := round_sizeW (by omega) HE.out
  by_cases hpos : 0 < m
  ·have hne : ((m : Int) != 0) = true := by rw [bne_iff_ne]; omega
   have HE2 : Hid _ := dd_roundW hpos HE.out
   have hcv := conv1W wr (WM.fig (m % 10))
   have hsz2 : (⟨#[WM.fig (m % 10)]⟩ : ByteArray).size ≤ 1 := Nat.le_refl _
   have hnn : ¬ (m : Int) % 10 < 0 := by omega
   go_wp2_with (go_at_call 40; refine (fig9 _ (by omega) (by omega) _).mono ?_; rintro e w' ⟨rfl, rfl⟩; rw [show ((m : Int) % 10).toNat = m % 10 by omega])
   go_roundw
   case rel => exact ⟨m / 10, _, by omega, by go_num, rfl, HE2, hb.alloc hb.size _⟩
   case measure => simp [intOf]; omega
  ·have hne : ((m : Int) != 0) = false := by rw [bne_eq_false_iff_eq]; omega
   have HS : Hid (s.data.toList = dd N) := by
    have h := HE.out
    rw [show m = 0 by omega] at h
    exact h
   go_wp2
   go_ret
   refine ⟨ret_str ?_, hb⟩
   rw [HS.out, hf.out]

theorem tm10 (m : Nat) : (-(m : Int)).tmod 10 = -((m % 10 : Nat) : Int) := by
 rw [Int.neg_tmod, Int.tmod_eq_emod_of_nonneg (by omega)]; omega
theorem td10 (m : Nat) : (-(m : Int)).tdiv 10 = -((m / 10 : Nat) : Int) := by
 rw [Int.neg_tdiv, Int.tdiv_eq_ediv_of_nonneg (by omega)]; omega

set_option maxRecDepth 100000 in
set_option maxHeartbeats 1000000 in
theorem sdec_neg (N : Nat) (h0 : 0 < N) (h1 : N ≤ 9223372036854775808) (w : World) : Calls Tryz.prog 18 #[.int .i64 (-(N : Int))] w fun e w' => e = .returned (.string ⟨(Lib.itoa (-(N : Int))).toArray⟩) ∧ Below w.heap.size w w' := by
 have hz : (-(N : Int) == 0) = false := by rw [beq_eq_false_iff_ne]; omega
 have hd : decide (-(N : Int) < 0) = true := by simp; omega
 have hf : Hid (Lib.itoa (-(N : Int)) = 45 :: dd N) := by
  show _ = _
  rw [Lib.itoa_neg N h0, dd, if_neg (by omega)]
 go_enter Tryz.func18, Tryz.ntmps18
 go_wp2
 go_loopw [0, 4] (fun t v wr => ∃ (m : Nat) (s : ByteArray), m ≤ N ∧ t = .int .i64 (-(m : Int)) ∧ v = .string s ∧ Hid (dd m ++ s.data.toList = dd N) ∧ Below w.heap.size w wr) (fun t _ _ => (-(intOf t)).toNat)
 case atStart => exact ⟨N, ⟨#[]⟩, Nat.le_refl _, rfl, rfl, by show _ = _; simp, Below.refl _ _⟩
 case round =>
  obtain ⟨m, s, hm, rfl, rfl, HE, hb⟩ := hrel
  have hsz := round_sizeW (by omega) HE.out
  by_cases hpos : 0 < m
  ·have hne : (-(m : Int) != 0) = true := by rw [bne_iff_ne]; omega
   have HE2 : Hid _ := dd_roundW hpos HE.out
   have hcv := conv1W wr (WM.fig (m % 10))
   have hsz2 : (⟨#[WM.fig (m % 10)]⟩ : ByteArray).size ≤ 1 := Nat.le_refl _
   have e1 := tm10 m
   have e2 := td10 m
   by_cases hr : 0 < m % 10
   ·go_wp2_with (go_at_call 40; refine (fig9 _ (by omega) (by omega) _).mono ?_; rintro e w' ⟨rfl, rfl⟩)
    go_roundw
    case rel => exact ⟨m / 10, _, by omega, by go_num, rfl, HE2, hb.alloc hb.size _⟩
    case measure => simp [intOf]; omega
   ·have hr' : (m : Int) % 10 ≤ 0 := by omega
    go_wp2_with (go_at_call 40; refine (fig9 _ (by omega) (by omega) _).mono ?_; rintro e w' ⟨rfl, rfl⟩; rw [show (-((m : Int) % 10)).toNat = m % 10 by omega])
    go_roundw
    case rel => exact ⟨m / 10, _, by omega, by go_num, rfl, HE2, hb.alloc hb.size _⟩
    case measure => simp [intOf]; omega
  ·have hne : (-(m : Int) != 0) = false := by rw [bne_eq_false_iff_eq]; omega
   have HS : Hid (s.data.toList = dd N) := by
    have h := HE.out
    rw [show m = 0 by omega] at h
    exact h
   go_wp2
   go_ret
   refine ⟨ret_str ?_, hb⟩
   rw [app_dataW, HS.out, hf.out]

theorem sdec (n : Int) (h0 : -9223372036854775808 ≤ n) (h1 : n ≤ 9223372036854775807) (w : World) : Calls Tryz.prog 18 #[.int .i64 n] w fun e w' => e = .returned (.string ⟨(Lib.itoa n).toArray⟩) ∧ Below w.heap.size w w' := by
 by_cases hz : n = 0
 ·subst hz; exact sdec_zero w
 by_cases hp : 0 < n
 ·obtain ⟨N, rfl⟩ : ∃ N : Nat, n = N := ⟨n.toNat, by omega⟩
  exact sdec_pos N (by omega) (by omega) w
 ·obtain ⟨N, rfl⟩ : ∃ N : Nat, n = -(N : Int) := ⟨n.natAbs, by omega⟩
  exact sdec_neg N (by omega) (by omega) w

def Tab (w : World) : Prop := Lib.TabIs Tryz.prog w "internal/strconv.uint64pow10" .u64 Lib.pow10Tab

theorem itoa10 (n : Int) (h0 : -9223372036854775808 ≤ n) (h1 : n ≤ 9223372036854775807) (w : World) (ht : Tab w) : Calls Tryz.prog 66 #[.int .i64 n] w fun e w' => e = .returned (.string ⟨(Lib.itoa n).toArray⟩) ∧ Below w.heap.size w w' :=
 (Tryz.strconv_Itoa n h0 h1 w ht).mono fun e w' ⟨he, k, os, hw⟩ => ⟨he, by rw [hw]; exact Lib.below_grow _ _ (Nat.le_refl _) _ _⟩

set_option maxHeartbeats 400000 in
theorem idec (n : Int) (h0 : -9223372036854775808 ≤ n) (h1 : n ≤ 9223372036854775807) (w : World) (ht : Tab w) : Calls Tryz.prog 48 #[.int .i64 n] w fun e w' => e = .returned (.string ⟨(Lib.itoa n).toArray⟩) ∧ Below w.heap.size w w' := by
 have T : Hid (Tab w) := ht
 clear ht
 go_enter Tryz.func48, Tryz.ntmps48
 go_wp2_with (go_at_call 66; refine (itoa10 n h0 h1 w T.out).mono ?_; rintro e w' ⟨rfl, hb⟩)
 go_ret
 exact ⟨rfl, hb⟩

theorem gPow : Tryz.prog.globalNamed "internal/strconv.uint64pow10" = some 1 := by kernel_rfl

theorem Tab.below {w w' : World} (h : Tab w) (hb : Below w.heap.size w w') : Tab w' := by
 have hlt : 1 < w.heap.size := by
  have h1 : w.var? Tryz.prog "internal/strconv.uint64pow10" = some (Lib.pow10Tab.map fun z => Value.int .u64 z).toArray := h
  unfold World.var? at h1
  simp only [gPow, Option.bind_some] at h1
  by_cases hz : 1 < w.heap.size
  ·exact hz
  ·rw [Array.getElem?_eq_none (by omega)] at h1
   simp at h1
 exact var?_below hb gPow hlt h

end Go.Proofs.YtjieojfcmigcdaaGreatDoor

namespace Go.Proofs.YtjieojfcmigcdaaGreatDoor
open Go.RowKit
open KM
attribute [local go_sem ↓] Go.wp_at_zero Go.wp_at_succ

set_option maxRecDepth 100000 in
set_option maxHeartbeats 1000000 in
theorem iin (f t k : ByteArray) (w : World) : Calls Tryz.prog 84 #[.agg #[.string f, .string t], .string k] w fun e w' => e = .returned (.bool (inB (f, t) k)) ∧ Below w.heap.size w w' := by
 cases h : le f k
 ·have h' : (Op.bytesLess f.toList k.toList || f.toList == k.toList) = false := h
  go_enter Tryz.func84, Tryz.ntmps84
  go_wp2
  go_ret
  exact ⟨ret_bool (by unfold inB; rw [h]; rfl), (belowRefl w).alloc (Nat.le_refl _) _⟩
 ·have h' : (Op.bytesLess f.toList k.toList || f.toList == k.toList) = true := h
  go_enter Tryz.func84, Tryz.ntmps84
  go_wp2
  go_ret
  exact ⟨ret_bool (by unfold inB; rw [h]; rfl), (belowRefl w).alloc (Nat.le_refl _) _⟩

set_option maxRecDepth 100000 in
set_option maxHeartbeats 1000000 in
theorem sin (f t k : ByteArray) (w : World) : Calls Tryz.prog 59 #[.agg #[.string f, .string t], .string k] w fun e w' => e = .returned (.bool (inB (f, t) k)) ∧ Below w.heap.size w w' := by
 cases h : le f k
 ·have h' : (!Op.bytesLess k.toList f.toList) = false := (not_lt k f).trans h
  go_enter Tryz.func59, Tryz.ntmps59
  go_wp2
  go_ret
  exact ⟨ret_bool (by unfold inB; rw [h]; rfl), (belowRefl w).alloc (Nat.le_refl _) _⟩
 ·have h' : (!Op.bytesLess k.toList f.toList) = true := (not_lt k f).trans h
  go_enter Tryz.func59, Tryz.ntmps59
  go_wp2
  go_ret
  exact ⟨ret_bool (by unfold inB; rw [h]; rfl), (belowRefl w).alloc (Nat.le_refl _) _⟩

end Go.Proofs.YtjieojfcmigcdaaGreatDoor

namespace Go.Proofs.YtjieojfcmigcdaaGreatDoor
open Go.RowKit
open KM

theorem Tryz.info97 : (Tryz.prog.info? 97).map (fun i => (i.zero, i.size, i.bytes)) = some (some (.agg #[.string ByteArray.empty, .string ByteArray.empty]), 2, 32) := by kernel_rfl
end Go.Proofs.YtjieojfcmigcdaaGreatDoor

namespace Go.Proofs.YtjieojfcmigcdaaGreatDoor
open Go.RowKit
open KM

structure Tx where
 id : Int
 st : Int
 snap : Int
 cs : Int
 rs : List Rg
 ws : List Wt
 out : Bool
 nm : ByteArray
def txV (t : Tx) (ra : Option Addr) (rc : Nat) (wa : Option Addr) (wc : Nat) : List Value :=
 [.int .i64 t.id, .int .i64 t.st, .int .i64 t.snap, .int .i64 t.cs, .slice ra t.rs.length rc, .slice wa t.ws.length wc, .bool t.out, .string t.nm]
def TFit (t : Tx) : Prop := t.rs.length ≤ 1048576 ∧ RFit t.rs ∧ t.ws.length ≤ 1048576 ∧ WFit t.ws ∧ t.nm.size ≤ 1048576
structure TRow (w : World) (t : Tx) (ra wa : Option Addr) : Prop where
 r : GRow encR w ra t.rs
 w : GRow encW w wa t.ws
theorem TRow.below {w w' : World} {t : Tx} {ra wa : Option Addr} (h : TRow w t ra wa) (hb : Below w.heap.size w w') : TRow w' t ra wa := ⟨h.r.below hb, h.w.below hb⟩
end Go.Proofs.YtjieojfcmigcdaaGreatDoor

namespace Go.Proofs.YtjieojfcmigcdaaGreatDoor
open Go.RowKit
open KM
attribute [local go_sem ↓] Go.wp_at_zero Go.wp_at_succ

end Go.Proofs.YtjieojfcmigcdaaGreatDoor

namespace Go.Proofs.YtjieojfcmigcdaaGreatDoor
open Go.RowKit
open KM
attribute [local go_sem ↓] Go.wp_at_zero Go.wp_at_succ

set_option maxRecDepth 100000 in
set_option maxHeartbeats 1000000 in
theorem szw (f t : ByteArray) (g : Bool) (left : Int) (h0 : 0 ≤ left) (hl : left ≤ 1048576) (hf : f.size ≤ maxLen) (ht : t.size ≤ maxLen) (w : World) :
  Calls Tryz.prog 89 #[.agg #[.string f, .string t, .bool g], .int .i64 left] w fun e w' => ∃ r : Int, e = .returned (.int .i64 r) ∧ Room f t left r ∧ Below w.heap.size w w' := by
 unfold maxLen at hf ht
 have e1 : IntKind.i64.wrap (left - (f.size : Int)) = left - f.size := by rw [IntKind.wrap_i64]; omega
 by_cases h1 : left - (f.size : Int) < 0
 ·go_enter Tryz.func89, Tryz.ntmps89
  go_wp2
  go_ret
  exact ⟨_, rfl, Or.inl (by omega), (belowRefl w).alloc (Nat.le_refl _) _⟩
 have h1' : ¬ left - (f.size : Int) < 0 := h1
 have e2 : IntKind.i64.wrap (left - (f.size : Int) - (t.size : Int)) = left - f.size - t.size := by rw [IntKind.wrap_i64]; omega
 by_cases h2 : left - (f.size : Int) - (t.size : Int) < 0
 ·go_enter Tryz.func89, Tryz.ntmps89
  go_wp2
  go_ret
  exact ⟨_, rfl, Or.inl (by omega), (belowRefl w).alloc (Nat.le_refl _) _⟩
 ·have h2' : ¬ left - (f.size : Int) - (t.size : Int) < 0 := h2
  go_enter Tryz.func89, Tryz.ntmps89
  go_wp2
  go_ret
  exact ⟨_, rfl, Or.inr ⟨by omega, by omega, by omega⟩, (belowRefl w).alloc (Nat.le_refl _) _⟩

set_option maxHeartbeats 400000 in
theorem tow (f t : ByteArray) (g : Bool) (w : World) :
  Calls Tryz.prog 91 #[.agg #[.string f, .string t, .bool g]] w fun e w' => e = .returned (.agg #[.string f, .string t, .bool g]) ∧ Below w.heap.size w w' := by
 go_enter Tryz.func91, Tryz.ntmps91
 go_wp2
 exact bodyPost_ret (v := .agg #[.string f, .string t, .bool g]) (by simp [results, Tryz.results91, go_sem]) rfl ⟨rfl, (((belowRefl w).alloc (Nat.le_refl _) _).alloc (by simp) _).alloc (by simp; omega) _⟩

end Go.Proofs.YtjieojfcmigcdaaGreatDoor

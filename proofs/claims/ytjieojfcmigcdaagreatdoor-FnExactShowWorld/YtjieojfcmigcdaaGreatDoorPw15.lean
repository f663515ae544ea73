/- report.pairs, and what ShowPairs of both sides tells. -/
import Derived.Test.YtjieojfcmigcdaaGreatDoorPw14
import Derived.Test.YtjieojfcmigcdaaGreatDoorPw12
import Derived.Test.YtjieojfcmigcdaaGreatDoorPw13
import Derived.Test.YtjieojfcmigcdaaGreatDoorPw05
namespace Go.Proofs.YtjieojfcmigcdaaGreatDoor
open Go.RowKit
open KM
attribute [local go_sem ↓] Go.wp_at_zero Go.wp_at_succ

def hexT (s : ByteArray) : ByteArray := if s.size ≤ 20000 then ⟨(WM.hexL s.data.toList).toArray⟩ else ⟨#[]⟩
theorem hexL_size (s : ByteArray) (h : s.size ≤ 20000) : (⟨(WM.hexL s.data.toList).toArray⟩ : ByteArray).size ≤ 40000 := by
 have e : s.data.toList.length = s.size := Array.length_toList
 have e2 : (⟨(WM.hexL s.data.toList).toArray⟩ : ByteArray).size = (WM.hexL s.data.toList).length := List.size_toArray
 rw [e2, WM.hexL_len, e]; omega
theorem none_le (n : Nat) : (⟨#[]⟩ : ByteArray).size ≤ n := Nat.zero_le n
theorem hexT_size (s : ByteArray) : (hexT s).size ≤ 40000 := by
 unfold hexT
 by_cases h : s.size ≤ 20000
 ·rw [if_pos h]; exact hexL_size s h
 ·rw [if_neg h]; exact none_le 40000
def wordT (x : Rg) : ByteArray := x.1 ++ ⟨#[61]⟩ ++ hexT x.2
def pairsL (xs : List Rg) : List UInt8 := xs.flatMap fun x => lineL [wordT x]
theorem lineL_one (t : ByteArray) : lineL [t] = t.data.toList ++ [10] := by
 unfold lineL
 rw [List.map_cons, List.map_nil, Lib.join_one]
theorem wordT_size (x : Rg) : (wordT x).size ≤ x.1.size + 40001 := by
 unfold wordT
 have := hexT_size x.2
 rw [ByteArray.size_append, ByteArray.size_append]
 have e : (⟨#[61]⟩ : ByteArray).size = 1 := rfl
 omega
theorem wordT_line (x : Rg) : (lineL [wordT x]).length ≤ x.1.size + 40002 := by
 have h2 := wordT_size x
 have e : (wordT x).data.toList.length = (wordT x).size := Array.length_toList
 rw [lineL_one, List.length_append, e]
 simp only [List.length_cons, List.length_nil]; omega
theorem pairsL_snoc (xs : List Rg) (k : Nat) (h : k < xs.length) : pairsL (xs.take (k + 1)) = pairsL (xs.take k) ++ lineL [wordT xs[k]] := by
 unfold pairsL
 rw [List.take_succ_eq_append_getElem h, List.flatMap_append]
 simp
theorem pairsL_len {xs : List Rg} (hf : RFit xs) (k : Nat) : (pairsL (xs.take k)).length ≤ k * 1088578 := by
 induction k with
 | zero => simp [pairsL]
 | succ k ih =>
  by_cases h : k < xs.length
  ·rw [pairsL_snoc xs k h, List.length_append]
   have h1 := (hf xs[k] (List.getElem_mem h)).1
   have h2 := wordT_line xs[k]
   omega
  ·rw [List.take_of_length_le (by omega)]
   rw [List.take_of_length_le (by omega)] at ih
   exact Nat.le_trans ih (Nat.mul_le_mul_right _ (Nat.le_succ k))

set_option maxHeartbeats 1000000 in
theorem ihexT (s : ByteArray) (w : World) : Calls Tryz.prog 67 #[.string s] w fun e w' => ∃ ok : Bool, e = .returned (.tuple #[.string (hexT s), .bool ok]) ∧ Below w.heap.size w w' := by
 by_cases h : s.size ≤ 20000
 ·refine (ihex_yes s h w).mono ?_
  rintro e w' ⟨rfl, hb⟩
  exact ⟨true, by rw [hexT, if_pos h], hb⟩
 ·refine (ihex_no s (by omega) w).mono ?_
  rintro e w' ⟨rfl, hb⟩
  exact ⟨false, by rw [hexT, if_neg h], by first | exact hb | exact (hb ▸ belowRefl w)⟩

theorem shexT (s : ByteArray) (w : World) : Calls Tryz.prog 41 #[.string s] w fun e w' => ∃ ok : Bool, e = .returned (.tuple #[.string (hexT s), .bool ok]) ∧ Below w.heap.size w w' := by
 by_cases h : s.size ≤ 20000
 ·refine (shex_yes s h w).mono ?_
  rintro e w' ⟨rfl, hb⟩
  exact ⟨true, by rw [hexT, if_pos h], hb⟩
 ·refine (shex_no s (by omega) w).mono ?_
  rintro e w' ⟨rfl, hb⟩
  exact ⟨false, by rw [hexT, if_neg h], by first | exact hb | exact (hb ▸ belowRefl w)⟩

theorem oneStr (w : World) (t : ByteArray) : ∀ (j : Nat) x, [t][j]? = some x → (w.alloc (.cells #[.string t] 9)).cell? ⟨w.heap.size, 0 + j, none⟩ = some (.string x) := by
 intro j x h
 match j, h with
 | 0, h => simp at h; subst h; exact World.cell?_alloc_mark w _ 9 (0, 0) 0

set_option maxHeartbeats 4000000 in
set_option maxRecDepth 100000 in
theorem ipairs (B b : Nat) (l : List UInt8) (xs : List Rg) (a : Option Addr) (c n : Nat) (hnn : n = xs.length) (hn : xs.length ≤ 1048576) (hf : RFit xs) (w : World) (h : Lib.IsBuilder 76 5 B b (bv l) w) (hBw : B ≤ w.heap.size) (hl : l.length ≤ 10000000000000) (hp : ∀ w', RK B b w w' → GRow encR w' a xs) :
  Calls Tryz.prog 49 #[.pointer (some ⟨b, 0, none⟩), .slice a n c] w fun e w' => e = .returned (.tuple #[]) ∧ Lib.IsBuilder 76 5 B b (bv (l ++ pairsL xs)) w' ∧ RK B b w w' := by
 subst hnn
 have HF : Hid (RFit xs) := hf
 have HI0 : Hid (Lib.IsBuilder 76 5 B b (bv (l ++ pairsL (xs.take 0))) w) := by
  show Lib.IsBuilder _ _ _ _ _ _
  simpa [pairsL] using h
 have HBw : Hid (B ≤ w.heap.size) := hBw
 have HPL : Hid (∀ k, (pairsL (xs.take k)).length ≤ k * 1088578) := pairsL_len hf
 have HFR : Hid (∀ w', RK B b w w' → GRow encR w' a xs) := hp
 clear h hBw hp hf
 go_enter Tryz.func49, Tryz.ntmps49
 go_wp2
 go_loopw [10] (fun t wr => ∃ k : Nat, k ≤ xs.length ∧ t = .int .i64 k ∧ Hid (Lib.IsBuilder 76 5 B b (bv (l ++ pairsL (xs.take k))) wr) ∧ Hid (RK B b w wr)) (fun t _ => xs.length - (intOf t).toNat)
 case atStart => exact ⟨0, Nat.zero_le _, rfl, HI0, RK.refl _ _ _⟩
 case round =>
  obtain ⟨k, hk, rfl, HI, HB⟩ := hrel
  by_cases hlt : k < xs.length
  ·have hlt' : (k : Int) < (xs.length : Int) := by omega
   have hk0 : (0 : Int) ≤ (k : Int) := by omega
   obtain ⟨b0, off, rfl, hbl, hc⟩ := (HFR.out _ HB.out) (by omega)
   have r0 := ((rat hc) k hlt).1
   have r1 := ((rat hc) k hlt).2
   have HZ : Hid (xs[k].1.size ≤ 1048576) := (HF.out _ (List.getElem_mem hlt)).1
   have HWS : Hid ((lineL [wordT xs[k]]).length ≤ xs[k].1.size + 40002) := wordT_line xs[k]
   have HSN : Hid (pairsL (xs.take (k + 1)) = pairsL (xs.take k) ++ lineL [wordT xs[k]]) := pairsL_snoc xs k hlt
   have HLn : Hid ((l ++ pairsL (xs.take k)).length ≤ 12000000000000) := by
    show _ ≤ _
    rw [List.length_append]; have := HPL.out k; omega
   have hBr : B ≤ wr.heap.size := Nat.le_trans HBw.out HB.out.bel.size
   have HBr : Hid (B ≤ wr.heap.size) := hBr
   clear hc hBr
   obtain ⟨ky, hky⟩ : ∃ q, q = xs[k].1 := ⟨_, rfl⟩
   obtain ⟨vl, hvl⟩ : ∃ q, q = xs[k].2 := ⟨_, rfl⟩
   have HWT : Hid (wordT xs[k] = ky ++ ⟨#[61]⟩ ++ hexT vl) := by show _ = _; rw [hky, hvl]; rfl
   rw [← hky] at r0 HZ HWS
   rw [← hvl] at r1
   clear hky hvl
   have HX : Hid (RK B b w (wr.alloc (.cells #[.string ky, .string vl] 97))) := HB.out.step HBr.out ((belowRefl wr).alloc (Nat.le_refl _) _)
   have HI1 : Hid (Lib.IsBuilder 76 5 B b (bv (l ++ pairsL (xs.take k))) (wr.alloc (.cells #[.string ky, .string vl] 97))) := rBelow HI.out ((belowRefl wr).alloc (Nat.le_refl _) _)
   have HBx : Hid (Bx (wr.alloc (.cells #[.string ky, .string vl] 97)) wr.heap.size [.string ky, .string vl]) := Bx.new wr [.string ky, .string vl] 97
   have c0 := HBx.out.c0
   have c1 := HBx.out.c1
   have hks : ky.size ≤ 1048576 := HZ.out
   go_wp2_with fail
   refine (ihexT vl _).mono ?_
   rintro e w2 ⟨ok, rfl, hb2⟩
   have hxs : (hexT vl).size ≤ 40000 := hexT_size vl
   have HX2 : Hid (RK B b w w2) := HX.out.step (Nat.le_trans HBw.out HX.out.bel.size) hb2
   have HI2 : Hid (Lib.IsBuilder 76 5 B b (bv (l ++ pairsL (xs.take k))) w2) := rBelow HI1.out hb2
   have HBx2 : Hid (Bx w2 wr.heap.size [.string ky, .string vl]) := HBx.out.below hb2
   clear hb2 c0 c1 r0 r1
   have c0 := HBx2.out.c0
   generalize hexT vl = hx at *
   have HC : Hid (Lib.IsBuilder 76 5 B b (bv (l ++ pairsL (xs.take k))) (w2.alloc (.cells #[.string (ky ++ ⟨#[61]⟩ ++ hx)] 9)) ∧ RK B b w (w2.alloc (.cells #[.string (ky ++ ⟨#[61]⟩ ++ hx)] 9))) :=
    ⟨rBelow HI2.out ((belowRefl w2).alloc (Nat.le_refl _) _), HX2.out.step (Nat.le_trans HBw.out HX2.out.bel.size) ((belowRefl w2).alloc (Nat.le_refl _) _)⟩
   have HCL : Hid (Calls Tryz.prog 46 #[.pointer (some ⟨b, 0, none⟩), .slice (some ⟨w2.heap.size, 0, none⟩) 1 1] (w2.alloc (.cells #[.string (ky ++ ⟨#[61]⟩ ++ hx)] 9)) fun e w' => e = .returned (.tuple #[]) ∧ Lib.IsBuilder 76 5 B b (bv ((l ++ pairsL (xs.take k)) ++ lineL [ky ++ ⟨#[61]⟩ ++ hx])) w' ∧ RK B b (w2.alloc (.cells #[.string (ky ++ ⟨#[61]⟩ ++ hx)] 9)) w') :=
    by
    have hq : (l ++ pairsL (xs.take k)).length + (lineL [ky ++ ⟨#[61]⟩ ++ hx]).length ≤ 100000000000000 := by
     have h1 := HLn.out
     have h2 := HWS.out
     rw [HWT.out] at h2
     omega
    have ho := oneStr w2 (ky ++ ⟨#[61]⟩ ++ hx)
    have hi := HC.out.1
    have hbz := Nat.le_trans HBw.out HC.out.2.bel.size
    have hgz : w2.heap.size < (w2.alloc (.cells #[.string (ky ++ ⟨#[61]⟩ ++ hx)] 9)).heap.size := by simp
    generalize (ky ++ ⟨#[61]⟩ ++ hx) = tt at *
    generalize w2.alloc (.cells #[.string tt] 9) = wz at *
    exact iline B b _ w2.heap.size 1 1 [tt] rfl _ hi hbz (Nat.le_refl _) hgz ho hq (by omega)
   go_wp2_with fail
   refine HCL.out.mono ?_
   rintro e w3 ⟨rfl, hi3, hb3⟩
   have HI3 : Hid (Lib.IsBuilder 76 5 B b (bv (l ++ pairsL (xs.take (k + 1)))) w3) := by
    show Lib.IsBuilder _ _ _ _ _ _
    rw [HSN.out, HWT.out, ← List.append_assoc]; exact hi3
   have HX3 : Hid (RK B b w w3) := HC.out.2.trans hb3
   clear hi3 hb3 c0
   go_wp2
   go_roundw
   case rel => exact ⟨k + 1, by omega, by go_num, HI3, HX3⟩
   case measure => simp [intOf]; omega
  ·have hlt' : ¬ (k : Int) < (xs.length : Int) := by omega
   obtain rfl : k = xs.length := by omega
   have HE : Hid (Lib.IsBuilder 76 5 B b (bv (l ++ pairsL xs)) wr) := by
    show Lib.IsBuilder _ _ _ _ _ _
    have := HI.out
    rwa [List.take_length] at this
   go_wp2
   go_end0
   exact ⟨rfl, HE.out, HB.out⟩

theorem catP (xs : List Rg) (k : Nat) (h : k < xs.length) : (⟨(pairsL (xs.take k)).toArray⟩ : ByteArray) ++ xs[k].1 ++ ⟨#[61]⟩ ++ hexT xs[k].2 ++ ⟨#[10]⟩ = ⟨(pairsL (xs.take (k + 1))).toArray⟩ := by
 apply ByteArray.ext
 rw [pairsL_snoc xs k h, lineL_one]
 simp [wordT]

set_option maxHeartbeats 4000000 in
set_option maxRecDepth 100000 in
theorem sshow (xs : List Rg) (a : Option Addr) (c n : Nat) (hnn : n = xs.length) (hn : xs.length ≤ 1048576) (hf : RFit xs) (w : World) (hp : GRow encR w a xs) :
  Calls Tryz.prog 19 #[.slice a n c] w fun e w' => e = .returned (.string ⟨(pairsL xs).toArray⟩) ∧ Below w.heap.size w w' := by
 subst hnn
 have HP : Hid (GRow encR w a xs) := hp
 have HF : Hid (RFit xs) := hf
 have HPL : Hid (∀ k, (pairsL (xs.take k)).length ≤ k * 1088578) := pairsL_len hf
 clear hp hf
 go_enter Tryz.func19, Tryz.ntmps19
 go_wp2
 go_loopw [3, 4] (fun v t wr => ∃ k : Nat, k ≤ xs.length ∧ t = .int .i64 k ∧ v = .string ⟨(pairsL (xs.take k)).toArray⟩ ∧ Hid (Below w.heap.size w wr)) (fun _ t _ => xs.length - (intOf t).toNat)
 case atStart => exact ⟨0, Nat.zero_le _, rfl, by simp [pairsL], belowRefl w⟩
 case round =>
  obtain ⟨k, hk, rfl, rfl, HB⟩ := hrel
  by_cases hlt : k < xs.length
  ·have hlt' : (k : Int) < (xs.length : Int) := by omega
   have hk0 : (0 : Int) ≤ (k : Int) := by omega
   obtain ⟨b0, off, rfl, hbl, hc⟩ := (HP.out.below HB.out) (by omega)
   have r1 := ((rat hc) k hlt).2
   have HR0 : Hid (∀ w', Below wr.heap.size wr w' → w'.cell? ⟨b0, off + k * 2, none⟩ = some (.string xs[k].1)) := fun w' hb => (hb.cell (p := ⟨b0, off + k * 2, none⟩) hbl).trans ((rat hc) k hlt).1
   have HZ : Hid (xs[k].1.size ≤ 1048576) := (HF.out _ (List.getElem_mem hlt)).1
   have HCT : Hid ((⟨(pairsL (xs.take k)).toArray⟩ : ByteArray) ++ xs[k].1 ++ ⟨#[61]⟩ ++ hexT xs[k].2 ++ ⟨#[10]⟩ = ⟨(pairsL (xs.take (k + 1))).toArray⟩) := catP xs k hlt
   have hps : (⟨(pairsL (xs.take k)).toArray⟩ : ByteArray).size ≤ 2000000000000 := by
    have h1 := HPL.out k
    have e : (⟨(pairsL (xs.take k)).toArray⟩ : ByteArray).size = (pairsL (xs.take k)).length := List.size_toArray
    omega
   clear hc
   obtain ⟨ky, hky⟩ : ∃ q, q = xs[k].1 := ⟨_, rfl⟩
   obtain ⟨vl, hvl⟩ : ∃ q, q = xs[k].2 := ⟨_, rfl⟩
   obtain ⟨ps, hpq⟩ : ∃ q : ByteArray, q = ⟨(pairsL (xs.take k)).toArray⟩ := ⟨_, rfl⟩
   rw [← hky] at HR0 HZ HCT
   rw [← hvl] at r1 HCT
   rw [← hpq] at HCT hps
   rw [← hpq]
   clear hky hvl hpq
   have hks : ky.size ≤ 1048576 := HZ.out
   go_wp2_with fail
   refine (shexT vl _).mono ?_
   rintro e w2 ⟨ok, rfl, hb2⟩
   have hxs : (hexT vl).size ≤ 40000 := hexT_size vl
   have HB2 : Hid (Below w.heap.size w w2) := HB.out.trans (hb2.mono HB.out.size)
   have r0 := HR0.out _ hb2
   clear hb2 r1
   generalize hexT vl = hx at *
   go_wp2
   go_roundw
   case rel => exact ⟨k + 1, by omega, by go_num, by rw [← HCT.out], HB2⟩
   case measure => simp [intOf]; omega
  ·have hlt' : ¬ (k : Int) < (xs.length : Int) := by omega
   obtain rfl : k = xs.length := by omega
   rw [List.take_length]
   go_wp2
   go_ret
   exact ⟨rfl, HB.out⟩
end Go.Proofs.YtjieojfcmigcdaaGreatDoor

namespace Go.Proofs.YtjieojfcmigcdaaGreatDoor
open Go.RowKit
open KM
open VM
attribute [local go_sem ↓] Go.wp_at_zero Go.wp_at_succ

def allR : Rg := (⟨#[97]⟩, ⟨#[122, 122, 122]⟩)

set_option maxHeartbeats 400000 in
theorem all66 (w : World) : Calls Tryz.prog 51 #[] w fun e w' => e = .returned (.agg #[.string allR.1, .string allR.2]) ∧ Below w.heap.size w w' := by
 go_enter Tryz.func51, Tryz.ntmps51
 go_wp2
 exact bodyPost_ret (v := .agg #[.string ⟨#[97]⟩, .string ⟨#[122, 122, 122]⟩]) (by simp [results, Tryz.results51, go_sem]) rfl ⟨rfl, (belowRefl w).alloc (Nat.le_refl _) _⟩

set_option maxHeartbeats 400000 in
theorem all67 (w : World) : Calls Tryz.prog 21 #[] w fun e w' => e = .returned (.agg #[.string allR.1, .string allR.2]) ∧ Below w.heap.size w w' := by
 go_enter Tryz.func21, Tryz.ntmps21
 go_wp2
 exact bodyPost_ret (v := .agg #[.string ⟨#[97]⟩, .string ⟨#[122, 122, 122]⟩]) (by simp [results, Tryz.results21, go_sem]) rfl ⟨rfl, (belowRefl w).alloc (Nat.le_refl _) _⟩

end Go.Proofs.YtjieojfcmigcdaaGreatDoor

namespace Go.Proofs.YtjieojfcmigcdaaGreatDoor
open Go.RowKit
open KM
open VM
attribute [local go_sem ↓] Go.wp_at_zero Go.wp_at_succ

def numT (n : Int) : ByteArray := ⟨(Lib.itoa (if n < 0 then 0 else n)).toArray⟩
theorem numT_size (n : Int) (h : n ≤ 9223372036854775807) : (numT n).size ≤ 21 := by
 have e : (numT n).size = (Lib.itoa (if n < 0 then 0 else n)).length := List.size_toArray
 rw [e]
 split
 ·exact Lib.itoa_length_le 0 (by decide) (by decide)
 ·exact Lib.itoa_length_le n (by omega) h
theorem wf_top {n : Int} (h : (Lit.int .i64 n).wf = true) : -9223372036854775808 ≤ n ∧ n ≤ 9223372036854775807 := by
 exact bounds_i64 h
theorem numT_neg {n : Int} (h : n < 0) : numT n = ⟨#[48]⟩ := by
 unfold numT
 rw [if_pos h]
 have e : Lib.itoa 0 = [48] := by rw [show (0 : Int) = ((0 : Nat) : Int) from rfl, Lib.itoa_nonneg, Lib.decDigits_one (by omega)]; rfl
 rw [e]
theorem numT_nn {n : Int} (h : ¬ n < 0) : numT n = ⟨(Lib.itoa n).toArray⟩ := by
 unfold numT
 rw [if_neg h]

set_option maxHeartbeats 1000000 in
set_option maxRecDepth 100000 in
theorem snum (n : Int) (h1 : -9223372036854775808 ≤ n) (h2 : n ≤ 9223372036854775807) (w : World) : Calls Tryz.prog 17 #[.int .i64 n] w fun e w' => e = .returned (.string (numT n)) ∧ Below w.heap.size w w' := by
 by_cases h : n < 0
 ·rw [numT_neg h]
  go_enter Tryz.func17, Tryz.ntmps17
  go_wp2
  go_ret
  exact ⟨rfl, belowRefl w⟩
 ·rw [numT_nn h]
  have C := hide (sdec n h1 h2 w)
  clear h1 h2
  go_enter Tryz.func17, Tryz.ntmps17
  go_wp2_with fail
  refine C.out.mono ?_
  rintro e w2 ⟨rfl, hb⟩
  go_wp2
  go_ret
  exact ⟨rfl, hb⟩

set_option maxHeartbeats 1000000 in
set_option maxRecDepth 100000 in
theorem inum (n : Int) (h1 : -9223372036854775808 ≤ n) (h2 : n ≤ 9223372036854775807) (w : World) (ht : Tab w) : Calls Tryz.prog 47 #[.int .i64 n] w fun e w' => e = .returned (.string (numT n)) ∧ Below w.heap.size w w' := by
 have C : Hid (Calls Tryz.prog 48 #[.int .i64 (max n 0)] w fun e w' => e = .returned (.string (numT n)) ∧ Below w.heap.size w w') := by
  show Calls _ _ _ _ _
  rw [show numT n = ⟨(Lib.itoa (max n 0)).toArray⟩ by unfold numT; rw [show (if n < 0 then 0 else n) = max n 0 by split <;> omega]]
  exact idec (max n 0) (by omega) (by omega) w ht
 clear h1 h2 ht
 go_enter Tryz.func47, Tryz.ntmps47
 go_wp2_with fail
 refine C.out.mono ?_
 rintro e w2 ⟨rfl, hb⟩
 go_wp2
 go_ret
 exact ⟨rfl, hb⟩

theorem scan_len (vs : List Vr) (r : Rg) (s : Int) : (scanB vs r s).length ≤ vs.length := by
 unfold scanB
 refine Nat.le_trans (List.length_filterMap_le _ _) (Nat.le_trans (keys_len _) ?_)
 rw [List.length_map]
 exact Nat.le_refl _
theorem seen_mem {vs : List Vr} {k v : ByteArray} {s : Int} (h : seenB vs k s = some v) : ∃ x ∈ vs, x.2.1 = v := by
 unfold seenB seenV at h
 cases hl : lst k s (vs.map fun v => (0, v)) with
 | none => rw [hl] at h; simp at h
 | some m =>
  rw [hl] at h
  simp only [Option.map_some] at h
  obtain ⟨hm, _⟩ := lst_mem hl
  obtain ⟨x, hx, rfl⟩ := List.mem_map.1 hm
  refine ⟨x, hx, ?_⟩
  split at h
  ·cases h
  ·simpa using h
theorem scan_rfit {vs : List Vr} (hf : VFit vs) (r : Rg) (s : Int) : RFit (scanB vs r s) := by
 intro p hp
 unfold scanB at hp
 obtain ⟨k, hk, h⟩ := List.mem_filterMap.1 hp
 have hk2 := ((keys_spec (vs.map (·.1))).1 k).1 hk
 obtain ⟨x, hx, rfl⟩ := List.mem_map.1 hk2
 unfold scanF at h
 split at h
 ·cases hs : seenB vs x.1 s with
  | none => rw [hs] at h; simp at h
  | some v =>
   rw [hs] at h
   simp only [Option.map_some, Option.some.injEq] at h
   subst h
   obtain ⟨y, hy, hv⟩ := seen_mem hs
   exact ⟨(hf x hx).1, hv ▸ (hf y hy).2⟩
 ·cases h

def headW (cs : Int) (o r : Nat) : List ByteArray := [⟨#[99, 115]⟩, numT cs, ⟨#[111, 112, 101, 110]⟩, numT (o : Int), ⟨#[114, 101, 97, 100, 121]⟩, numT (r : Int)]
def storeL (vs : List Vr) (cs : Int) (o r : Nat) : List UInt8 := lineL (headW cs o r) ++ pairsL (scanB vs allR cs)
theorem join_two (x y sep : List UInt8) (l : List (List UInt8)) : Lib.join (x :: y :: l) sep = x ++ sep ++ Lib.join (y :: l) sep := by
 rw [Lib.join_cons, Lib.join_cons]
 simp [Lib.joinTail]
theorem head_cat (cs : Int) (o r : Nat) : (⟨#[99, 115, 32]⟩ : ByteArray) ++ numT cs ++ ⟨#[32, 111, 112, 101, 110, 32]⟩ ++ numT (o : Int) ++ ⟨#[32, 114, 101, 97, 100, 121, 32]⟩ ++ numT (r : Int) ++ ⟨#[10]⟩ = ⟨(lineL (headW cs o r)).toArray⟩ := by
 apply ByteArray.ext
 unfold lineL headW
 simp only [List.map_cons, List.map_nil, join_two, Lib.join_one]
 simp
theorem head_len (cs : Int) (h : cs ≤ 9223372036854775807) (o r : Nat) (ho : o ≤ 1048576) (hr : r ≤ 1048576) : (lineL (headW cs o r)).length ≤ 100 := by
 have e : (⟨(lineL (headW cs o r)).toArray⟩ : ByteArray).size = (lineL (headW cs o r)).length := List.size_toArray
 rw [← e, ← head_cat]
 simp only [ByteArray.size_append]
 have h1 := numT_size cs h
 have h2 := numT_size (o : Int) (by omega)
 have h3 := numT_size (r : Int) (by omega)
 have z1 : (⟨#[99, 115, 32]⟩ : ByteArray).size = 3 := rfl
 have z2 : (⟨#[32, 111, 112, 101, 110, 32]⟩ : ByteArray).size = 6 := rfl
 have z3 : (⟨#[32, 114, 101, 97, 100, 121, 32]⟩ : ByteArray).size = 7 := rfl
 have z4 : (⟨#[10]⟩ : ByteArray).size = 1 := rfl
 omega
theorem pairs_len {xs : List Rg} (hf : RFit xs) (hn : xs.length ≤ 1048576) : (pairsL xs).length ≤ 1200000000000 := by
 have := pairsL_len hf xs.length
 rw [List.take_length] at this
 omega
theorem store_len {vs : List Vr} (hf : VFit vs) (hn : vs.length ≤ 1048576) (cs : Int) (h : cs ≤ 9223372036854775807) (o r : Nat) (ho : o ≤ 1048576) (hr : r ≤ 1048576) : (storeL vs cs o r).length ≤ 1300000000000 := by
 have h1 := head_len cs h o r ho hr
 have h2 := pairs_len (scan_rfit hf allR cs) (Nat.le_trans (scan_len vs allR cs) hn)
 unfold storeL
 rw [List.length_append]
 omega
end Go.Proofs.YtjieojfcmigcdaaGreatDoor

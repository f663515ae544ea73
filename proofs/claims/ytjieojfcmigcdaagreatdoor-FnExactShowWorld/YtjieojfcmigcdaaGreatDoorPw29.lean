/- report.happened: the codes beside what was said. -/
import Derived.Test.YtjieojfcmigcdaaGreatDoorPw23
import Derived.Test.YtjieojfcmigcdaaGreatDoorPw28
namespace Go.Proofs.YtjieojfcmigcdaaGreatDoor
open Go.RowKit
open KM
open VM
attribute [local go_sem ↓] Go.wp_at_zero Go.wp_at_succ

abbrev wdV (x : Wd) : Array Value := #[.slice x.s.e.b.va x.s.e.b.vs.length x.s.e.b.vc, .slice x.s.e.b.pa x.s.e.b.ps.length x.s.e.b.pc, .slice x.s.e.b.qa x.s.e.b.qs.length x.s.e.b.qc, .int .i64 x.s.e.b.cs, .int .i64 x.s.e.b.nx, .slice x.s.e.oa x.s.e.os.length x.s.e.oc, .slice x.s.d.sa x.s.d.ss.length x.s.d.sc, .slice x.s.d.pa x.s.d.ps.length x.s.d.pc, .slice x.pa x.ps.length x.pc, .slice x.ca x.cs.length x.cc, .slice x.da x.ds.length x.dc]
def saidT (ds : List ByteArray) (k : Nat) : ByteArray := match ds[k]? with
 | some t => if t = ⟨#[]⟩ then ⟨#[46]⟩ else t
 | none => ⟨#[46]⟩
theorem ne_isEmpty {t : ByteArray} (h : ¬ t = ⟨#[]⟩) : t.toList.isEmpty = false := by
 cases he : t.toList.isEmpty with
 | false => rfl
 | true => exact absurd (toList_inj ((List.isEmpty_iff.1 he).trans (by first | simp | decide +kernel | (unfold ByteArray.toList; unfold ByteArray.toList.loop; simp; done) : [] = (⟨#[]⟩ : ByteArray).toList))) h
theorem said_none {ds : List ByteArray} {k : Nat} (h : ¬ k < ds.length) : saidT ds k = ⟨#[46]⟩ := by
 unfold saidT
 rw [List.getElem?_eq_none (by omega)]
theorem said_empty {ds : List ByteArray} {k : Nat} (h : k < ds.length) (he : ds[k] = ⟨#[]⟩) : saidT ds k = ⟨#[46]⟩ := by
 unfold saidT
 rw [List.getElem?_eq_getElem h, he]
 rfl
theorem said_some {ds : List ByteArray} {k : Nat} (h : k < ds.length) (he : ¬ ds[k] = ⟨#[]⟩) : saidT ds k = ds[k] := by
 unfold saidT
 rw [List.getElem?_eq_getElem h]
 exact if_neg he
theorem said_size {ds : List ByteArray} (hd : ∀ s ∈ ds, s.size ≤ 1048576) (k : Nat) : (saidT ds k).size ≤ 1048576 := by
 by_cases h : k < ds.length
 ·by_cases he : ds[k] = ⟨#[]⟩
  ·rw [said_empty h he]; exact (by decide : (1 : Nat) ≤ 1048576)
  ·rw [said_some h he]; exact hd _ (List.getElem_mem h)
 ·rw [said_none h]; exact (by decide : (1 : Nat) ≤ 1048576)
def hapL (cs : List Int) (ds : List ByteArray) : Nat → List UInt8
 | 0 => []
 | k + 1 => hapL cs ds k ++ lineL [numT (cs[k]?.getD 0), saidT ds k]
theorem hap_snoc {cs : List Int} (ds : List ByteArray) {k : Nat} (h : k < cs.length) : hapL cs ds (k + 1) = hapL cs ds k ++ lineL [numT cs[k], saidT ds k] := by
 rw [hapL, List.getElem?_eq_getElem h, Option.getD_some]
theorem two_line (a b : ByteArray) : (⟨(lineL [a, b]).toArray⟩ : ByteArray) = a ++ ⟨#[32]⟩ ++ b ++ ⟨#[10]⟩ := by
 apply ByteArray.ext
 unfold lineL
 simp only [List.map_cons, List.map_nil, join_two, Lib.join_one]
 simp
theorem two_len (a b : ByteArray) : (lineL [a, b]).length = a.size + b.size + 2 := by
 have e : (⟨(lineL [a, b]).toArray⟩ : ByteArray).size = (lineL [a, b]).length := List.size_toArray
 rw [← e, two_line]
 simp only [ByteArray.size_append]
 have z1 : (⟨#[32]⟩ : ByteArray).size = 1 := rfl
 have z2 : (⟨#[10]⟩ : ByteArray).size = 1 := rfl
 omega
theorem hap_len {cs : List Int} {ds : List ByteArray} (hc : ∀ n ∈ cs, -9223372036854775808 ≤ n ∧ n ≤ 9223372036854775807) (hd : ∀ s ∈ ds, s.size ≤ 1048576) (k : Nat) : (hapL cs ds k).length ≤ k * 1048600 := by
 induction k with
 | zero => exact Nat.le_refl 0
 | succ k ih =>
  rw [hapL, List.length_append, two_len]
  have h1 := said_size hd k
  have h2 : (numT (cs[k]?.getD 0)).size ≤ 21 := by
   refine numT_size _ ?_
   cases h : cs[k]? with
   | none => exact (by decide : (0 : Int) ≤ 9223372036854775807)
   | some n => exact (hc n (List.mem_of_getElem? h)).2
  rw [Nat.succ_mul]
  omega
theorem iat1 {w : World} {b off : Nat} {xs : List Int} (hc : ∀ j (hj : j < xs.length) i, i < encI.size → w.cell? ⟨b, off + j * encI.size + i, none⟩ = (encI.enc xs[j])[i]?) (j : Nat) (hj : j < xs.length) : w.cell? ⟨b, off + j, none⟩ = some (.int .i64 xs[j]) := by
 have h := hc j hj 0 (by decide)
 simpa [encI] using h

set_option maxHeartbeats 4000000 in
set_option maxRecDepth 100000 in
theorem ihap (B b : Nat) (l : List UInt8) (x : Wd) (hcl : x.cs.length ≤ 1048576) (hdl : x.ds.length ≤ 1048576) (hds : ∀ s ∈ x.ds, s.size ≤ 1048576) (hcs : ∀ n ∈ x.cs, -9223372036854775808 ≤ n ∧ n ≤ 9223372036854775807) (w : World) (h : Lib.IsBuilder 76 5 B b (bv l) w) (hBw : B ≤ w.heap.size) (hl : l.length ≤ 1000000000000) (hc : ∀ w', RK B b w w' → GRow encI w' x.ca x.cs) (hd : ∀ w', RK B b w w' → SRow w' x.da x.ds) (ht : ∀ w', RK B b w w' → Tab w') :
  Calls Tryz.prog 34 #[.pointer (some ⟨b, 0, none⟩), .agg (wdV x)] w fun e w' => e = .returned (.tuple #[]) ∧ Lib.IsBuilder 76 5 B b (bv (l ++ hapL x.cs x.ds x.cs.length)) w' ∧ RK B b w w' := by
 have hbs : b < w.heap.size := by
  rcases h with h | h
  ·exact h.lt
  ·exact h.lt
 have HBS := hide hbs
 have HL := hide hl
 have HCS := hide hcs
 have HDS := hide hds
 have HBw : Hid (B ≤ w.heap.size) := hBw
 have HC : Hid (∀ w', RK B b w w' → GRow encI w' x.ca x.cs) := hc
 have HD : Hid (∀ w', RK B b w w' → SRow w' x.da x.ds) := hd
 have HT : Hid (∀ w', RK B b w w' → Tab w') := ht
 have HHL : Hid (∀ k, (hapL x.cs x.ds k).length ≤ k * 1048600) := fun k => hap_len hcs hds k
 have HI0 : Hid (Lib.IsBuilder 76 5 B b (bv (l ++ hapL x.cs x.ds 0)) (w.alloc (.cells (wdV x) 56))) := by
  show Lib.IsBuilder _ _ _ _ _ _
  rw [hapL, List.append_nil]
  exact rBelow h ((belowRefl w).alloc (Nat.le_refl _) _)
 have HB0 : Hid (RK B b w (w.alloc (.cells (wdV x) 56))) := (RK.refl B b w).step hBw ((belowRefl w).alloc (Nat.le_refl _) _)
 have HX0 : Hid ((w.alloc (.cells (wdV x) 56)).heap[w.heap.size]? = some (.cells (wdV x) 56 (0, 0))) := heap_alloc_new w _
 have z9 : (w.alloc (.cells (wdV x) 56)).cell? ⟨w.heap.size, 9, none⟩ = some (.slice x.ca x.cs.length x.cc) := by rw [Lib.cell_of_heap HX0.out]; rfl
 clear hc hd ht h hBw hbs hl hcs hds
 go_enter Tryz.func34, Tryz.ntmps34
 go_wp2
 clear z9
 generalize (w.alloc (.cells (wdV x) 56)) = w0 at *
 go_loopw [10] (fun t wr => ∃ k : Nat, k ≤ x.cs.length ∧ t = .int .i64 k ∧ Hid (Lib.IsBuilder 76 5 B b (bv (l ++ hapL x.cs x.ds k)) wr) ∧ Hid (RK B b w wr) ∧ Hid (wr.heap[w.heap.size]? = some (.cells (wdV x) 56 (0, 0)))) (fun t _ => x.cs.length - (intOf t).toNat)
 case atStart => exact ⟨0, Nat.zero_le _, rfl, HI0, HB0, HX0⟩
 case round =>
  clear HI0 HB0 HX0
  obtain ⟨k, hk, rfl, HI, HB, HX⟩ := hrel
  by_cases hlt : k < x.cs.length
  ·have hlt' : (k : Int) < (x.cs.length : Int) := by omega
   have hk0 : (0 : Int) ≤ (k : Int) := by omega
   obtain ⟨g, off, hga, hbl, hcc⟩ := (HC.out _ HB.out) (by omega)
   have r0 := iat1 hcc k hlt
   clear hcc hbl
   rw [hga]
   have HZr : Hid (B ≤ wr.heap.size) := Nat.le_trans HBw.out HB.out.bel.size
   have z10 : wr.cell? ⟨w.heap.size, 10, none⟩ = some (.slice x.da x.ds.length x.dc) := by rw [Lib.cell_of_heap HX.out]; rfl
   have HSN : Hid (hapL x.cs x.ds (k + 1) = hapL x.cs x.ds k ++ lineL [numT x.cs[k], saidT x.ds k]) := hap_snoc x.ds hlt
   have HLn : Hid ((l ++ hapL x.cs x.ds k).length ≤ 10000000000000) := by
    show _ ≤ _
    rw [List.length_append]; have := HHL.out k; have := HL.out; omega
   have HN : Hid (-9223372036854775808 ≤ x.cs[k] ∧ x.cs[k] ≤ 9223372036854775807) := HCS.out _ (List.getElem_mem hlt)
   have HLL : Hid ((lineL [numT x.cs[k], saidT x.ds k]).length ≤ 2000000) := by
    show _ ≤ _
    rw [two_len]
    have h1 := said_size HDS.out k
    have h2 := numT_size x.cs[k] HN.out.2
    omega
   obtain ⟨n, hn⟩ : ∃ n, n = x.cs[k] := ⟨_, rfl⟩
   rw [← hn] at r0 HN HSN HLL
   clear hn
   by_cases hdk : k < x.ds.length
   ·have hdk' : (k : Int) < (x.ds.length : Int) := by omega
    obtain ⟨g2, off2, hga2, hbl2, hcd⟩ := (HD.out _ HB.out) (by omega)
    have r1 := hcd k hdk
    clear hcd hbl2
    rw [hga2] at z10
    by_cases he : x.ds[k] = ⟨#[]⟩
    ·rw [he] at r1
     have HSD : Hid (saidT x.ds k = ⟨#[46]⟩) := said_empty hdk he
     clear he
     go_wp2_with fail
     refine (inum n HN.out.1 HN.out.2 _ (HT.out _ HB.out)).mono ?_
     rintro e w2 ⟨rfl, hb2⟩
     have HB2 : Hid (RK B b w w2) := HB.out.step HZr.out hb2
     have HI2 : Hid (Lib.IsBuilder 76 5 B b (bv (l ++ hapL x.cs x.ds k)) w2) := rBelow HI.out hb2
     have HX2 : Hid (w2.heap[w.heap.size]? = some (.cells (wdV x) 56 (0, 0))) := hb_keep hb2 HX.out
     have HZ2 : Hid (B ≤ w2.heap.size) := Nat.le_trans HZr.out hb2.size
     clear hb2 z10 r0
     have HCL : Hid (Calls Tryz.prog 46 #[.pointer (some ⟨b, 0, none⟩), .slice (some ⟨w2.heap.size, 0, none⟩) 2 2] (w2.alloc (.cells #[.string (numT n), .string ⟨#[46]⟩] 9)) fun e w' => e = .returned (.tuple #[]) ∧ Lib.IsBuilder 76 5 B b (bv ((l ++ hapL x.cs x.ds k) ++ lineL [numT n, ⟨#[46]⟩])) w' ∧ RK B b (w2.alloc (.cells #[.string (numT n), .string ⟨#[46]⟩] 9)) w') := by
      have hq : (l ++ hapL x.cs x.ds k).length + (lineL [numT n, ⟨#[46]⟩]).length ≤ 100000000000000 := by
       have h1 := HLn.out
       have h2 := HLL.out
       rw [HSD.out] at h2
       omega
      have ho := rowStr w2 [numT n, ⟨#[46]⟩]
      have hi : Lib.IsBuilder 76 5 B b (bv (l ++ hapL x.cs x.ds k)) (w2.alloc (.cells ([numT n, ⟨#[46]⟩].map Value.string).toArray 9)) := rBelow HI2.out ((belowRefl w2).alloc (Nat.le_refl _) _)
      have hbz : B ≤ (w2.alloc (.cells ([numT n, ⟨#[46]⟩].map Value.string).toArray 9)).heap.size := Nat.le_trans HZ2.out (by simp)
      have hgz : w2.heap.size < (w2.alloc (.cells ([numT n, ⟨#[46]⟩].map Value.string).toArray 9)).heap.size := by simp
      exact iline B b (l ++ hapL x.cs x.ds k) w2.heap.size 2 2 [numT n, ⟨#[46]⟩] rfl _ hi hbz (Nat.le_refl _) hgz ho hq (by omega)
     have HX3 : Hid ((w2.alloc (.cells #[.string (numT n), .string ⟨#[46]⟩] 9)).heap[w.heap.size]? = some (.cells (wdV x) 56 (0, 0))) := hb_keep ((belowRefl w2).alloc (Nat.le_refl _) _) HX2.out
     have HB3 : Hid (RK B b w (w2.alloc (.cells #[.string (numT n), .string ⟨#[46]⟩] 9))) := HB2.out.step HZ2.out ((belowRefl w2).alloc (Nat.le_refl _) _)
     go_wp2_with fail
     refine HCL.out.mono ?_
     rintro e w5 ⟨rfl, hi5, hb5⟩
     have HB5 : Hid (RK B b w w5) := HB3.out.trans hb5
     have HX5 : Hid (w5.heap[w.heap.size]? = some (.cells (wdV x) 56 (0, 0))) := hb5.heap HX3.out (by have := HBS.out; omega) (by decide)
     have HI5 : Hid (Lib.IsBuilder 76 5 B b (bv (l ++ hapL x.cs x.ds (k + 1))) w5) := by
      show Lib.IsBuilder _ _ _ _ _ _
      rw [HSN.out, HSD.out, ← List.append_assoc]; exact hi5
     clear hi5 hb5
     go_wp2
     go_roundw
     case rel => exact ⟨k + 1, by omega, by go_num, HI5, HB5, HX5⟩
     case measure => simp [intOf]; omega
    ·have HSD : Hid (saidT x.ds k = x.ds[k]) := said_some hdk he
     have he2 : x.ds[k].toList.isEmpty = false := ne_isEmpty he
     obtain ⟨t, htt⟩ : ∃ t, t = x.ds[k] := ⟨_, rfl⟩
     rw [← htt] at r1 HSD he he2
     clear htt
     go_wp2_with fail
     refine (inum n HN.out.1 HN.out.2 _ (HT.out _ HB.out)).mono ?_
     rintro e w2 ⟨rfl, hb2⟩
     have HB2 : Hid (RK B b w w2) := HB.out.step HZr.out hb2
     have HI2 : Hid (Lib.IsBuilder 76 5 B b (bv (l ++ hapL x.cs x.ds k)) w2) := rBelow HI.out hb2
     have HX2 : Hid (w2.heap[w.heap.size]? = some (.cells (wdV x) 56 (0, 0))) := hb_keep hb2 HX.out
     have HZ2 : Hid (B ≤ w2.heap.size) := Nat.le_trans HZr.out hb2.size
     clear hb2 z10 r0
     have HCL : Hid (Calls Tryz.prog 46 #[.pointer (some ⟨b, 0, none⟩), .slice (some ⟨w2.heap.size, 0, none⟩) 2 2] (w2.alloc (.cells #[.string (numT n), .string t] 9)) fun e w' => e = .returned (.tuple #[]) ∧ Lib.IsBuilder 76 5 B b (bv ((l ++ hapL x.cs x.ds k) ++ lineL [numT n, t])) w' ∧ RK B b (w2.alloc (.cells #[.string (numT n), .string t] 9)) w') := by
      have hq : (l ++ hapL x.cs x.ds k).length + (lineL [numT n, t]).length ≤ 100000000000000 := by
       have h1 := HLn.out
       have h2 := HLL.out
       rw [HSD.out] at h2
       omega
      have ho := rowStr w2 [numT n, t]
      have hi : Lib.IsBuilder 76 5 B b (bv (l ++ hapL x.cs x.ds k)) (w2.alloc (.cells ([numT n, t].map Value.string).toArray 9)) := rBelow HI2.out ((belowRefl w2).alloc (Nat.le_refl _) _)
      have hbz : B ≤ (w2.alloc (.cells ([numT n, t].map Value.string).toArray 9)).heap.size := Nat.le_trans HZ2.out (by simp)
      have hgz : w2.heap.size < (w2.alloc (.cells ([numT n, t].map Value.string).toArray 9)).heap.size := by simp
      exact iline B b (l ++ hapL x.cs x.ds k) w2.heap.size 2 2 [numT n, t] rfl _ hi hbz (Nat.le_refl _) hgz ho hq (by omega)
     have HX3 : Hid ((w2.alloc (.cells #[.string (numT n), .string t] 9)).heap[w.heap.size]? = some (.cells (wdV x) 56 (0, 0))) := hb_keep ((belowRefl w2).alloc (Nat.le_refl _) _) HX2.out
     have HB3 : Hid (RK B b w (w2.alloc (.cells #[.string (numT n), .string t] 9))) := HB2.out.step HZ2.out ((belowRefl w2).alloc (Nat.le_refl _) _)
     go_wp2_with fail
     refine HCL.out.mono ?_
     rintro e w5 ⟨rfl, hi5, hb5⟩
     have HB5 : Hid (RK B b w w5) := HB3.out.trans hb5
     have HX5 : Hid (w5.heap[w.heap.size]? = some (.cells (wdV x) 56 (0, 0))) := hb5.heap HX3.out (by have := HBS.out; omega) (by decide)
     have HI5 : Hid (Lib.IsBuilder 76 5 B b (bv (l ++ hapL x.cs x.ds (k + 1))) w5) := by
      show Lib.IsBuilder _ _ _ _ _ _
      rw [HSN.out, HSD.out, ← List.append_assoc]; exact hi5
     clear hi5 hb5
     go_wp2
     go_roundw
     case rel => exact ⟨k + 1, by omega, by go_num, HI5, HB5, HX5⟩
     case measure => simp [intOf]; omega
   ·have hdk' : ¬ (k : Int) < (x.ds.length : Int) := by omega
    have HSD : Hid (saidT x.ds k = ⟨#[46]⟩) := said_none hdk
    go_wp2_with fail
    refine (inum n HN.out.1 HN.out.2 _ (HT.out _ HB.out)).mono ?_
    rintro e w2 ⟨rfl, hb2⟩
    have HB2 : Hid (RK B b w w2) := HB.out.step HZr.out hb2
    have HI2 : Hid (Lib.IsBuilder 76 5 B b (bv (l ++ hapL x.cs x.ds k)) w2) := rBelow HI.out hb2
    have HX2 : Hid (w2.heap[w.heap.size]? = some (.cells (wdV x) 56 (0, 0))) := hb_keep hb2 HX.out
    have HZ2 : Hid (B ≤ w2.heap.size) := Nat.le_trans HZr.out hb2.size
    clear hb2 z10 r0
    have HCL : Hid (Calls Tryz.prog 46 #[.pointer (some ⟨b, 0, none⟩), .slice (some ⟨w2.heap.size, 0, none⟩) 2 2] (w2.alloc (.cells #[.string (numT n), .string ⟨#[46]⟩] 9)) fun e w' => e = .returned (.tuple #[]) ∧ Lib.IsBuilder 76 5 B b (bv ((l ++ hapL x.cs x.ds k) ++ lineL [numT n, ⟨#[46]⟩])) w' ∧ RK B b (w2.alloc (.cells #[.string (numT n), .string ⟨#[46]⟩] 9)) w') := by
     have hq : (l ++ hapL x.cs x.ds k).length + (lineL [numT n, ⟨#[46]⟩]).length ≤ 100000000000000 := by
      have h1 := HLn.out
      have h2 := HLL.out
      rw [HSD.out] at h2
      omega
     have ho := rowStr w2 [numT n, ⟨#[46]⟩]
     have hi : Lib.IsBuilder 76 5 B b (bv (l ++ hapL x.cs x.ds k)) (w2.alloc (.cells ([numT n, ⟨#[46]⟩].map Value.string).toArray 9)) := rBelow HI2.out ((belowRefl w2).alloc (Nat.le_refl _) _)
     have hbz : B ≤ (w2.alloc (.cells ([numT n, ⟨#[46]⟩].map Value.string).toArray 9)).heap.size := Nat.le_trans HZ2.out (by simp)
     have hgz : w2.heap.size < (w2.alloc (.cells ([numT n, ⟨#[46]⟩].map Value.string).toArray 9)).heap.size := by simp
     exact iline B b (l ++ hapL x.cs x.ds k) w2.heap.size 2 2 [numT n, ⟨#[46]⟩] rfl _ hi hbz (Nat.le_refl _) hgz ho hq (by omega)
    have HX3 : Hid ((w2.alloc (.cells #[.string (numT n), .string ⟨#[46]⟩] 9)).heap[w.heap.size]? = some (.cells (wdV x) 56 (0, 0))) := hb_keep ((belowRefl w2).alloc (Nat.le_refl _) _) HX2.out
    have HB3 : Hid (RK B b w (w2.alloc (.cells #[.string (numT n), .string ⟨#[46]⟩] 9))) := HB2.out.step HZ2.out ((belowRefl w2).alloc (Nat.le_refl _) _)
    go_wp2_with fail
    refine HCL.out.mono ?_
    rintro e w5 ⟨rfl, hi5, hb5⟩
    have HB5 : Hid (RK B b w w5) := HB3.out.trans hb5
    have HX5 : Hid (w5.heap[w.heap.size]? = some (.cells (wdV x) 56 (0, 0))) := hb5.heap HX3.out (by have := HBS.out; omega) (by decide)
    have HI5 : Hid (Lib.IsBuilder 76 5 B b (bv (l ++ hapL x.cs x.ds (k + 1))) w5) := by
     show Lib.IsBuilder _ _ _ _ _ _
     rw [HSN.out, HSD.out, ← List.append_assoc]; exact hi5
    clear hi5 hb5
    go_wp2
    go_roundw
    case rel => exact ⟨k + 1, by omega, by go_num, HI5, HB5, HX5⟩
    case measure => simp [intOf]; omega
  ·have hlt' : ¬ (k : Int) < (x.cs.length : Int) := by omega
   obtain rfl : k = x.cs.length := by omega
   go_wp2
   go_end0
   exact ⟨rfl, HI.out, HB.out⟩
end Go.Proofs.YtjieojfcmigcdaaGreatDoor

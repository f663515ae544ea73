/- What stays: copies of lists, by the document. -/
import Derived.Test.YtpnnncfbodfnhaaGreatDoorPr21
import Derived.Test.YtpnnncfbodfnhaaGreatDoorPr20
import Derived.Deep.RegionHeld3
import Derived.Deep.Cut
import Derived.Deep.CutRange
import Derived.Test.YtpnnncfbodfnhaaGreatDoorPr01
import Derived.Test.YtpnnncfbodfnhaaGreatDoorPr23
import Derived.Test.YtpnnncfbodfnhaaGreatDoorPr25
namespace Go.Proofs.YtpnnncfbodfnhaaGreatDoor
open Go.RowKit
open KM
attribute [local go_sem ↓] Go.wp_at_zero Go.wp_at_succ

theorem Zs.mem {w : World} {v : Value} : ∀ {ys : List Ta} {lo hi : Nat}, Zs w v lo hi ys → ∀ y ∈ ys, ∃ p q, TLie w p q y.t y.ra y.rc y.wa y.wc
 | [], _, _, _, _, hy => by cases hy
 | _ :: _, _, _, ⟨p, q, _, _, h3, _, h5⟩, y, hy => by
  rcases List.mem_cons.1 hy with rfl | hy
  ·exact ⟨p, q, h3⟩
  ·exact h5.mem y hy

end Go.Proofs.YtpnnncfbodfnhaaGreatDoor

namespace Go.Proofs.YtpnnncfbodfnhaaGreatDoor
open Go.RowKit
open KM
open VM
attribute [local go_sem ↓] Go.wp_at_zero Go.wp_at_succ

def TsQ (x : ByteArray) (p : Int) (b : Bool) (M : Nat) (l : List Tx) (p' : Int) (b' : Bool) : Prop :=
 (b' = true ∧ (b = true ∨ rTs x p = none)) ∨ (b' = false ∧ b = false ∧ ∃ q : Nat, p' = (q : Int) ∧ (rTs x p = some (l, q) ∨ (M < l.length ∧ ∀ l2 q2, rTs x p = some (l2, q2) → M < l2.length)))
def TsR (x : ByteArray) (p : Int) (b : Bool) (M g : Nat) (ys : List Ta) (a1 : Option Addr) (c1 : Nat) (w w' : World) : Prop := ∃ (p' : Int) (b' : Bool), TsQ x p b M (txs ys) p' b' ∧ (txs ys).length ≤ M + 1 ∧ (∀ t ∈ txs ys, txnB t = true) ∧ LLie w' w.heap.size w'.heap.size (.slice a1 ys.length c1) ys ∧ Cr w' g x p' b' ∧ w.grownBy w' (some g)
theorem tsq_end {x : ByteArray} {p p1 pp : Int} {b b1 bb : Bool} {n k M : Nat} {l : List Tx} (h1 : Stp (rN x p) 0 n p p1 b b1) (hm : MI (rTx x) b1 p1 k l pp bb) (hk : k ≤ n) (hl : l.length = k) (he : ¬ (k < n ∧ k ≤ M ∧ bb = false)) : TsQ x p b M l pp bb := by
 rcases hm with ⟨rfl, hb⟩ | ⟨rfl, rfl, q, rfl, hq⟩
 ·refine Or.inl ⟨rfl, ?_⟩
  rcases h1 with ⟨rfl, _⟩ | ⟨_, hn, _⟩ | ⟨_, rfl, q1, hn, rfl⟩
  ·exact Or.inl rfl
  ·right; unfold rTs; rw [hn]
  ·right
   rcases hb with hb | hb
   ·cases hb
   ·unfold rTs
    rw [hn]
    exact many_none (by simpa using hb) hk
 ·rcases h1 with ⟨_, e, _⟩ | ⟨_, _, e, _⟩ | ⟨rfl, _, q1, hn, rfl⟩
  ·cases e
  ·cases e
  ·refine Or.inr ⟨rfl, rfl, q, rfl, ?_⟩
   have e : rTs x p = many (rTx x) q1 n := by unfold rTs; rw [hn]
   have hq' : many (rTx x) q1 k = some (l, q) := by simpa using hq
   by_cases hkn : k = n
   ·left; rw [e, ← hkn]; exact hq'
   ·right
    have hM : ¬ k ≤ M := fun h => he ⟨by omega, h, rfl⟩
    refine ⟨by omega, fun l2 q2 h2 => ?_⟩
    rw [e] at h2
    have hbn := rN_bd hn
    have := many_len hbn.2.2.1 rTx_bd h2
    omega
theorem MI.tx {x : ByteArray} {b0 : Bool} {p0 : Int} {k : Nat} {l : List Tx} {p : Int} {t : Tx} {q : Nat} (h : MI (rTx x) b0 p0 k l p false) (h1 : rTx x p = some (t, q)) : MI (rTx x) b0 p0 (k + 1) (l ++ [t]) (q : Int) false := by
 rcases h with ⟨e, _⟩ | ⟨_, e0, q0, rfl, hm⟩
 ·cases e
 ·exact Or.inr ⟨rfl, e0, q, rfl, many_yes hm h1⟩
theorem MI.txno {x : ByteArray} {b0 : Bool} {p0 : Int} {k : Nat} {l : List Tx} {p : Int} (h : MI (rTx x) b0 p0 k l p false) (h1 : rTx x p = none) : MI (rTx x) b0 p0 (k + 1) l p true := by
 rcases h with ⟨e, _⟩ | ⟨_, e0, q0, rfl, hm⟩
 ·cases e
 ·exact Or.inl ⟨rfl, Or.inr (many_no hm h1)⟩
theorem tsq_bad {x : ByteArray} {p p1 pp : Int} {b b1 : Bool} {n k M : Nat} {l : List Tx} (h1 : Stp (rN x p) 0 n p p1 b b1) (hm : MI (rTx x) b1 p1 (k + 1) l pp true) (hk : k < n) : TsQ x p b M l pp true := by
 rcases hm with ⟨_, hb⟩ | ⟨e, _⟩
 ·refine Or.inl ⟨rfl, ?_⟩
  rcases h1 with ⟨rfl, _⟩ | ⟨_, hn, _⟩ | ⟨_, rfl, q1, hn, rfl⟩
  ·exact Or.inl rfl
  ·right; unfold rTs; rw [hn]
  ·right
   rcases hb with hb | hb
   ·cases hb
   ·unfold rTs
    rw [hn]
    exact many_none (by simpa using hb) hk
 ·cases e

set_option maxRecDepth 100000 in
set_option maxHeartbeats 4000000 in
theorem sts (M : Nat) (hM : M ≤ 100) (x : ByteArray) (g : Nat) (p : Int) (b : Bool) (hs : x.size ≤ 1048576) (w : World) (hd : Cr w g x p b) :
  Calls Tryz.prog 73 #[.pointer (some ⟨g, 0, none⟩), .int .i64 (M : Int)] w fun e w' => ∃ (ys : List Ta) (a1 : Option Addr) (c1 : Nat), e = .returned (.slice a1 ys.length c1) ∧ TsR x p b M g ys a1 c1 w w' := by
 have HD : Hid (Cr w g x p b) := hd
 have hgl := hd.lt
 clear hd
 have HD0 : Hid (Cr (w.alloc (.cells #[] 38)) g x p b) := HD.out.alloc _
 have HG0 : Hid (w.grownBy (w.alloc (.cells #[] 38)) (some g)) := grown_below _ ((belowRefl w).alloc (Nat.le_refl _) _)
 have O0 : Hid (GOwn encT 38 (w.alloc (.cells #[] 38)) w.heap.size (.slice (some ⟨w.heap.size, 0, none⟩) 0 0) []) := GOwn.empty w w.heap.size (Nat.le_refl _)
 clear HD
 go_enter Tryz.func73, Tryz.ntmps73
 go_wp2_with fail
 refine (svar x g p b hs _ HD0.out).mono ?_
 rintro e w1 ⟨n, p1, b1, rfl, hn, h1, hc, hg⟩
 have H1 := hide h1
 have HD1 := hide hc
 have HG1 := hide (grown_trans HG0.out hg)
 have O1 := hide (O0.out.keptG hg hgl)
 clear h1 hc hg HD0 HG0 O0
 go_wp2
 go_loopw [5, 7] (fun v t wr => ∃ (k : Nat) (ys : List Ta) (pp : Int) (bb : Bool), k ≤ n ∧ k ≤ M + 1 ∧ t = .int .i64 k ∧ Hid ((txs ys).length = k) ∧ Hid (∀ t ∈ txs ys, txnB t = true) ∧ Hid (MI (rTx x) b1 p1 k (txs ys) pp bb) ∧ Hid (LLie wr w.heap.size wr.heap.size v ys) ∧ Hid (Cr wr g x pp bb) ∧ Hid (w.grownBy wr (some g))) (fun _ t _ => n - (intOf t).toNat)
 case atStart => exact ⟨0, [], p1, b1, Nat.zero_le _, Nat.zero_le _, rfl, rfl, (fun t ht => by cases ht), MI.start H1.out.nonneg, ⟨Lies.of O1.out, HG1.out.size⟩, HD1, HG1⟩
 case round =>
  clear HD1 HG1 O1
  obtain ⟨k, ys, pp, bb, hk, hkM, rfl, HYL, HYR, HM, HL, HD, HG⟩ := hrel
  have hln : ys.length ≤ 100000000 := by rw [← txs_len, HYL.out]; omega
  have x2 := HD.out.c2
  by_cases h1 : k < n
  rotate_left
  ·have h1' : ¬ (k : Int) < (n : Int) := by omega
   have h1d : decide (k < n) = false := decide_eq_false h1
   have h1e : decide ((k : Int) < (n : Int)) = false := decide_eq_false h1'
   have HE : Hid (¬ (k < n ∧ k ≤ M ∧ bb = false)) := fun h => h1 h.1
   have HQ : Hid (TsQ x p b M (txs ys) pp bb) := tsq_end H1.out HM.out hk HYL.out HE.out
   obtain ⟨a1, c1, rfl, _⟩ := HL.out.own.own.row
   go_wp2
   go_ret
   exact ⟨ys, a1, c1, rfl, pp, bb, HQ.out, (by rw [HYL.out]; exact hkM), HYR.out, HL.out, HD.out, HG.out⟩
  have h1' : (k : Int) < (n : Int) := by omega
  have h1d : decide (k < n) = true := decide_eq_true h1
  by_cases h2 : k ≤ M
  rotate_left
  ·have h2' : ¬ (k : Int) ≤ (M : Int) := by omega
   have h2d : decide (k ≤ M) = false := decide_eq_false h2
   have h2e : decide ((k : Int) ≤ (M : Int)) = false := decide_eq_false h2'
   have HE : Hid (¬ (k < n ∧ k ≤ M ∧ bb = false)) := fun h => h2 h.2.1
   have HQ : Hid (TsQ x p b M (txs ys) pp bb) := tsq_end H1.out HM.out hk HYL.out HE.out
   obtain ⟨a1, c1, rfl, _⟩ := HL.out.own.own.row
   go_wp2
   go_ret
   exact ⟨ys, a1, c1, rfl, pp, bb, HQ.out, (by rw [HYL.out]; exact hkM), HYR.out, HL.out, HD.out, HG.out⟩
  have h2' : (k : Int) ≤ (M : Int) := by omega
  have h2d : decide (k ≤ M) = true := decide_eq_true h2
  cases bb
  rotate_left
  ·have HE : Hid (¬ (k < n ∧ k ≤ M ∧ true = false)) := fun h => by cases h.2.2
   have HQ : Hid (TsQ x p b M (txs ys) pp true) := tsq_end H1.out HM.out hk HYL.out HE.out
   obtain ⟨a1, c1, rfl, _⟩ := HL.out.own.own.row
   go_wp2
   go_ret
   exact ⟨ys, a1, c1, rfl, pp, true, HQ.out, (by rw [HYL.out]; exact hkM), HYR.out, HL.out, HD.out, HG.out⟩
  obtain ⟨t, qq, bo, ha⟩ : ∃ t qq bo, ansT (rTx x pp) = (t, qq, bo) := ⟨_, _, _, rfl⟩
  have C1 := hide (fun W => srt x pp hs t qq bo ha W)
  have HA := hide ha
  clear ha
  go_upto_region 6 with fail
  clear x2
  go_cut [8, 9, 10] from 14 to 57 (fun v8 v9 v10 wx => ∃ (bz : Nat) (ra : Option Addr) (rc : Nat) (wa : Option Addr) (wk : Nat), v8 = .pointer (some ⟨bz, 0, none⟩) ∧ v9 = .int .i64 (qq : Int) ∧ v10 = .bool bo ∧ Hid (Bx wx bz [.int .i64 t.id, .int .i64 t.st, .int .i64 t.snap, .int .i64 t.cs, .slice ra t.rs.length rc, .slice wa t.ws.length wk, .bool t.out, .string t.nm]) ∧ Hid (TLie wx wr.heap.size wx.heap.size t ra rc wa wk) ∧ Hid (Below wr.heap.size wr wx))
  case first =>
   refine wp_region_held_drew (S := fun w' => w'.cell? ⟨g, 0, none⟩ = some (.string x) ∧ w'.cell? ⟨g, 1, none⟩ = some (.int .i64 pp)) (by kernel_rfl) ⟨HD.out.c0, HD.out.c1⟩ (fun hHeld => ?_)
   (refine ti 0 ?_; simp only [Act.put, tA, tB, tD, tE, tF])
   (refine ti 1 ?_; simp only [Act.put, tA, tB, tC, tD, tE, tF])
   (refine ti 2 ?_; simp only [Act.put, tA, tB, tC, tD, tE, tF])
   (refine ti 3 ?_; simp only [Act.put, tA, tB, tC, tD, tE, tF])
   (refine ti 4 ?_; simp only [Act.put, tA, tB, tC, tD, tE, tF])
   (refine ti 5 ?_; simp only [Act.put, tA, tB, tC, tD, tE, tF])
   (refine ti 6 ?_; simp only [Act.put, tA, tB, tC, tD, tE, tF])
   (refine ti 7 ?_; simp only [Act.put, tA, tB, tC, tD, tE, tF])
   refine wpAnyH_ready (rs := [8, 13]) (by kernel_rfl) (by simp) ?_
   refine (AllReadyH.cons rfl (fun K hK => ?_) (AllReadyH.cons rfl (fun K hK => ?_) AllReadyH.nil))
   ·go_simp
    go_wp2_with fail
    refine (C1.out _).mono ?_
    rintro e w2 ⟨ra, rc, wa, wk, rfl, hT, hb⟩
    have hbu := undrew hb
    have HT : Hid (TLie w2 wr.heap.size w2.heap.size t ra rc wa wk) := hT
    have HB2 := hide hbu
    have HD2 := hide (HD.out.below hbu)
    clear hT hb hbu
    go_wp2_with fail
    refine hK.out _ _ ⟨HD2.out.c0, HD2.out.c1⟩ (fun hHeldx => ?_)
    clear hK K
    (refine ti 9 ?_; simp only [Act.put, tA, tB, tC, tD, tE, tF])
    (refine ti 10 ?_; simp only [Act.put, tA, tB, tC, tD, tE, tF])
    (refine ti 11 ?_; simp only [Act.put, tA, tB, tC, tD, tE, tF])
    (refine ti 12 ?_; simp only [Act.put, tA, tB, tC, tD, tE, tF])
    refine wpAnyH_ready (rs := [13]) (by kernel_rfl) (by simp) ?_
    refine AllReadyH.cons rfl (fun K hK => ?_) AllReadyH.nil
    go_simp
    have HD3 : Hid (Cr (w2.alloc (.cells #[.int .i64 0, .int .i64 0, .int .i64 0, .int .i64 0, .slice none 0 0, .slice none 0 0, .bool false, .string ⟨#[]⟩] 38)) g x pp false) := HD2.out.alloc _
    refine hK.out _ _ ⟨HD3.out.c0, HD3.out.c1⟩ (fun hHeldy => ?_)
    clear hK K
    refine wpAnyH_ready (rs := [14]) (by kernel_rfl) (by simp) ?_
    refine AllReadyH.cons rfl (fun K hK => ?_) AllReadyH.nil
    go_simp
    have HD4 : Hid (Cr (w2.alloc (.cells #[.int .i64 t.id, .int .i64 t.st, .int .i64 t.snap, .int .i64 t.cs, .slice ra t.rs.length rc, .slice wa t.ws.length wk, .bool t.out, .string t.nm] 38)) g x pp false) := HD2.out.alloc _
    refine hK.out _ _ ⟨HD4.out.c0, HD4.out.c1⟩ (fun hHeldz => ?_)
    clear hK K
    (refine ti 15 ?_; simp only [Act.put, tA, tB, tC, tD, tE, tF])
    (refine ti 16 ?_; simp only [Act.put, tA, tB, tC, tD, tE, tF])
    refine wpAnyH_done (by kernel_rfl) ?_ _
    go_wp2
    have hba : Below w2.heap.size w2 (w2.alloc (.cells #[.int .i64 t.id, .int .i64 t.st, .int .i64 t.snap, .int .i64 t.cs, .slice ra t.rs.length rc, .slice wa t.ws.length wk, .bool t.out, .string t.nm] 38)) := (belowRefl w2).alloc (Nat.le_refl _) _
    have BZ : Hid (Bx (w2.alloc (.cells #[.int .i64 t.id, .int .i64 t.st, .int .i64 t.snap, .int .i64 t.cs, .slice ra t.rs.length rc, .slice wa t.ws.length wk, .bool t.out, .string t.nm] 38)) w2.heap.size [.int .i64 t.id, .int .i64 t.st, .int .i64 t.snap, .int .i64 t.cs, .slice ra t.rs.length rc, .slice wa t.ws.length wk, .bool t.out, .string t.nm]) := Bx.new w2 [.int .i64 t.id, .int .i64 t.st, .int .i64 t.snap, .int .i64 t.cs, .slice ra t.rs.length rc, .slice wa t.ws.length wk, .bool t.out, .string t.nm] 38
    have HTZ : Hid (TLie (w2.alloc (.cells #[.int .i64 t.id, .int .i64 t.st, .int .i64 t.snap, .int .i64 t.cs, .slice ra t.rs.length rc, .slice wa t.ws.length wk, .bool t.out, .string t.nm] 38)) wr.heap.size (w2.alloc (.cells #[.int .i64 t.id, .int .i64 t.st, .int .i64 t.snap, .int .i64 t.cs, .slice ra t.rs.length rc, .slice wa t.ws.length wk, .bool t.out, .string t.nm] 38)).heap.size t ra rc wa wk) := (HT.out.below hba).mono (Nat.le_refl _) hba.size
    have HBZ : Hid (Below wr.heap.size wr (w2.alloc (.cells #[.int .i64 t.id, .int .i64 t.st, .int .i64 t.snap, .int .i64 t.cs, .slice ra t.rs.length rc, .slice wa t.ws.length wk, .bool t.out, .string t.nm] 38))) := HB2.out.trans (hba.mono HB2.out.size)
    go_meet
    exact ⟨_, ra, rc, wa, wk, rfl, rfl, rfl, BZ, HTZ, HBZ⟩
   ·go_simp
    have HDa : Hid (Cr (wr.alloc (.cells #[.int .i64 0, .int .i64 0, .int .i64 0, .int .i64 0, .slice none 0 0, .slice none 0 0, .bool false, .string ⟨#[]⟩] 38)).drew g x pp false) := (HD.out.alloc _).drew
    have BZa : Hid (Bx (wr.alloc (.cells #[.int .i64 0, .int .i64 0, .int .i64 0, .int .i64 0, .slice none 0 0, .slice none 0 0, .bool false, .string ⟨#[]⟩] 38)).drew wr.heap.size [.int .i64 0, .int .i64 0, .int .i64 0, .int .i64 0, .slice none 0 0, .slice none 0 0, .bool false, .string ⟨#[]⟩]) := (Bx.new wr [.int .i64 0, .int .i64 0, .int .i64 0, .int .i64 0, .slice none 0 0, .slice none 0 0, .bool false, .string ⟨#[]⟩] 38).drew
    have HBa : Hid (Below wr.heap.size wr (wr.alloc (.cells #[.int .i64 0, .int .i64 0, .int .i64 0, .int .i64 0, .slice none 0 0, .slice none 0 0, .bool false, .string ⟨#[]⟩] 38)).drew) := ((belowRefl wr).alloc (Nat.le_refl _) _).drew
    have HSa : Hid (wr.heap.size + 1 ≤ (wr.alloc (.cells #[.int .i64 0, .int .i64 0, .int .i64 0, .int .i64 0, .slice none 0 0, .slice none 0 0, .bool false, .string ⟨#[]⟩] 38)).drew.heap.size) := by show _ ≤ (wr.alloc (.cells #[.int .i64 0, .int .i64 0, .int .i64 0, .int .i64 0, .slice none 0 0, .slice none 0 0, .bool false, .string ⟨#[]⟩] 38)).heap.size; rw [World.size_alloc]; exact Nat.le_refl _
    refine hK.out _ _ ⟨HDa.out.c0, HDa.out.c1⟩ (fun hHeldx => ?_)
    clear hK K
    generalize (wr.alloc (.cells #[.int .i64 0, .int .i64 0, .int .i64 0, .int .i64 0, .slice none 0 0, .slice none 0 0, .bool false, .string ⟨#[]⟩] 38)).drew = Wa at *
    refine wpAnyH_ready (rs := [8]) (by kernel_rfl) (by simp) ?_
    refine AllReadyH.cons rfl (fun K hK => ?_) AllReadyH.nil
    go_simp
    go_wp2_with fail
    refine (C1.out _).mono ?_
    rintro e w2 ⟨ra, rc, wa, wk, rfl, hT, hb⟩
    have HT : Hid (TLie w2 Wa.heap.size w2.heap.size t ra rc wa wk) := hT
    have HB2 : Hid (Below wr.heap.size wr w2) := HBa.out.trans (hb.mono HBa.out.size)
    have HD2 := hide (HDa.out.below hb)
    have BZ2 := hide (BZa.out.below hb)
    clear hT hb
    go_wp2_with fail
    refine hK.out _ _ ⟨HD2.out.c0, HD2.out.c1⟩ (fun hHeldy => ?_)
    clear hK K
    (refine ti 9 ?_; simp only [Act.put, tA, tB, tC, tD, tE, tF])
    (refine ti 10 ?_; simp only [Act.put, tA, tB, tC, tD, tE, tF])
    (refine ti 11 ?_; simp only [Act.put, tA, tB, tC, tD, tE, tF])
    (refine ti 12 ?_; simp only [Act.put, tA, tB, tC, tD, tE, tF])
    have z0 := BZ2.out.c0
    have fz0 := BZ2.out.fz 0
    have z1 := BZ2.out.c1
    have fz1 := BZ2.out.fz 1
    have z2 := BZ2.out.c2
    have fz2 := BZ2.out.fz 2
    have z3 := BZ2.out.c3
    have fz3 := BZ2.out.fz 3
    have z4 := BZ2.out.c4
    have fz4 := BZ2.out.fz 4
    have z5 := BZ2.out.c5
    have fz5 := BZ2.out.fz 5
    have z6 := BZ2.out.c6
    have fz6 := BZ2.out.fz 6
    have z7 := BZ2.out.c7
    have fz7 := BZ2.out.fz 7
    refine wpAnyH_ready (rs := [14]) (by kernel_rfl) (by simp) ?_
    refine AllReadyH.cons rfl (fun K hK => ?_) AllReadyH.nil
    go_simp
    have hne : wr.heap.size ≠ g := by have := HD.out.lt; omega
    have HD4 : Hid (Cr ((((((((w2.setCell ⟨wr.heap.size, 0, none⟩ (.int .i64 t.id)).setCell ⟨wr.heap.size, 1, none⟩ (.int .i64 t.st)).setCell ⟨wr.heap.size, 2, none⟩ (.int .i64 t.snap)).setCell ⟨wr.heap.size, 3, none⟩ (.int .i64 t.cs)).setCell ⟨wr.heap.size, 4, none⟩ (.slice ra t.rs.length rc)).setCell ⟨wr.heap.size, 5, none⟩ (.slice wa t.ws.length wk)).setCell ⟨wr.heap.size, 6, none⟩ (.bool t.out)).setCell ⟨wr.heap.size, 7, none⟩ (.string t.nm)) g x pp false) := (((((((HD2.out.setO (p := ⟨wr.heap.size, 0, none⟩) hne _).setO (p := ⟨wr.heap.size, 1, none⟩) hne _).setO (p := ⟨wr.heap.size, 2, none⟩) hne _).setO (p := ⟨wr.heap.size, 3, none⟩) hne _).setO (p := ⟨wr.heap.size, 4, none⟩) hne _).setO (p := ⟨wr.heap.size, 5, none⟩) hne _).setO (p := ⟨wr.heap.size, 6, none⟩) hne _).setO (p := ⟨wr.heap.size, 7, none⟩) hne _
    refine hK.out _ _ ⟨HD4.out.c0, HD4.out.c1⟩ (fun hHeldz => ?_)
    clear hK K
    (refine ti 15 ?_; simp only [Act.put, tA, tB, tC, tD, tE, tF])
    (refine ti 16 ?_; simp only [Act.put, tA, tB, tC, tD, tE, tF])
    refine wpAnyH_done (by kernel_rfl) ?_ _
    go_wp2
    have BZ : Hid (Bx ((((((((w2.setCell ⟨wr.heap.size, 0, none⟩ (.int .i64 t.id)).setCell ⟨wr.heap.size, 1, none⟩ (.int .i64 t.st)).setCell ⟨wr.heap.size, 2, none⟩ (.int .i64 t.snap)).setCell ⟨wr.heap.size, 3, none⟩ (.int .i64 t.cs)).setCell ⟨wr.heap.size, 4, none⟩ (.slice ra t.rs.length rc)).setCell ⟨wr.heap.size, 5, none⟩ (.slice wa t.ws.length wk)).setCell ⟨wr.heap.size, 6, none⟩ (.bool t.out)).setCell ⟨wr.heap.size, 7, none⟩ (.string t.nm)) wr.heap.size [.int .i64 t.id, .int .i64 t.st, .int .i64 t.snap, .int .i64 t.cs, .slice ra t.rs.length rc, .slice wa t.ws.length wk, .bool t.out, .string t.nm]) := (((((((BZ2.out.set 0 _).set 1 _).set 2 _).set 3 _).set 4 _).set 5 _).set 6 _).set 7 _
    have HTZ : Hid (TLie ((((((((w2.setCell ⟨wr.heap.size, 0, none⟩ (.int .i64 t.id)).setCell ⟨wr.heap.size, 1, none⟩ (.int .i64 t.st)).setCell ⟨wr.heap.size, 2, none⟩ (.int .i64 t.snap)).setCell ⟨wr.heap.size, 3, none⟩ (.int .i64 t.cs)).setCell ⟨wr.heap.size, 4, none⟩ (.slice ra t.rs.length rc)).setCell ⟨wr.heap.size, 5, none⟩ (.slice wa t.ws.length wk)).setCell ⟨wr.heap.size, 6, none⟩ (.bool t.out)).setCell ⟨wr.heap.size, 7, none⟩ (.string t.nm)) wr.heap.size ((((((((w2.setCell ⟨wr.heap.size, 0, none⟩ (.int .i64 t.id)).setCell ⟨wr.heap.size, 1, none⟩ (.int .i64 t.st)).setCell ⟨wr.heap.size, 2, none⟩ (.int .i64 t.snap)).setCell ⟨wr.heap.size, 3, none⟩ (.int .i64 t.cs)).setCell ⟨wr.heap.size, 4, none⟩ (.slice ra t.rs.length rc)).setCell ⟨wr.heap.size, 5, none⟩ (.slice wa t.ws.length wk)).setCell ⟨wr.heap.size, 6, none⟩ (.bool t.out)).setCell ⟨wr.heap.size, 7, none⟩ (.string t.nm)).heap.size t ra rc wa wk) := ((((((((HT.out.set (a := ⟨wr.heap.size, 0, none⟩) (by have := HSa.out; show wr.heap.size < _; omega) _).set (a := ⟨wr.heap.size, 1, none⟩) (by have := HSa.out; show wr.heap.size < _; omega) _).set (a := ⟨wr.heap.size, 2, none⟩) (by have := HSa.out; show wr.heap.size < _; omega) _).set (a := ⟨wr.heap.size, 3, none⟩) (by have := HSa.out; show wr.heap.size < _; omega) _).set (a := ⟨wr.heap.size, 4, none⟩) (by have := HSa.out; show wr.heap.size < _; omega) _).set (a := ⟨wr.heap.size, 5, none⟩) (by have := HSa.out; show wr.heap.size < _; omega) _).set (a := ⟨wr.heap.size, 6, none⟩) (by have := HSa.out; show wr.heap.size < _; omega) _).set (a := ⟨wr.heap.size, 7, none⟩) (by have := HSa.out; show wr.heap.size < _; omega) _).mono (by have := HSa.out; omega) (by simp [World.setCell])
    have HBZ : Hid (Below wr.heap.size wr ((((((((w2.setCell ⟨wr.heap.size, 0, none⟩ (.int .i64 t.id)).setCell ⟨wr.heap.size, 1, none⟩ (.int .i64 t.st)).setCell ⟨wr.heap.size, 2, none⟩ (.int .i64 t.snap)).setCell ⟨wr.heap.size, 3, none⟩ (.int .i64 t.cs)).setCell ⟨wr.heap.size, 4, none⟩ (.slice ra t.rs.length rc)).setCell ⟨wr.heap.size, 5, none⟩ (.slice wa t.ws.length wk)).setCell ⟨wr.heap.size, 6, none⟩ (.bool t.out)).setCell ⟨wr.heap.size, 7, none⟩ (.string t.nm))) := (((((((HB2.out.setCell (p := ⟨wr.heap.size, 0, none⟩) (Nat.le_refl _) _).setCell (p := ⟨wr.heap.size, 1, none⟩) (Nat.le_refl _) _).setCell (p := ⟨wr.heap.size, 2, none⟩) (Nat.le_refl _) _).setCell (p := ⟨wr.heap.size, 3, none⟩) (Nat.le_refl _) _).setCell (p := ⟨wr.heap.size, 4, none⟩) (Nat.le_refl _) _).setCell (p := ⟨wr.heap.size, 5, none⟩) (Nat.le_refl _) _).setCell (p := ⟨wr.heap.size, 6, none⟩) (Nat.le_refl _) _).setCell (p := ⟨wr.heap.size, 7, none⟩) (Nat.le_refl _) _
    go_meet
    exact ⟨_, ra, rc, wa, wk, rfl, rfl, rfl, BZ, HTZ, HBZ⟩
  case rest =>
  obtain ⟨bz, ra, rc, wa, wk, rfl, rfl, rfl, BZ, HT, HB⟩ := hcut
  have HDx := hide (HD.out.below HB.out)
  have HGx : Hid (w.grownBy wc (some g)) := grown_trans HG.out (grown_below _ HB.out)
  have HSx : Hid (w.heap.size ≤ wc.heap.size) := HGx.out.size
  have hne : wc.heap.size ≠ g := by have := HDx.out.lt; omega
  cases hx : rTx x pp with
  | none =>
   have h := HA.out
   rw [hx] at h
   obtain ⟨rfl, rfl, rfl⟩ : t = zT ∧ qq = 0 ∧ bo = false := by cases h; exact ⟨rfl, rfl, rfl⟩
   have HMn : Hid (TsQ x p b M (txs ys) pp true) := tsq_bad H1.out (HM.out.txno hx) h1
   have LX : Hid (LLie wc w.heap.size wc.heap.size _ ys) := (HL.out.below HB.out).mono (Nat.le_refl _) HB.out.size
   obtain ⟨a1, c1, rfl, _⟩ := LX.out.own.own.row
   clear h hx
   have x2 := HDx.out.c2
   have fx2 := HDx.out.fz 2
   go_wp2
   go_ret
   exact ⟨ys, a1, c1, rfl, pp, true, HMn.out, (by rw [HYL.out]; exact hkM), HYR.out, (LX.out.set (a := ⟨g, 2, none⟩) hgl _).mono (Nat.le_refl _) (by simp [World.setCell]), HDx.out.set 2 _, grown_trans HGx.out (grown_set wc g 2 _)⟩
  | some r =>
   obtain ⟨t', q'⟩ := r
   have h := HA.out
   rw [hx] at h
   obtain ⟨rfl, rfl, rfl⟩ : t = t' ∧ qq = q' ∧ bo = true := by cases h; exact ⟨rfl, rfl, rfl⟩
   have HMn : Hid (MI (rTx x) b1 p1 (k + 1) (txs ys ++ [t]) (qq : Int) false) := HM.out.tx hx
   have HRn : Hid (txnB t = true) := rTx_right _ _ _ hx
   have O2 := hide (HL.out.own.own.below HB.out)
   clear h hx HA C1
   have z0 := BZ.out.c0
   have z1 := BZ.out.c1
   have z2 := BZ.out.c2
   have z3 := BZ.out.c3
   have z4 := BZ.out.c4
   have z5 := BZ.out.c5
   have z6 := BZ.out.c6
   have z7 := BZ.out.c7
   have HBK : Hid ((wc.alloc (.cells #[.int .i64 t.id, .int .i64 t.st, .int .i64 t.snap, .int .i64 t.cs, .slice ra t.rs.length rc, .slice wa t.ws.length wk, .bool t.out, .string t.nm] 38)).heap[wc.heap.size]? = some (.cells (encT.enc ⟨t, ra, rc, wa, wk⟩).toArray 38 (0, 0))) := heap_alloc_new wc _
   have O2a := hide (O2.out.alloc (.cells #[.int .i64 t.id, .int .i64 t.st, .int .i64 t.snap, .int .i64 t.cs, .slice ra t.rs.length rc, .slice wa t.ws.length wk, .bool t.out, .string t.nm] 38))
   have hbb : w.heap.size ≤ (wc.alloc (.cells #[.int .i64 t.id, .int .i64 t.st, .int .i64 t.snap, .int .i64 t.cs, .slice ra t.rs.length rc, .slice wa t.ws.length wk, .bool t.out, .string t.nm] 38)).heap.size := by have := HSx.out; simp; omega
   go_wp2_with (at_builtin; refine wpAppK (E := encT) 40 38 104 _ Tryz.underlying40 Tryz.info38 rfl (by omega) rfl _ _ rfl ⟨t, ra, rc, wa, wk⟩ tone rfl O2a.out rfl HBK.out hln hbb ?_)
   intro g' cap w3 ho3 hg3 hg4 hlt3
   have HL3 : Hid (LLie w3 w.heap.size w3.heap.size (.slice (some ⟨g', 0, none⟩) (ys.length + 1) cap) (ys ++ [⟨t, ra, rc, wa, wk⟩])) := LLie.more (y := ⟨t, ra, rc, wa, wk⟩) HL.out HB.out (Nat.le_refl _) HB.out.size HT.out ho3 hg3 hg4 rfl
   have hb3 : Below w.heap.size wc w3 := (((belowRefl wc).alloc (Nat.le_refl _) _).mono HSx.out).trans ((Below.refl _ _).grown hg3 hbb (fun j hj => (World.ownsRow.lt O2a.out j hj).1))
   have HG3 : Hid (w.grownBy w3 (some g)) := grown_belowB HGx.out hb3 (Nat.le_refl _)
   have HD3 : Hid (Cr w3 g x pp false) := HDx.out.lowB hb3 hgl
   have e3 : txs (ys ++ [(⟨t, ra, rc, wa, wk⟩ : Ta)]) = txs ys ++ [t] := by simp [txs]
   have HYL3 : Hid ((txs (ys ++ [(⟨t, ra, rc, wa, wk⟩ : Ta)])).length = k + 1) := by show _ = _; rw [e3, List.length_append, HYL.out]; rfl
   have HYR3 : Hid (∀ u ∈ txs (ys ++ [(⟨t, ra, rc, wa, wk⟩ : Ta)]), txnB u = true) := fun u hu => by
    rw [e3] at hu
    rcases List.mem_append.1 hu with hu | hu
    ·exact HYR.out u hu
    ·rw [List.mem_singleton.1 hu]; exact HRn.out
   have HM3 : Hid (MI (rTx x) b1 p1 (k + 1) (txs (ys ++ [(⟨t, ra, rc, wa, wk⟩ : Ta)])) (qq : Int) false) := by rw [e3]; exact HMn.out
   clear ho3 hg3 hg4 hlt3 hb3 O2a O2 HBK HT HL hbb HG HMn HYL HYR e3 z0 z1 z2 z3 z4 z5 z6 z7 BZ
   have x1 := HD3.out.c1
   have fx1 := HD3.out.fz 1
   have HL4 : Hid (LLie (w3.setCell ⟨g, 1, none⟩ (.int .i64 (qq : Int))) w.heap.size (w3.setCell ⟨g, 1, none⟩ (.int .i64 (qq : Int))).heap.size (.slice (some ⟨g', 0, none⟩) (ys.length + 1) cap) (ys ++ [⟨t, ra, rc, wa, wk⟩])) := (HL3.out.set (a := ⟨g, 1, none⟩) hgl _).mono (Nat.le_refl _) (by simp [World.setCell])
   have HD4 : Hid (Cr (w3.setCell ⟨g, 1, none⟩ (.int .i64 (qq : Int))) g x (qq : Int) false) := HD3.out.set 1 _
   have HG4 : Hid (w.grownBy (w3.setCell ⟨g, 1, none⟩ (.int .i64 (qq : Int))) (some g)) := grown_trans HG3.out (grown_set w3 g 1 _)
   go_wp2
   go_roundw
   case rel => exact ⟨k + 1, _, (qq : Int), false, by omega, by omega, by go_num, HYL3, HYR3, HM3, HL4, HD4, HG4⟩
   case measure => simp [intOf]; omega

end Go.Proofs.YtpnnncfbodfnhaaGreatDoor

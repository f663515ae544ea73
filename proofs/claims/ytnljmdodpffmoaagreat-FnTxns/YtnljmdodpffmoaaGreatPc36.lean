/- What is said of a transaction and read again. -/
import Derived.Test.YtnljmdodpffmoaaGreatPc17
import Derived.Test.YtnljmdodpffmoaaGreatPc23
import Derived.Test.YtnljmdodpffmoaaGreatPc30
import Derived.Test.YtnljmdodpffmoaaGreatPc32
import Derived.Test.YtnljmdodpffmoaaGreatPc35
import Derived.Test.YtnljmdodpffmoaaGreatPc31
import Derived.Test.YtnljmdodpffmoaaGreatPc01
import Derived.Test.YtnljmdodpffmoaaGreatPc08
import Derived.Test.YtnljmdodpffmoaaGreatPc05
import Derived.Test.YtnljmdodpffmoaaGreatPc09
import Derived.Deep.RegionHeld3
import Derived.Deep.Cut
import Derived.Deep.CutRange
import Derived.Test.YtnljmdodpffmoaaGreatPc03
import Derived.Test.YtnljmdodpffmoaaGreatPc04
namespace Go.Proofs.YtnljmdodpffmoaaGreat
open Go.RowKit
open KM
open VM

theorem said_of (t : Tx) : ∃ (s : ByteArray) (k : Bool), txtV t = .tuple #[.string s, .bool k] ∧ k = txnB t ∧ s.size ≤ 700000 ∧ (k = true → s.data.toList = txL t) := by
 unfold txtV
 cases h : txnB t
 ·exact ⟨⟨#[]⟩, false, if_neg (by simp), rfl, by show (0 : Nat) ≤ _; omega, fun h => by cases h⟩
 ·refine ⟨⟨(txL t).toArray⟩, true, if_pos rfl, rfl, ?_, fun _ => by simp⟩
  have e : (⟨(txL t).toArray⟩ : ByteArray).size = (txL t).length := by simp [ByteArray.size]
  rw [e]
  exact txL_len (right_small h)
theorem size_list (s : ByteArray) : s.data.toList.length = s.size := Array.length_toList
theorem round_trip {t : Tx} {s X : ByteArray} (ht : txnB t = true) (hs : s.data.toList = txL t) (hX : X.data.toList = [97, 98] ++ (s.data.toList ++ [99, 100])) : ansT (rTx X 2) = (t, 2 + s.size, true) := by
 have h := fwdTx (x := X) (p := 2) (t := t) (r := [99, 100]) ht (by
  show X.data.toList.drop 2 = _
  rw [hX, hs]
  rfl)
 have e : (txL t).length = s.size := by rw [← hs]; exact size_list s
 rw [e] at h
 have h2 : rTx X 2 = some (t, 2 + s.size) := h
 rw [h2]
 rfl
theorem ans_len {x : ByteArray} {p : Int} {t : Tx} {q : Nat} {b : Bool} (h : ansT (rTx x p) = (t, q, b)) : t.rs.length ≤ 8 ∧ t.ws.length ≤ 8 ∧ (b = true → txnB t = true ∧ (Lx x).drop p.toNat = txL t ++ (Lx x).drop q) := by
 cases hr : rTx x p with
 | none =>
  rw [hr] at h
  have h2 : (zT, 0, false) = (t, q, b) := h
  obtain ⟨rfl, h3⟩ := Prod.mk.inj h2
  obtain ⟨_, rfl⟩ := Prod.mk.inj h3
  exact ⟨Nat.zero_le _, Nat.zero_le _, fun h => by cases h⟩
 | some r =>
  obtain ⟨t', q'⟩ := r
  rw [hr] at h
  have h2 : (t', q', true) = (t, q, b) := h
  obtain ⟨rfl, h3⟩ := Prod.mk.inj h2
  obtain ⟨rfl, rfl⟩ := Prod.mk.inj h3
  have ht : txnB t' = true := by
   unfold rTx at hr
   repeat' (split at hr)
   all_goals first | (cases hr; done) | skip
   all_goals
    rename_i hh
    cases hr
    exact hh
  exact ⟨(right_small ht).rl, (right_small ht).wl, fun _ => ⟨ht, backTx hr⟩⟩
theorem begins_ok {u s : ByteArray} {p : Nat} {l r : List UInt8} (_hp : p ≤ u.size) (hs : s.data.toList = l) (hu : (Lx u).drop p = l ++ r) : s.size ≤ (u.extract p u.size).size ∧ (((u.extract p u.size).extract 0 s.size).toList == s.toList) = true := by
 have e1 : (u.extract p u.size).data.toList = l ++ r := by
  rw [ext_data, hu]
  have hl : (l ++ r).length = u.size - p := by rw [← hu, List.length_drop, lx_len]
  rw [← hl, List.take_length]
 have hz : s.size = l.length := by rw [← hs]; exact (size_list s).symm
 refine ⟨?_, ?_⟩
 ·rw [← size_list (u.extract p u.size), e1, List.length_append]; omega
 ·rw [beq_iff_eq, toList_data, toList_data, ext_data]
  show (((u.extract p u.size).data.toList).drop 0).take (s.size - 0) = _
  rw [e1, hs, hz]
  simp
theorem ra_len {t : Tx} {r : Rg} {t' : Tx} {b : Bool} (h : RA t r t' b) (ht : TxR t) : t'.rs.length ≤ 100000000 ∧ t'.ws.length ≤ 100000000 := by
 have h1 := ht.rl
 have h2 := ht.wl
 rcases h with ⟨_, rfl, _⟩ | ⟨_, ⟨_, rfl, _⟩ | ⟨_, _, rfl, _⟩ | ⟨_, _, rfl, _⟩⟩
 ·exact ⟨by omega, by omega⟩
 ·exact ⟨by omega, by omega⟩
 ·exact ⟨by omega, by omega⟩
 ·refine ⟨?_, by show t.ws.length ≤ _; omega⟩
  show (t.rs ++ [r]).length ≤ _
  rw [List.length_append]
  show t.rs.length + 1 ≤ _
  omega
theorem wk_len {t : Tx} {x : Wt} {t' : Tx} {b : Bool} (ht : TxA t) (h : (wkB t x = true ∧ t' = setW t (putS t.ws x) ∧ b = true) ∨ (wkB t x = false ∧ t' = setW t t.ws ∧ b = false)) : t'.rs.length ≤ 100000000 ∧ t'.ws.length ≤ 100000000 := by
 have h1 := ht.rl
 have h2 := ht.wl
 rcases h with ⟨_, rfl, _⟩ | ⟨_, rfl, _⟩
 ·have h3 := len_putS t.ws x
  exact ⟨by show t.rs.length ≤ _; omega, by show (putS t.ws x).length ≤ _; omega⟩
 ·exact ⟨by show t.rs.length ≤ _; omega, by show t.ws.length ≤ _; omega⟩
end Go.Proofs.YtnljmdodpffmoaaGreat

namespace Go.Proofs.YtnljmdodpffmoaaGreat
open Go.RowKit
open KM
attribute [local go_sem ↓] Go.wp_at_zero Go.wp_at_succ

set_option maxRecDepth 100000 in
set_option maxHeartbeats 2000000 in
theorem sameW64 (xs : List Wt) (a1 a2 : Option Addr) (c1 c2 : Nat) (hn : xs.length ≤ 100000000) (w : World) (h1 : GRow encW w a1 xs) (h2 : GRow encW w a2 xs) :
  Calls Tryz.prog 64 #[.slice a1 xs.length c1, .slice a2 xs.length c2] w fun e w' => e = .returned (.bool true) ∧ Below w.heap.size w w' := by
 have H1 : Hid (GRow encW w a1 xs) := h1
 have H2 : Hid (GRow encW w a2 xs) := h2
 clear h1 h2
 go_enter Tryz.func64, Tryz.ntmps64
 go_wp2
 go_loopw [5] (fun t wr => ∃ k : Nat, k ≤ xs.length ∧ t = .int .i64 k ∧ Hid (Below w.heap.size w wr)) (fun t _ => xs.length - (intOf t).toNat)
 case atStart => exact ⟨0, Nat.zero_le _, rfl, Below.refl _ _⟩
 case round =>
  obtain ⟨k, hk, rfl, HB⟩ := hrel
  by_cases hlt : k < xs.length
  ·have hlt' : (k : Int) < (xs.length : Int) := by omega
   have h0 : (0 : Int) ≤ (k : Int) := by omega
   obtain ⟨b1, o1, rfl, hb1, q1⟩ := (H1.out.below HB.out) (by omega)
   obtain ⟨b2, o2, rfl, hb2, q2⟩ := (H2.out.below HB.out) (by omega)
   obtain ⟨r0, r1, r2⟩ := wat q1 k hlt
   obtain ⟨s0, s1, s2⟩ := wat q2 k hlt
   clear q1 q2
   go_wp2
   refine wp_region_held_drew (S := fun w' => w'.cell? ⟨b1, o1 + k * 3, none⟩ = some (.string xs[k].1) ∧ w'.cell? ⟨b1, o1 + k * 3 + 1, none⟩ = some (.string xs[k].2.1) ∧ w'.cell? ⟨b1, o1 + k * 3 + 2, none⟩ = some (.bool xs[k].2.2) ∧ w'.cell? ⟨b2, o2 + k * 3, none⟩ = some (.string xs[k].1) ∧ w'.cell? ⟨b2, o2 + k * 3 + 1, none⟩ = some (.string xs[k].2.1) ∧ w'.cell? ⟨b2, o2 + k * 3 + 2, none⟩ = some (.bool xs[k].2.2)) (by kernel_rfl) ⟨r0, r1, r2, s0, s1, s2⟩ (fun hHeld => ?_)
   (refine tk 0 ?_ rfl (Or.inl ⟨by rfl, ?_⟩) ?_; rotate_left; (focus (intro w h; (try dsimp only at h); go_simp; (try with_reducible rfl))); simp only [Act.put, tA, tB, tD, tE, tF])
   (refine tk 1 ?_ rfl (Or.inl ⟨by rfl, ?_⟩) ?_; rotate_left; (focus (intro w h; (try dsimp only at h); go_simp; (try with_reducible rfl))); simp only [Act.put, tA, tB, tC, tD, tE, tF])
   (refine tk 2 ?_ rfl (Or.inl ⟨by rfl, ?_⟩) ?_; rotate_left; (focus (intro w h; (try dsimp only at h); go_simp; (try with_reducible rfl))); simp only [Act.put, tA, tB, tC, tD, tE, tF])
   (refine tk 3 ?_ rfl (Or.inl ⟨by rfl, ?_⟩) ?_; rotate_left; (focus (intro w h; (try dsimp only at h); go_simp; (try with_reducible rfl))); simp only [Act.put, tA, tB, tC, tD, tE, tF])
   (refine tk 4 ?_ rfl (Or.inl ⟨by rfl, ?_⟩) ?_; rotate_left; (focus (intro w h; (try dsimp only at h); go_simp; (try with_reducible rfl))); simp only [Act.put, tA, tB, tC, tD, tE, tF])
   (refine tk 5 ?_ rfl (Or.inl ⟨by rfl, ?_⟩) ?_; rotate_left; (focus (intro w h; (try dsimp only at h); go_simp; (try with_reducible rfl))); simp only [Act.put, tA, tB, tC, tD, tE, tF])
   (refine tk 6 ?_ rfl (Or.inl ⟨by rfl, ?_⟩) ?_; rotate_left; (focus (intro w h; (try dsimp only at h); go_simp; (try with_reducible rfl))); simp only [Act.put, tA, tB, tC, tD, tE, tF])
   (refine tk 7 ?_ rfl (Or.inl ⟨by rfl, ?_⟩) ?_; rotate_left; (focus (intro w h; (try dsimp only at h); go_simp; (try with_reducible rfl))); simp only [Act.put, tA, tB, tC, tD, tE, tF])
   (refine tk 8 ?_ rfl (Or.inl ⟨by rfl, ?_⟩) ?_; rotate_left; (focus (intro w h; (try dsimp only at h); go_simp; (try with_reducible rfl))); simp only [Act.put, tA, tB, tC, tD, tE, tF])
   refine wpAnyH_done (by kernel_rfl) ?_ _
   go_wp2
   go_roundw
   case rel => exact ⟨k + 1, by omega, by go_num, HB.out.drew⟩
   case measure => simp [intOf]; omega
  ·have hd : ¬ (k : Int) < (xs.length : Int) := by omega
   go_wp2
   go_ret
   exact ⟨rfl, HB.out⟩

set_option maxRecDepth 100000 in
set_option maxHeartbeats 2000000 in
theorem sameT21 (t : Tx) (ra wa rb wb : Option Addr) (rc wc rd wd : Nat) (hr : t.rs.length ≤ 100000000) (hw : t.ws.length ≤ 100000000) (w : World) (hp : TRow w t ra wa) (hq : TRow w t rb wb) :
  Calls Tryz.prog 21 #[.agg #[.int .i64 t.id, .int .i64 t.st, .int .i64 t.snap, .int .i64 t.cs, .slice ra t.rs.length rc, .slice wa t.ws.length wc, .bool t.out, .string t.nm], .agg #[.int .i64 t.id, .int .i64 t.st, .int .i64 t.snap, .int .i64 t.cs, .slice rb t.rs.length rd, .slice wb t.ws.length wd, .bool t.out, .string t.nm]] w fun e w' => e = .returned (.bool true) ∧ Below w.heap.size w w' := by
 have HP : Hid (TRow w t ra wa) := hp
 have HQ : Hid (TRow w t rb wb) := hq
 clear hp hq
 have BA0 : Hid (Bx ((w.alloc (.cells #[.int .i64 t.id, .int .i64 t.st, .int .i64 t.snap, .int .i64 t.cs, .slice ra t.rs.length rc, .slice wa t.ws.length wc, .bool t.out, .string t.nm] 27)).alloc (.cells #[.int .i64 t.id, .int .i64 t.st, .int .i64 t.snap, .int .i64 t.cs, .slice rb t.rs.length rd, .slice wb t.ws.length wd, .bool t.out, .string t.nm] 27)) w.heap.size [.int .i64 t.id, .int .i64 t.st, .int .i64 t.snap, .int .i64 t.cs, .slice ra t.rs.length rc, .slice wa t.ws.length wc, .bool t.out, .string t.nm]) := (Bx.new w [.int .i64 t.id, .int .i64 t.st, .int .i64 t.snap, .int .i64 t.cs, .slice ra t.rs.length rc, .slice wa t.ws.length wc, .bool t.out, .string t.nm] 27).alloc _
 have BB0 : Hid (Bx ((w.alloc (.cells #[.int .i64 t.id, .int .i64 t.st, .int .i64 t.snap, .int .i64 t.cs, .slice ra t.rs.length rc, .slice wa t.ws.length wc, .bool t.out, .string t.nm] 27)).alloc (.cells #[.int .i64 t.id, .int .i64 t.st, .int .i64 t.snap, .int .i64 t.cs, .slice rb t.rs.length rd, .slice wb t.ws.length wd, .bool t.out, .string t.nm] 27)) (w.heap.size + 1) [.int .i64 t.id, .int .i64 t.st, .int .i64 t.snap, .int .i64 t.cs, .slice rb t.rs.length rd, .slice wb t.ws.length wd, .bool t.out, .string t.nm]) := by
  have h := Bx.new (w.alloc (.cells #[.int .i64 t.id, .int .i64 t.st, .int .i64 t.snap, .int .i64 t.cs, .slice ra t.rs.length rc, .slice wa t.ws.length wc, .bool t.out, .string t.nm] 27)) [.int .i64 t.id, .int .i64 t.st, .int .i64 t.snap, .int .i64 t.cs, .slice rb t.rs.length rd, .slice wb t.ws.length wd, .bool t.out, .string t.nm] 27
  rw [World.size_alloc] at h
  exact h
 have HB0 : Hid (Below w.heap.size w ((w.alloc (.cells #[.int .i64 t.id, .int .i64 t.st, .int .i64 t.snap, .int .i64 t.cs, .slice ra t.rs.length rc, .slice wa t.ws.length wc, .bool t.out, .string t.nm] 27)).alloc (.cells #[.int .i64 t.id, .int .i64 t.st, .int .i64 t.snap, .int .i64 t.cs, .slice rb t.rs.length rd, .slice wb t.ws.length wd, .bool t.out, .string t.nm] 27))) := ((belowRefl w).alloc (Nat.le_refl _) _).alloc (by simp) _
 have CW : Hid (∀ W : World, Below w.heap.size w W → Calls Tryz.prog 64 #[.slice wa t.ws.length wc, .slice wb t.ws.length wd] W fun e w' => e = .returned (.bool true) ∧ Below W.heap.size W w') := fun W h => sameW64 t.ws wa wb wc wd hw W (HP.out.w.below h) (HQ.out.w.below h)
 go_enter Tryz.func21, Tryz.ntmps21
 go_upto_region 1 with fail
 generalize ((w.alloc (.cells #[.int .i64 t.id, .int .i64 t.st, .int .i64 t.snap, .int .i64 t.cs, .slice ra t.rs.length rc, .slice wa t.ws.length wc, .bool t.out, .string t.nm] 27)).alloc (.cells #[.int .i64 t.id, .int .i64 t.st, .int .i64 t.snap, .int .i64 t.cs, .slice rb t.rs.length rd, .slice wb t.ws.length wd, .bool t.out, .string t.nm] 27)) = w0 at *
 have x0 := BA0.out.c0
 have y0 := BB0.out.c0
 have x1 := BA0.out.c1
 have y1 := BB0.out.c1
 have x2 := BA0.out.c2
 have y2 := BB0.out.c2
 have x3 := BA0.out.c3
 have y3 := BB0.out.c3
 have x4 := BA0.out.c4
 have y4 := BB0.out.c4
 have x5 := BA0.out.c5
 have y5 := BB0.out.c5
 have x6 := BA0.out.c6
 have y6 := BB0.out.c6
 have x7 := BA0.out.c7
 have y7 := BB0.out.c7
 go_wp2_with fail
 refine (CW.out _ HB0.out).mono ?_
 rintro e w1 ⟨rfl, hb⟩
 have BA1 : Hid (Bx w1 w.heap.size [.int .i64 t.id, .int .i64 t.st, .int .i64 t.snap, .int .i64 t.cs, .slice ra t.rs.length rc, .slice wa t.ws.length wc, .bool t.out, .string t.nm]) := BA0.out.below hb
 have BB1 : Hid (Bx w1 (w.heap.size + 1) [.int .i64 t.id, .int .i64 t.st, .int .i64 t.snap, .int .i64 t.cs, .slice rb t.rs.length rd, .slice wb t.ws.length wd, .bool t.out, .string t.nm]) := BB0.out.below hb
 have HB1 : Hid (Below w.heap.size w w1) := HB0.out.trans (hb.mono HB0.out.size)
 clear hb BA0 BB0 HB0 CW x0 y0 x1 y1 x2 y2 x3 y3 x4 y4 x5 y5 x6 y6 x7 y7
 go_wp2
 go_loopw [5] (fun v wr => ∃ k : Nat, k ≤ t.rs.length ∧ v = .int .i64 k ∧ Hid (Below w.heap.size w wr) ∧ Hid (Bx wr w.heap.size [.int .i64 t.id, .int .i64 t.st, .int .i64 t.snap, .int .i64 t.cs, .slice ra t.rs.length rc, .slice wa t.ws.length wc, .bool t.out, .string t.nm]) ∧ Hid (Bx wr (w.heap.size + 1) [.int .i64 t.id, .int .i64 t.st, .int .i64 t.snap, .int .i64 t.cs, .slice rb t.rs.length rd, .slice wb t.ws.length wd, .bool t.out, .string t.nm])) (fun v _ => t.rs.length - (intOf v).toNat)
 case atStart => exact ⟨0, Nat.zero_le _, rfl, HB1, BA1, BB1⟩
 case round =>
  clear HB1 BA1 BB1
  obtain ⟨k, hk, rfl, HB, BA, BB⟩ := hrel
  have x4 := BA.out.c4
  have y4 := BB.out.c4
  by_cases hlt : k < t.rs.length
  ·have hlt' : (k : Int) < (t.rs.length : Int) := by omega
   have h0 : (0 : Int) ≤ (k : Int) := by omega
   obtain ⟨b1, o1, rfl, hb1, q1⟩ := (HP.out.r.below HB.out) (by omega)
   obtain ⟨b2, o2, rfl, hb2, q2⟩ := (HQ.out.r.below HB.out) (by omega)
   obtain ⟨r0, r1⟩ := rat q1 k hlt
   obtain ⟨s0, s1⟩ := rat q2 k hlt
   clear q1 q2
   go_wp2
   refine wp_region_held_drew (S := fun w' => w'.cell? ⟨w.heap.size, 4, none⟩ = some (.slice (some ⟨b1, o1, none⟩) t.rs.length rc) ∧ w'.cell? ⟨w.heap.size + 1, 4, none⟩ = some (.slice (some ⟨b2, o2, none⟩) t.rs.length rd) ∧ w'.cell? ⟨b1, o1 + k * 2, none⟩ = some (.string t.rs[k].1) ∧ w'.cell? ⟨b1, o1 + k * 2 + 1, none⟩ = some (.string t.rs[k].2) ∧ w'.cell? ⟨b2, o2 + k * 2, none⟩ = some (.string t.rs[k].1) ∧ w'.cell? ⟨b2, o2 + k * 2 + 1, none⟩ = some (.string t.rs[k].2)) (by kernel_rfl) ⟨x4, y4, r0, r1, s0, s1⟩ (fun hHeld => ?_)
   (refine tk 0 ?_ rfl (Or.inl ⟨by rfl, ?_⟩) ?_; rotate_left; (focus (intro w h; (try dsimp only at h); go_simp; (try with_reducible rfl))); simp only [Act.put, tA, tB, tD, tE, tF])
   (refine tk 1 ?_ rfl (Or.inl ⟨by rfl, ?_⟩) ?_; rotate_left; (focus (intro w h; (try dsimp only at h); go_simp; (try with_reducible rfl))); simp only [Act.put, tA, tB, tC, tD, tE, tF])
   (refine tk 2 ?_ rfl (Or.inl ⟨by rfl, ?_⟩) ?_; rotate_left; (focus (intro w h; (try dsimp only at h); go_simp; (try with_reducible rfl))); simp only [Act.put, tA, tB, tC, tD, tE, tF])
   (refine tk 3 ?_ rfl (Or.inl ⟨by rfl, ?_⟩) ?_; rotate_left; (focus (intro w h; (try dsimp only at h); go_simp; (try with_reducible rfl))); simp only [Act.put, tA, tB, tC, tD, tE, tF])
   (refine tk 4 ?_ rfl (Or.inl ⟨by rfl, ?_⟩) ?_; rotate_left; (focus (intro w h; (try dsimp only at h); go_simp; (try with_reducible rfl))); simp only [Act.put, tA, tB, tC, tD, tE, tF])
   (refine tk 5 ?_ rfl (Or.inl ⟨by rfl, ?_⟩) ?_; rotate_left; (focus (intro w h; (try dsimp only at h); go_simp; (try with_reducible rfl))); simp only [Act.put, tA, tB, tC, tD, tE, tF])
   (refine tk 6 ?_ rfl (Or.inl ⟨by rfl, ?_⟩) ?_; rotate_left; (focus (intro w h; (try dsimp only at h); go_simp; (try with_reducible rfl))); simp only [Act.put, tA, tB, tC, tD, tE, tF])
   (refine tk 7 ?_ rfl (Or.inl ⟨by rfl, ?_⟩) ?_; rotate_left; (focus (intro w h; (try dsimp only at h); go_simp; (try with_reducible rfl))); simp only [Act.put, tA, tB, tC, tD, tE, tF])
   (refine tk 8 ?_ rfl (Or.inl ⟨by rfl, ?_⟩) ?_; rotate_left; (focus (intro w h; (try dsimp only at h); go_simp; (try with_reducible rfl))); simp only [Act.put, tA, tB, tC, tD, tE, tF])
   (refine tk 9 ?_ rfl (Or.inl ⟨by rfl, ?_⟩) ?_; rotate_left; (focus (intro w h; (try dsimp only at h); go_simp; (try with_reducible rfl))); simp only [Act.put, tA, tB, tC, tD, tE, tF])
   (refine tk 10 ?_ rfl (Or.inl ⟨by rfl, ?_⟩) ?_; rotate_left; (focus (intro w h; (try dsimp only at h); go_simp; (try with_reducible rfl))); simp only [Act.put, tA, tB, tC, tD, tE, tF])
   refine wpAnyH_done (by kernel_rfl) ?_ _
   go_wp2
   go_roundw
   case rel => exact ⟨k + 1, by omega, by go_num, HB.out.drew, BA.out.drew, BB.out.drew⟩
   case measure => simp [intOf]; omega
  ·have hd : ¬ (k : Int) < (t.rs.length : Int) := by omega
   go_wp2
   go_ret
   exact ⟨rfl, HB.out⟩

theorem begins22 (x y : ByteArray) (hle : x.size ≤ y.size) (hx : ((y.extract 0 x.size).toList == x.toList) = true) (w : World) :
  Calls Tryz.prog 22 #[.string x, .string y] w fun e w' => e = .returned (.bool true) ∧ w' = w := by
 have h1 : (x.size : Int) ≤ (y.size : Int) := by omega
 have h2 : (0 : Int) ≤ (x.size : Int) := by omega
 have h3 : decide ((x.size : Int) ≤ (y.size : Int)) = true := by simp; omega
 go_enter Tryz.func22, Tryz.ntmps22
 go_wp2
 go_ret
 exact ⟨rfl, rfl⟩

end Go.Proofs.YtnljmdodpffmoaaGreat

namespace Go.Proofs.YtnljmdodpffmoaaGreat
open Go.RowKit
open KM
open VM
attribute [local go_sem ↓] Go.wp_at_zero Go.wp_at_succ

def NoK (ws : List Wt) (k : ByteArray) (j : Nat) : Prop := ∀ i (h : i < ws.length), i < j → ¬ ws[i].1.toList = k.toList
theorem noK_more {ws : List Wt} {k : ByteArray} {j : Nat} (h : NoK ws k j) (hj : j < ws.length) (hn : ¬ ws[j].1.toList = k.toList) : NoK ws k (j + 1) := fun i hi hij => by
 by_cases e : i = j
 ·subst e; exact hn
 ·exact h i hi (by omega)
def ownW (ws : List Wt) (k : ByteArray) : Option Wt := ws.find? fun x => decide (x.1.toList = k.toList)
theorem ownW_at {ws : List Wt} {k : ByteArray} {j : Nat} (h : NoK ws k j) (hj : j < ws.length) (he : ws[j].1.toList = k.toList) : ownW ws k = some ws[j] := by
 unfold ownW
 rw [List.find?_eq_some_iff_getElem]
 refine ⟨by simpa using he, j, hj, rfl, fun i hi => ?_⟩
 have := h i (by omega) hi
 simpa using this
theorem ownW_none {ws : List Wt} {k : ByteArray} {j : Nat} (h : NoK ws k j) (hj : ws.length ≤ j) : ownW ws k = none := by
 unfold ownW
 rw [List.find?_eq_none]
 intro x hx
 obtain ⟨i, hi, rfl⟩ := List.getElem_of_mem hx
 have := h i hi (by omega)
 simpa using this
def ownB (t : Tx) (vs : List Vr) (k : ByteArray) : Option ByteArray := match ownW t.ws k with
 | some x => if x.2.2 = true then none else some x.2.1
 | none => seenB vs k t.snap
theorem ownB_some {t : Tx} {vs : List Vr} {k : ByteArray} {x : Wt} (h : ownW t.ws k = some x) : ownB t vs k = if x.2.2 = true then none else some x.2.1 := by unfold ownB; rw [h]
theorem ownB_none {t : Tx} {vs : List Vr} {k : ByteArray} (h : ownW t.ws k = none) : ownB t vs k = seenB vs k t.snap := by unfold ownB; rw [h]
theorem ret_saw {o : Option ByteArray} {v : Value} (h : v = sawB o) : Ending.returned v = .returned (sawB o) := by rw [h]

set_option maxRecDepth 100000 in
set_option maxHeartbeats 2000000 in
theorem ask53 (x : Wt) (k : ByteArray) (kb : Nat) (w : World) (hk : Bx w kb [.string k]) :
  Calls Tryz.prog 55 #[.agg #[.string x.1, .string x.2.1, .bool x.2.2], .pointer (some ⟨kb, 0, none⟩)] w fun e w' => e = .returned (.bool (x.1.toList == k.toList)) ∧ Below w.heap.size w w' := by
 have k0 := (hk.alloc (.cells #[.string x.1, .string x.2.1, .bool x.2.2] 42)).c0
 clear hk
 go_enter Tryz.func55, Tryz.ntmps55
 go_wp2
 go_ret
 exact ⟨rfl, (belowRefl w).alloc (Nat.le_refl _) _⟩

set_option maxRecDepth 100000 in
set_option maxHeartbeats 2000000 in
theorem find52 (ws : List Wt) (k : ByteArray) (kb : Nat) (a : Option Addr) (c : Nat) (hn : ws.length ≤ 100000000) (w : World) (hk : Bx w kb [.string k]) (hp : GRow encW w a ws) :
  Calls Tryz.prog 54 #[.slice a ws.length c, (.func (.func 55) #[] #[.pointer (some ⟨kb, 0, none⟩)])] w fun e w' => Below w.heap.size w w' ∧ ((e = .returned (.int .i64 (-1)) ∧ ownW ws k = none) ∨ ∃ (j : Nat) (hj : j < ws.length), e = .returned (.int .i64 j) ∧ ownW ws k = some ws[j]) := by
 have HK : Hid (Bx w kb [.string k]) := hk
 have HP : Hid (GRow encW w a ws) := hp
 clear hk hp
 go_enter Tryz.func54, Tryz.ntmps54
 go_wp2
 go_loopw [8] (fun t wr => ∃ j : Nat, j ≤ ws.length ∧ t = .int .i64 j ∧ Hid (NoK ws k j) ∧ Hid (Below w.heap.size w wr)) (fun t _ => ws.length - (intOf t).toNat)
 case atStart => exact ⟨0, Nat.zero_le _, rfl, fun i _ h => by omega, Below.refl _ _⟩
 case round =>
  obtain ⟨j, hj, rfl, HN, HB⟩ := hrel
  by_cases hlt : j < ws.length
  ·have hlt' : (j : Int) < (ws.length : Int) := by omega
   have h0 : (0 : Int) ≤ (j : Int) := by omega
   obtain ⟨b, off, rfl, hl, q⟩ := (HP.out.below HB.out) (by omega)
   have r0 := ((wat q) j hlt).1
   have r1 := ((wat q) j hlt).2.1
   have r2 := ((wat q) j hlt).2.2
   clear q
   have HKr : Hid (Bx wr kb [.string k]) := HK.out.below HB.out
   by_cases he : ws[j].1.toList = k.toList
   ·have C1 : Hid (∀ w, Bx w kb [.string k] → Calls Tryz.prog 55 #[.agg #[.string ws[j].1, .string ws[j].2.1, .bool ws[j].2.2], .pointer (some ⟨kb, 0, none⟩)] w fun e w' => e = .returned (.bool true) ∧ Below w.heap.size w w') := fun w h => by have := ask53 ws[j] k kb w h; rw [show (ws[j].1.toList == k.toList) = true by simp [he]] at this; exact this
    have HO : Hid (ownW ws k = some ws[j]) := ownW_at HN.out hlt he
    clear he
    go_wp2_with fail
    refine (C1.out _ HKr.out).mono ?_
    rintro e w2 ⟨rfl, hb2⟩
    have HB2 : Hid (Below w.heap.size w w2) := HB.out.trans (hb2.mono HB.out.size)
    clear hb2
    go_wp2
    go_ret
    exact ⟨HB2.out, Or.inr ⟨j, hlt, rfl, HO.out⟩⟩
   ·have C1 : Hid (∀ w, Bx w kb [.string k] → Calls Tryz.prog 55 #[.agg #[.string ws[j].1, .string ws[j].2.1, .bool ws[j].2.2], .pointer (some ⟨kb, 0, none⟩)] w fun e w' => e = .returned (.bool false) ∧ Below w.heap.size w w') := fun w h => by have := ask53 ws[j] k kb w h; rw [show (ws[j].1.toList == k.toList) = false by simpa using he] at this; exact this
    have HN2 : Hid (NoK ws k (j + 1)) := noK_more HN.out hlt he
    clear he
    go_wp2_with fail
    refine (C1.out _ HKr.out).mono ?_
    rintro e w2 ⟨rfl, hb2⟩
    have HB2 : Hid (Below w.heap.size w w2) := HB.out.trans (hb2.mono HB.out.size)
    clear hb2
    go_wp2
    go_roundw
    case rel => exact ⟨j + 1, by omega, by go_num, HN2, HB2⟩
    case measure => simp [intOf]; omega
  ·have hlt' : ¬ (j : Int) < (ws.length : Int) := by omega
   have HO : Hid (ownW ws k = none) := ownW_none HN.out (by omega)
   go_wp2
   go_ret
   exact ⟨HB.out, Or.inl ⟨rfl, HO.out⟩⟩

set_option maxRecDepth 100000 in
set_option maxHeartbeats 2000000 in
theorem iown (t : Tx) (ra wa : Option Addr) (rc wc : Nat) (vs : List Vr) (va : Option Addr) (vc : Nat) (k : ByteArray) (hw : t.ws.length ≤ 100000000) (hwf : WFit t.ws) (hn : vs.length ≤ 100000000) (hf : VFit vs) (w : World) (hp : GRow encW w wa t.ws) (hv : GRow encV w va vs) :
  Calls Tryz.prog 17 #[.agg #[.int .i64 t.id, .int .i64 t.st, .int .i64 t.snap, .int .i64 t.cs, .slice ra t.rs.length rc, .slice wa t.ws.length wc, .bool t.out, .string t.nm], .slice va vs.length vc, .string k] w fun e w' => e = .returned (sawB (ownB t vs k)) ∧ Below w.heap.size w w' := by
 have HP : Hid (GRow encW w wa t.ws) := hp
 have HWF : Hid (WFit t.ws) := hwf
 have HV : Hid (GRow encV w va vs) := hv
 have HF : Hid (VFit vs) := hf
 clear hp hwf hv hf
 have hmf : ∀ (fn : Fn) (first cap : Array Value) (w : World), (Instr.makeFunc fn first cap).run Tryz.prog w = .ok (.func fn first cap) w := fun _ _ _ _ => rfl
 have BA0 : Hid (Bx ((w.alloc (.cells #[.int .i64 t.id, .int .i64 t.st, .int .i64 t.snap, .int .i64 t.cs, .slice ra t.rs.length rc, .slice wa t.ws.length wc, .bool t.out, .string t.nm] 27)).alloc (.cells #[.string k] 9)) w.heap.size [.int .i64 t.id, .int .i64 t.st, .int .i64 t.snap, .int .i64 t.cs, .slice ra t.rs.length rc, .slice wa t.ws.length wc, .bool t.out, .string t.nm]) := (Bx.new w [.int .i64 t.id, .int .i64 t.st, .int .i64 t.snap, .int .i64 t.cs, .slice ra t.rs.length rc, .slice wa t.ws.length wc, .bool t.out, .string t.nm] 27).alloc _
 have BK0 : Hid (Bx ((w.alloc (.cells #[.int .i64 t.id, .int .i64 t.st, .int .i64 t.snap, .int .i64 t.cs, .slice ra t.rs.length rc, .slice wa t.ws.length wc, .bool t.out, .string t.nm] 27)).alloc (.cells #[.string k] 9)) (w.heap.size + 1) [.string k]) := by
  have h := Bx.new (w.alloc (.cells #[.int .i64 t.id, .int .i64 t.st, .int .i64 t.snap, .int .i64 t.cs, .slice ra t.rs.length rc, .slice wa t.ws.length wc, .bool t.out, .string t.nm] 27)) [.string k] 9
  rw [show (w.alloc (.cells #[.int .i64 t.id, .int .i64 t.st, .int .i64 t.snap, .int .i64 t.cs, .slice ra t.rs.length rc, .slice wa t.ws.length wc, .bool t.out, .string t.nm] 27)).heap.size = w.heap.size + 1 by simp] at h
  exact h
 have HB0 : Hid (Below w.heap.size w ((w.alloc (.cells #[.int .i64 t.id, .int .i64 t.st, .int .i64 t.snap, .int .i64 t.cs, .slice ra t.rs.length rc, .slice wa t.ws.length wc, .bool t.out, .string t.nm] 27)).alloc (.cells #[.string k] 9))) := ((belowRefl w).alloc (Nat.le_refl _) _).alloc (by simp) _
 go_enter Tryz.func17, Tryz.ntmps17
 go_wp2_with fail
 refine (find52 t.ws k (w.heap.size + 1) wa wc hw _ BK0.out (HP.out.below HB0.out)).mono ?_
 rintro e w1 ⟨hb1, hres⟩
 have BA1 : Hid (Bx w1 w.heap.size [.int .i64 t.id, .int .i64 t.st, .int .i64 t.snap, .int .i64 t.cs, .slice ra t.rs.length rc, .slice wa t.ws.length wc, .bool t.out, .string t.nm]) := BA0.out.below hb1
 have BK1 : Hid (Bx w1 (w.heap.size + 1) [.string k]) := BK0.out.below hb1
 have HB1 : Hid (Below w.heap.size w w1) := HB0.out.trans (hb1.mono HB0.out.size)
 clear hb1 BA0 BK0 HB0
 have x2 := BA1.out.c2
 have x5 := BA1.out.c5
 have k0 := BK1.out.c0
 rcases hres with ⟨rfl, ho⟩ | ⟨j, hj, rfl, ho⟩
 ·have HO : Hid (ownB t vs k = seenB vs k t.snap) := ownB_none ho
  clear ho
  have CS : Hid (∀ w, GRow encV w va vs → Calls Tryz.prog 56 #[.slice va vs.length vc, .string k, .int .i64 t.snap] w fun e w' => e = .returned (sawB (seenB vs k t.snap)) ∧ Below w.heap.size w w') := fun w h => iseen vs va vc k t.snap hn HF.out w h
  generalize seenB vs k t.snap = o at CS HO
  cases o with
  | none =>
   rw [sawB_none] at CS
   go_wp2_with fail
   refine (CS.out _ (HV.out.below HB1.out)).mono ?_
   rintro e w2 ⟨rfl, hb2⟩
   have HB2 : Hid (Below w.heap.size w w2) := HB1.out.trans (hb2.mono HB1.out.size)
   clear hb2
   go_wp2
   go_ret2
   exact ⟨ret_saw (by rw [HO.out]; rfl), HB2.out⟩
  | some v =>
   rw [sawB_some] at CS
   go_wp2_with fail
   refine (CS.out _ (HV.out.below HB1.out)).mono ?_
   rintro e w2 ⟨rfl, hb2⟩
   have HB2 : Hid (Below w.heap.size w w2) := HB1.out.trans (hb2.mono HB1.out.size)
   clear hb2
   go_wp2
   go_ret2
   exact ⟨ret_saw (by rw [HO.out]; rfl), HB2.out⟩
 ·have HO : Hid (ownB t vs k = if t.ws[j].2.2 = true then none else some t.ws[j].2.1) := ownB_some ho
  clear ho
  have hj' : (j : Int) < (t.ws.length : Int) := by omega
  have h0 : (0 : Int) ≤ (j : Int) := by omega
  have hnn : ¬ (j : Int) < 0 := by omega
  obtain ⟨b, off, rfl, hl, q⟩ := (HP.out.below HB1.out) (by omega)
  have r1 := ((wat q) j hj).2.1
  have r2 := ((wat q) j hj).2.2
  have HZ : Hid (t.ws[j].2.1.size ≤ 281474976710656) := Nat.le_trans (HWF.out _ (List.getElem_mem hj)).2 (by omega)
  clear q
  cases hg : t.ws[j].2.2
  ·rw [hg] at r2
   have HO2 : Hid (ownB t vs k = some t.ws[j].2.1) := by show _ = _; rw [HO.out, hg]; rfl
   clear hg
   go_wp2_with (go_at_call 57; refine (clone49 _ HZ.out _).mono ?_; rintro e w2 ⟨rfl, hb2⟩)
   go_ret2
   exact ⟨ret_saw (by rw [HO2.out]; rfl), HB1.out.trans (hb2.mono HB1.out.size)⟩
  ·rw [hg] at r2
   have HO2 : Hid (ownB t vs k = none) := by show _ = _; rw [HO.out, hg]; rfl
   clear hg
   go_wp2
   go_ret2
   exact ⟨ret_saw (by rw [HO2.out]; rfl), HB1.out⟩

set_option maxRecDepth 100000 in
set_option maxHeartbeats 2000000 in
theorem sown (t : Tx) (ra wa : Option Addr) (rc wc : Nat) (vs : List Vr) (va : Option Addr) (vc : Nat) (k : ByteArray) (hw : t.ws.length ≤ 100000000) (hn : vs.length ≤ 100000000) (w : World) (hp : GRow encW w wa t.ws) (hv : GRow encV w va vs) :
  Calls Tryz.prog 18 #[.agg #[.int .i64 t.id, .int .i64 t.st, .int .i64 t.snap, .int .i64 t.cs, .slice ra t.rs.length rc, .slice wa t.ws.length wc, .bool t.out, .string t.nm], .slice va vs.length vc, .string k] w fun e w' => e = .returned (sawB (ownB t vs k)) ∧ Below w.heap.size w w' := by
 have HP : Hid (GRow encW w wa t.ws) := hp
 have HV : Hid (GRow encV w va vs) := hv
 clear hp hv
 have BA0 : Hid (Bx (w.alloc (.cells #[.int .i64 t.id, .int .i64 t.st, .int .i64 t.snap, .int .i64 t.cs, .slice ra t.rs.length rc, .slice wa t.ws.length wc, .bool t.out, .string t.nm] 27)) w.heap.size [.int .i64 t.id, .int .i64 t.st, .int .i64 t.snap, .int .i64 t.cs, .slice ra t.rs.length rc, .slice wa t.ws.length wc, .bool t.out, .string t.nm]) := Bx.new w [.int .i64 t.id, .int .i64 t.st, .int .i64 t.snap, .int .i64 t.cs, .slice ra t.rs.length rc, .slice wa t.ws.length wc, .bool t.out, .string t.nm] 27
 have HB0 : Hid (Below w.heap.size w (w.alloc (.cells #[.int .i64 t.id, .int .i64 t.st, .int .i64 t.snap, .int .i64 t.cs, .slice ra t.rs.length rc, .slice wa t.ws.length wc, .bool t.out, .string t.nm] 27))) := (belowRefl w).alloc (Nat.le_refl _) _
 have x2 := BA0.out.c2
 have x5 := BA0.out.c5
 have hpw := hide0 (HP.out.below HB0.out)
 have hvw := hide0 (HV.out.below HB0.out)
 go_enter Tryz.func18, Tryz.ntmps18
 go_wp2
 generalize w.alloc (.cells #[.int .i64 t.id, .int .i64 t.st, .int .i64 t.snap, .int .i64 t.cs, .slice ra t.rs.length rc, .slice wa t.ws.length wc, .bool t.out, .string t.nm] 27) = W1 at *
 go_loopw [8] (fun t' wr => ∃ j : Nat, j ≤ t.ws.length ∧ t' = .int .i64 j ∧ Hid (NoK t.ws k j) ∧ wr = W1) (fun t' _ => t.ws.length - (intOf t').toNat)
 case atStart => exact ⟨0, Nat.zero_le _, rfl, fun i _ h => by omega, rfl⟩
 case round =>
  obtain ⟨j, hj, rfl, HN, rfl⟩ := hrel
  by_cases hlt : j < t.ws.length
  ·have hlt' : (j : Int) < (t.ws.length : Int) := by omega
   have h0 : (0 : Int) ≤ (j : Int) := by omega
   obtain ⟨b, off, rfl, hl, q⟩ := hpw.out (by omega)
   have r0 := ((wat q) j hlt).1
   have r1 := ((wat q) j hlt).2.1
   have r2 := ((wat q) j hlt).2.2
   clear q
   by_cases he : t.ws[j].1.toList = k.toList
   ·have HO : Hid (ownB t vs k = if t.ws[j].2.2 = true then none else some t.ws[j].2.1) := ownB_some (ownW_at HN.out hlt he)
    cases hg : t.ws[j].2.2
    ·rw [hg] at r2
     have HO2 : Hid (ownB t vs k = some t.ws[j].2.1) := by show _ = _; rw [HO.out, hg]; rfl
     clear hg
     go_wp2
     go_ret2
     exact ⟨ret_saw (by rw [HO2.out]; rfl), HB0.out⟩
    ·rw [hg] at r2
     have HO2 : Hid (ownB t vs k = none) := by show _ = _; rw [HO.out, hg]; rfl
     clear hg
     go_wp2
     go_ret2
     exact ⟨ret_saw (by rw [HO2.out]; rfl), HB0.out⟩
   ·have HN2 : Hid (NoK t.ws k (j + 1)) := noK_more HN.out hlt he
    have he' : (t.ws[j].1.toList == k.toList) = false := by simpa using he
    go_wp2
    go_roundw
    case rel => exact ⟨j + 1, by omega, by go_num, HN2, trivial⟩
    case measure => simp [intOf]; omega
  ·have hlt' : ¬ (j : Int) < (t.ws.length : Int) := by omega
   have HO : Hid (ownB t vs k = seenB vs k t.snap) := ownB_none (ownW_none HN.out (by omega))
   have CS : Hid (∀ w, GRow encV w va vs → Calls Tryz.prog 58 #[.slice va vs.length vc, .string k, .int .i64 t.snap] w fun e w' => e = .returned (sawB (seenB vs k t.snap)) ∧ Below w.heap.size w w') := fun w h => sseen vs va vc k t.snap hn w h
   generalize seenB vs k t.snap = o at CS HO
   cases o with
   | none =>
    rw [sawB_none] at CS
    go_wp2_with fail
    refine (CS.out _ hvw.out).mono ?_
    rintro e w2 ⟨rfl, hb2⟩
    have HB2 : Hid (Below w.heap.size w w2) := HB0.out.trans (hb2.mono HB0.out.size)
    clear hb2
    go_wp2
    go_ret2
    exact ⟨ret_saw (by rw [HO.out]; rfl), HB2.out⟩
   | some v =>
    rw [sawB_some] at CS
    go_wp2_with fail
    refine (CS.out _ hvw.out).mono ?_
    rintro e w2 ⟨rfl, hb2⟩
    have HB2 : Hid (Below w.heap.size w w2) := HB0.out.trans (hb2.mono HB0.out.size)
    clear hb2
    go_wp2
    go_ret2
    exact ⟨ret_saw (by rw [HO.out]; rfl), HB2.out⟩
end Go.Proofs.YtnljmdodpffmoaaGreat

namespace Go.Proofs.YtnljmdodpffmoaaGreat
open Go.RowKit
open KM
open VM
attribute [local go_sem ↓] Go.wp_at_zero Go.wp_at_succ

end Go.Proofs.YtnljmdodpffmoaaGreat

namespace Go.Proofs.YtnljmdodpffmoaaGreat
open Go.RowKit
open KM
open VM
attribute [local go_sem ↓] Go.wp_at_zero Go.wp_at_succ

end Go.Proofs.YtnljmdodpffmoaaGreat

namespace Go.Proofs.YtnljmdodpffmoaaGreat
open Go.RowKit
open KM
open VM
attribute [local go_sem ↓] Go.wp_at_zero Go.wp_at_succ

set_option maxHeartbeats 400000 in
theorem big10 (len cap : Nat) (a : Option Addr) (w : World) : Calls Tryz.prog 4 #[.slice a len cap] w fun e w' => e = .returned (.bool (decide ((1048576 : Int) < (len : Int)))) ∧ w' = w := by
 go_enter Tryz.func4, Tryz.ntmps4
 go_wp2
 go_ret
 exact ⟨rfl, rfl⟩

end Go.Proofs.YtnljmdodpffmoaaGreat

/- OpenAt of both sides. -/
import Derived.Test.YtjeicgibddfifaaGreatPc10
import Derived.Test.YtjeicgibddfifaaGreatPc14
import Derived.Deep.RegionHeld3
import Derived.Deep.Cut
import Derived.Deep.CutRange
import Derived.Laws.EntriesVeiled
import Derived.Test.YtjeicgibddfifaaGreatProg
import Derived.WalkKit
import Derived.Test.YtjeicgibddfifaaGreatPc01
import Derived.WalkSpells
import Derived.WalkLawsBesides
import Derived.Deep.QuietTactic
import Derived.BigQuiet
import Derived.Deep.DrawnRows
import Derived.Deep.AppendLies
import Derived.Test.YtjeicgibddfifaaGreatPc02
import Derived.Test.YtjeicgibddfifaaGreatPc03
import Derived.Shelf.LaysM
import Derived.Shelf.Strconv.Clone
import Derived.Deep.RegionHeld
import Derived.Shelf.Small.Strs
import Derived.Shelf.Small.Wraps
import Derived.Test.YtjeicgibddfifaaGreatPc05
import Derived.Test.YtjeicgibddfifaaGreatPc15
import Derived.Shelf.Sort.Plain
import Derived.Ground.Names2Prog
import Derived.Shelf.Slices.CompactS
import Derived.Shelf.Slices.Cells
import Derived.Shelf.Slices.In.SortNone
import Derived.Lib.SlicesCompact
import Derived.Sort.Walk0
import Derived.Sort.OwnSorted
import Derived.Lib.RowBridge
import Derived.Test.YtjeicgibddfifaaGreatPc06
import Derived.Test.YtjeicgibddfifaaGreatPc18
import Derived.Test.YtjeicgibddfifaaGreatPc16
import Derived.Deep.LoopGhost
import Derived.Test.YtjeicgibddfifaaGreatPc11
namespace Go.Proofs.YtjeicgibddfifaaGreat
open Go.RowKit
open KM
attribute [local go_sem ↓] Go.wp_at_zero Go.wp_at_succ

def ids (xs : List Ta) : List Int := xs.map fun x : Ta => x.t.id
theorem ids_len (xs : List Ta) : (ids xs).length = xs.length := by simp [ids]
theorem ids_at (xs : List Ta) (k : Nat) (h : k < xs.length) : (ids xs)[k]'(by rw [ids_len]; exact h) = xs[k].t.id := by simp [ids]
theorem ids_txs (xs : List Ta) : ids xs = (txs xs).map (·.id) := by simp [ids, txs, Function.comp_def]
def idxZ : List Int → Int → Nat → Int
 | [], _, _ => -1
 | x :: l, s, k => if (x == s) = true then (k : Int) else idxZ l s (k + 1)
theorem idxz_yes {l : List Int} {s : Int} {k : Nat} (hk : k < l.length) (h : (l[k] == s) = true) : idxZ (l.drop k) s k = (k : Int) := by
 rw [List.drop_eq_getElem_cons hk]
 unfold idxZ
 rw [if_pos h]
theorem idxz_no {l : List Int} {s : Int} {k : Nat} (hk : k < l.length) (h : (l[k] == s) = false) : idxZ (l.drop k) s k = idxZ (l.drop (k + 1)) s (k + 1) := by
 rw [List.drop_eq_getElem_cons hk]
 conv => lhs; unfold idxZ
 rw [if_neg (by rw [h]; simp)]
theorem idxz_end {l : List Int} {s : Int} {k : Nat} (hk : l.length ≤ k) : idxZ (l.drop k) s k = -1 := by
 rw [List.drop_of_length_le hk]
 rfl
theorem idxz_lt : ∀ (l : List Int) (s : Int) (k : Nat), idxZ l s k = -1 ∨ ∃ i : Nat, idxZ l s k = (i : Int) ∧ k ≤ i ∧ i < k + l.length
 | [], _, _ => Or.inl rfl
 | x :: l, s, k => by
  unfold idxZ
  split
  ·exact Or.inr ⟨k, rfl, Nat.le_refl _, by simp⟩
  ·rcases idxz_lt l s (k + 1) with h | ⟨i, h, h1, h2⟩
   ·exact Or.inl h
   ·exact Or.inr ⟨i, h, by omega, by simp; omega⟩
theorem beq_comm_int (a b : Int) : (a == b) = (b == a) := by
 rw [Bool.eq_iff_iff]
 simp only [beq_iff_eq]
 exact eq_comm

set_option maxRecDepth 100000 in
set_option maxHeartbeats 2000000 in
theorem sopenat (e : En) (i : Int) (hn : e.os.length ≤ 10000000) (w : World) (hp : TRows w e.oa e.os) :
  Calls Tryz.prog 37 #[.agg #[.slice e.b.va e.b.vs.length e.b.vc, .slice e.b.pa e.b.ps.length e.b.pc, .slice e.b.qa e.b.qs.length e.b.qc, .int .i64 e.b.cs, .int .i64 e.b.nx, .slice e.oa e.os.length e.oc], .int .i64 i] w fun ex w' => ex = .returned (.int .i64 (idxZ (ids e.os) i 0)) ∧ Below w.heap.size w w' := by
 have BA : Hid (Bx (w.alloc (.cells #[.slice e.b.va e.b.vs.length e.b.vc, .slice e.b.pa e.b.ps.length e.b.pc, .slice e.b.qa e.b.qs.length e.b.qc, .int .i64 e.b.cs, .int .i64 e.b.nx, .slice e.oa e.os.length e.oc] 35)) w.heap.size [.slice e.b.va e.b.vs.length e.b.vc, .slice e.b.pa e.b.ps.length e.b.pc, .slice e.b.qa e.b.qs.length e.b.qc, .int .i64 e.b.cs, .int .i64 e.b.nx, .slice e.oa e.os.length e.oc]) := Bx.new w [.slice e.b.va e.b.vs.length e.b.vc, .slice e.b.pa e.b.ps.length e.b.pc, .slice e.b.qa e.b.qs.length e.b.qc, .int .i64 e.b.cs, .int .i64 e.b.nx, .slice e.oa e.os.length e.oc] 35
 have HB : Hid (Below w.heap.size w (w.alloc (.cells #[.slice e.b.va e.b.vs.length e.b.vc, .slice e.b.pa e.b.ps.length e.b.pc, .slice e.b.qa e.b.qs.length e.b.qc, .int .i64 e.b.cs, .int .i64 e.b.nx, .slice e.oa e.os.length e.oc] 35))) := (belowRefl w).alloc (Nat.le_refl _) _
 have HQ : Hid (TRows (w.alloc (.cells #[.slice e.b.va e.b.vs.length e.b.vc, .slice e.b.pa e.b.ps.length e.b.pc, .slice e.b.qa e.b.qs.length e.b.qc, .int .i64 e.b.cs, .int .i64 e.b.nx, .slice e.oa e.os.length e.oc] 35)) e.oa e.os) := hp.below HB.out
 clear hp
 go_enter Tryz.func37, Tryz.ntmps37
 go_upto_region 1 with fail
 generalize (w.alloc (.cells #[.slice e.b.va e.b.vs.length e.b.vc, .slice e.b.pa e.b.ps.length e.b.pc, .slice e.b.qa e.b.qs.length e.b.qc, .int .i64 e.b.cs, .int .i64 e.b.nx, .slice e.oa e.os.length e.oc] 35)) = w0 at *
 go_wp2
 go_loopw [5] (fun t wr => ∃ k : Nat, k ≤ e.os.length ∧ t = .int .i64 k ∧ Hid (idxZ ((ids e.os).drop k) i k = idxZ (ids e.os) i 0) ∧ w0 = wr) (fun t _ => e.os.length - (intOf t).toNat)
 case atStart => exact ⟨0, Nat.zero_le _, rfl, rfl, rfl⟩
 case round =>
  obtain ⟨k, hk, rfl, HI, rfl⟩ := hrel
  have x5 := BA.out.c5
  by_cases hlt : k < e.os.length
  ·have hlt' : (k : Int) < (e.os.length : Int) := by omega
   have h0 : (0 : Int) ≤ (k : Int) := by omega
   obtain ⟨b0, o, ha, hbl, hc, -⟩ := HQ.out.cls k hlt
   have r0 := hc.c0
   have hkl : k < (ids e.os).length := by rw [ids_len]; exact hlt
   have HY : Hid ((e.os[k].t.id == i) = true → (k : Int) = idxZ (ids e.os) i 0) := fun h => by show _ = _; rw [← HI.out]; exact (idxz_yes hkl (by rw [ids_at _ _ hlt]; exact h)).symm
   have HN : Hid ((e.os[k].t.id == i) = false → idxZ ((ids e.os).drop (k + 1)) i (k + 1) = idxZ (ids e.os) i 0) := fun h => by show _ = _; rw [← HI.out]; exact (idxz_no hkl (by rw [ids_at _ _ hlt]; exact h)).symm
   obtain ⟨x, hx⟩ : ∃ x, x = e.os[k] := ⟨_, rfl⟩
   rw [← hx] at r0 HY HN
   clear hx hc hbl HI
   cases hq : (x.t.id == i)
   ·have HR := hide (HN.out hq)
    rw [ha] at x5
    clear HY HN
    go_wp2
    go_roundw
    case rel => exact ⟨k + 1, by omega, by go_num, HR, trivial⟩
    case measure => simp [intOf]; omega
   ·have HR : Hid ((k : Int) = idxZ (ids e.os) i 0) := HY.out hq
    rw [ha] at x5
    clear HY HN
    go_wp2
    go_ret
    exact ⟨ret_int HR.out, HB.out⟩
  ·have hd : ¬ (k : Int) < (e.os.length : Int) := by omega
   have HR : Hid ((-1 : Int) = idxZ (ids e.os) i 0) := by show _ = _; rw [← HI.out]; exact (idxz_end (by rw [ids_len]; omega)).symm
   clear HI
   go_wp2
   go_ret
   exact ⟨ret_int HR.out, HB.out⟩

set_option maxRecDepth 100000 in
set_option maxHeartbeats 2000000 in
theorem idxJ (ss : List Int) (a : Option Addr) (c n : Nat) (s : Int) (hx : n = ss.length) (hn : n ≤ 100000000) (w : World) (hp : GRow encI w a ss) :
  Calls Tryz.prog 153 #[.slice a n c, .int .i64 s] w fun e w' => e = .returned (.int .i64 (idxZ ss s 0)) ∧ Below w.heap.size w w' := by
 have HP : Hid (GRow encI w a ss) := hp
 have HX : Hid (n = ss.length) := hx
 clear hp hx
 go_enter Tryz.func153, Tryz.ntmps153
 go_wp2
 go_loopw [8] (fun t wr => ∃ k : Nat, k ≤ n ∧ t = .int .i64 k ∧ Hid (idxZ (ss.drop k) s k = idxZ ss s 0) ∧ w = wr) (fun t _ => n - (intOf t).toNat)
 case atStart => exact ⟨0, Nat.zero_le _, rfl, rfl, rfl⟩
 case round =>
  obtain ⟨k, hk, rfl, HI, rfl⟩ := hrel
  by_cases hlt : k < n
  ·have hlt' : (k : Int) < (n : Int) := by omega
   have h0 : (0 : Int) ≤ (k : Int) := by omega
   have hkl : k < ss.length := by rw [← HX.out]; exact hlt
   obtain ⟨b, off, rfl, hbl, hc⟩ := HP.out (by omega)
   have r0 := iat hc k hkl
   have HY : Hid ((s == ss[k]) = true → (k : Int) = idxZ ss s 0) := fun h => by show _ = _; rw [← HI.out]; exact (idxz_yes hkl (by rw [beq_comm_int]; exact h)).symm
   have HN : Hid ((s == ss[k]) = false → idxZ (ss.drop (k + 1)) s (k + 1) = idxZ ss s 0) := fun h => by show _ = _; rw [← HI.out]; exact (idxz_no hkl (by rw [beq_comm_int]; exact h)).symm
   obtain ⟨x, hx⟩ : ∃ x, x = ss[k] := ⟨_, rfl⟩
   rw [← hx] at r0 HY HN
   clear hx hc hbl HI
   cases hq : (s == x)
   ·have HR := hide (HN.out hq)
    clear HY HN
    go_wp2
    go_roundw
    case rel => exact ⟨k + 1, by omega, by go_num, HR, trivial⟩
    case measure => simp [intOf]; omega
   ·have HR : Hid ((k : Int) = idxZ ss s 0) := HY.out hq
    clear HY HN
    go_wp2
    go_ret
    exact ⟨ret_int HR.out, belowRefl w⟩
  ·have hd : ¬ (k : Int) < (n : Int) := by omega
   have HR : Hid ((-1 : Int) = idxZ ss s 0) := by show _ = _; rw [← HI.out]; exact (idxz_end (by rw [← HX.out]; omega)).symm
   clear HI
   go_wp2
   go_ret
   exact ⟨ret_int HR.out, belowRefl w⟩

set_option maxRecDepth 100000 in
set_option maxHeartbeats 2000000 in
theorem placeI (xs : List Ta) (a : Option Addr) (c n : Nat) (s : Int) (hx : n = xs.length) (hn : n ≤ 10000000) (w : World) (hp : TRows w a xs) :
  Calls Tryz.prog 117 #[.agg #[.slice a n c, .func (.func 105) #[] #[]], .int .i64 s] w fun e w' => e = .returned (.int .i64 (idxZ (ids xs) s 0)) ∧ Below w.heap.size w w' := by
 have HB0 : Hid (Below w.heap.size w (w.alloc (.cells #[.slice a n c, .func (.func 105) #[] #[]] 102))) := (belowRefl w).alloc (Nat.le_refl _) _
 have BA0 : Hid (Bx (w.alloc (.cells #[.slice a n c, .func (.func 105) #[] #[]] 102)) w.heap.size [.slice a n c, .func (.func 105) #[] #[]]) := Bx.new w [.slice a n c, .func (.func 105) #[] #[]] 102
 have H := hide (keys67 xs a c n hx hn (w.alloc (.cells #[.slice a n c, .func (.func 105) #[] #[]] 102)) (hp.below HB0.out))
 have HX : Hid (n = (ids xs).length) := by show _ = _; rw [ids_len, hx]
 clear hp hx
 go_enter Tryz.func117, Tryz.ntmps117
 go_wp2_with fail
 refine H.out.mono ?_
 rintro e w1 ⟨a1, c1, rfl, ho, hb1⟩
 have HB1 : Hid (Below w.heap.size w w1) := HB0.out.trans (hb1.mono HB0.out.size)
 have RO : Hid (GRow encI w1 a1 (ids xs)) := by have h := ho; rw [HX.out] at h; exact h.grow
 clear ho hb1
 go_wp2_with fail
 refine (idxJ (ids xs) a1 c1 n s HX.out (by omega) _ RO.out).mono ?_
 rintro e w2 ⟨rfl, hb2⟩
 have HB2 : Hid (Below w.heap.size w w2) := HB1.out.trans (hb2.mono HB1.out.size)
 clear hb2
 go_wp2
 go_ret
 exact ⟨rfl, HB2.out⟩

set_option maxRecDepth 100000 in
set_option maxHeartbeats 2000000 in
theorem iopenat (e : En) (i : Int) (hn : e.os.length ≤ 10000000) (w : World) (hp : TRows w e.oa e.os) :
  Calls Tryz.prog 84 #[.agg #[.slice e.b.va e.b.vs.length e.b.vc, .slice e.b.pa e.b.ps.length e.b.pc, .slice e.b.qa e.b.qs.length e.b.qc, .int .i64 e.b.cs, .int .i64 e.b.nx, .slice e.oa e.os.length e.oc], .int .i64 i] w fun ex w' => ex = .returned (.int .i64 (idxZ (ids e.os) i 0)) ∧ Below w.heap.size w w' := by
 have HB0 : Hid (Below w.heap.size w (w.alloc (.cells #[.slice e.b.va e.b.vs.length e.b.vc, .slice e.b.pa e.b.ps.length e.b.pc, .slice e.b.qa e.b.qs.length e.b.qc, .int .i64 e.b.cs, .int .i64 e.b.nx, .slice e.oa e.os.length e.oc] 35))) := (belowRefl w).alloc (Nat.le_refl _) _
 have HQ : Hid (TRows w e.oa e.os) := hp
 clear hp
 go_enter Tryz.func84, Tryz.ntmps84
 go_wp2_with fail
 refine (by42 e.oa e.oc e.os.length _).mono ?_
 rintro ex w1 ⟨rfl, hb1⟩
 have HB1 : Hid (Below w.heap.size w w1) := HB0.out.trans (hb1.mono HB0.out.size)
 clear hb1
 go_wp2_with fail
 refine (placeI e.os e.oa e.oc e.os.length i rfl hn _ (HQ.out.below HB1.out)).mono ?_
 rintro ex w2 ⟨rfl, hb2⟩
 have HB2 : Hid (Below w.heap.size w w2) := HB1.out.trans (hb2.mono HB1.out.size)
 clear hb2
 go_wp2
 go_ret
 exact ⟨rfl, HB2.out⟩

end Go.Proofs.YtjeicgibddfifaaGreat

namespace Go.Proofs.YtjeicgibddfifaaGreat
namespace VM
open KM
section
variable {α : Type} [Inhabited α] [DecidableEq α]
end

end VM
end Go.Proofs.YtjeicgibddfifaaGreat

namespace Go.Proofs.YtjeicgibddfifaaGreat
open Go.RowKit
open KM
open VM Go.Sort
attribute [local go_sem ↓] Go.wp_at_zero Go.wp_at_succ

end Go.Proofs.YtjeicgibddfifaaGreat

namespace Go.Proofs.YtjeicgibddfifaaGreat
open Go.RowKit
open KM
open VM
attribute [local go_sem ↓] Go.wp_at_zero Go.wp_at_succ

end Go.Proofs.YtjeicgibddfifaaGreat

namespace Go.Proofs.YtjeicgibddfifaaGreat
open Go.RowKit
open KM
open VM
attribute [local go_sem ↓] Go.wp_at_zero Go.wp_at_succ

end Go.Proofs.YtjeicgibddfifaaGreat

namespace Go.Proofs.YtjeicgibddfifaaGreat
open Go.RowKit
open KM
attribute [local go_sem ↓] Go.wp_at_zero Go.wp_at_succ

set_option maxRecDepth 100000 in
set_option maxHeartbeats 2000000 in
theorem sput (xs : List Wt) (x : Wt) (a : Option Addr) (c : Nat) (hn : xs.length ≤ 1000000) (w : World) (hp : GRow encW w a xs) :
  Calls Tryz.prog 82 #[.slice a xs.length c, .agg #[.string x.1, .string x.2.1, .bool x.2.2]] w fun e w' => ∃ a1 c1, e = .returned (.slice a1 (putS xs x).length c1) ∧ GOwn encW 47 w' w.heap.size (.slice a1 (putS xs x).length c1) (putS xs x) ∧ Below w.heap.size w w' := by
 have HP : Hid (GRow encW w a xs) := hp
 clear hp
 have B0 : Hid (Bx (w.alloc (.cells #[.string x.1, .string x.2.1, .bool x.2.2] 47)) w.heap.size [.string x.1, .string x.2.1, .bool x.2.2]) := Bx.new w _ 47
 have HB0 : Hid (Below w.heap.size w (w.alloc (.cells #[.string x.1, .string x.2.1, .bool x.2.2] 47))) := (belowRefl w).alloc (Nat.le_refl _) _
 go_enter Tryz.func82, Tryz.ntmps82
 go_wp2
 go_loopw [5, 6] (fun v t wr => ∃ k : Nat, k ≤ xs.length ∧ t = .int .i64 k ∧ Hid (GOwn encW 47 wr (w.heap.size + 1) v ((xs.take k).filter fun y => lt y.1 x.1)) ∧ Hid (Bx wr w.heap.size [.string x.1, .string x.2.1, .bool x.2.2]) ∧ Hid (Below w.heap.size w wr)) (fun _ t _ => xs.length - (intOf t).toNat)
 case atStart =>
  refine ⟨0, Nat.zero_le _, rfl, ?_, B0.out.alloc _, HB0.out.alloc HB0.out.size _⟩
  have h := GOwn.empty (E := encW) (e := 47) (w.alloc (.cells #[.string x.1, .string x.2.1, .bool x.2.2] 47)) (w.heap.size + 1) (by rw [World.size_alloc]; exact Nat.le_refl _)
  rw [World.size_alloc] at h
  exact h
 case round =>
  clear B0 HB0
  obtain ⟨k, hk, rfl, HO, HX, HB⟩ := hrel
  by_cases hlt : k < xs.length
  ·have hlt' : (k : Int) < (xs.length : Int) := by omega
   have hk0 : (0 : Int) ≤ (k : Int) := by omega
   obtain ⟨b, off, rfl, hbl, hc⟩ := (HP.out.below HB.out) (by omega)
   have r0 := (wat hc k hlt).1
   have r1 := (wat hc k hlt).2.1
   have r2 := (wat hc k hlt).2.2
   clear hc
   have x0 := HX.out.c0
   cases hl : lt xs[k].1 x.1
   ·have hl' : Op.bytesLess xs[k].1.toList x.1.toList = false := hl
    have ho2 := HO.out
    rw [← filter_no (p := fun y => lt y.1 x.1) hlt hl] at ho2
    have HO2 := hide ho2
    clear ho2
    clear hl
    go_wp2
    go_quiet (fail)
    go_wp2
    go_roundw
    case rel => exact ⟨k + 1, by omega, by go_num, HO2, HX.out.below (below_drewN (belowRefl wr) _), below_drewN HB.out _⟩
    case measure => simp [intOf]; omega
   ·have hl' : Op.bytesLess xs[k].1.toList x.1.toList = true := hl
    have hlen : ((xs.take k).filter fun y => lt y.1 x.1).length ≤ 1000000 := Nat.le_trans (List.length_filter_le _ _) (by rw [List.length_take]; omega)
    have hsz : w.heap.size + 1 ≤ wr.heap.size := HX.out.lt
    go_wp2
    go_quiet (fail)
    go_wp2_with (at_builtin; refine wpAppW rfl _ _ rfl xs[k] rfl (HO.out.drewN _) rfl (by omega) hsz ?_)
    intro v' w' ho' hb'
    have HO2 : Hid (GOwn encW 47 w' (w.heap.size + 1) v' ((xs.take (k + 1)).filter fun y => lt y.1 x.1)) := by
     show GOwn _ _ _ _ _ _
     rw [filter_yes hlt hl]; exact ho'
    have HB2 : Hid (Below w.heap.size w w') := (below_drewN HB.out _).trans (hb'.mono (by omega))
    have HX2 : Hid (Bx w' w.heap.size [.string x.1, .string x.2.1, .bool x.2.2]) := (HX.out.below (below_drewN (belowRefl wr) _)).belowB hb' (by omega)
    clear ho' hb' hl
    go_wp2
    go_roundw
    case rel => exact ⟨k + 1, by omega, by go_num, HO2, HX2, HB2⟩
    case measure => simp [intOf]; omega
  ·have hlt' : ¬ (k : Int) < (xs.length : Int) := by omega
   have x0 := HX.out.c0
   have x1 := HX.out.c1
   have x2 := HX.out.c2
   have ho := HO.out
   rw [List.take_of_length_le (by omega)] at ho
   have HO1 := hide ho
   clear ho
   have hlen : (xs.filter fun y => lt y.1 x.1).length ≤ 1000000 := Nat.le_trans (List.length_filter_le _ _) hn
   have hsz : w.heap.size + 1 ≤ wr.heap.size := HX.out.lt
   go_wp2_with (at_builtin; refine wpAppW rfl _ _ rfl x rfl HO1.out rfl (Nat.le_trans hlen (by omega)) hsz ?_)
   intro v' w' ho' hb'
   have HO2 : Hid (GOwn encW 47 w' (w.heap.size + 1) v' (xs.filter (fun y => lt y.1 x.1) ++ [x])) := ho'
   have HB2 : Hid (Below w.heap.size w w') := HB.out.trans (hb'.mono (by omega))
   have HX2 : Hid (Bx w' w.heap.size [.string x.1, .string x.2.1, .bool x.2.2]) := HX.out.belowB hb' (by omega)
   clear ho' hb' x0 x1 x2 HO1 HO HB HX hsz
   go_wp2
   go_loopw [5, 7] (fun v t wr => ∃ k : Nat, k ≤ xs.length ∧ t = .int .i64 k ∧ Hid (GOwn encW 47 wr (w.heap.size + 1) v (xs.filter (fun y => lt y.1 x.1) ++ [x] ++ (xs.take k).filter fun y => lt x.1 y.1)) ∧ Hid (Bx wr w.heap.size [.string x.1, .string x.2.1, .bool x.2.2]) ∧ Hid (Below w.heap.size w wr)) (fun _ t _ => xs.length - (intOf t).toNat)
   case atStart =>
    refine ⟨0, Nat.zero_le _, rfl, ?_, HX2, HB2⟩
    show GOwn _ _ _ _ _ _
    simpa using HO2.out
   case round =>
    clear HX2 HB2 HO2
    obtain ⟨m, hm, rfl, HO, HX, HB⟩ := hrel
    by_cases hltm : m < xs.length
    ·have hltm' : (m : Int) < (xs.length : Int) := by omega
     have hm0 : (0 : Int) ≤ (m : Int) := by omega
     obtain ⟨b, off, rfl, hbl, hc⟩ := (HP.out.below HB.out) (by omega)
     have r0 := (wat hc m hltm).1
     have r1 := (wat hc m hltm).2.1
     have r2 := (wat hc m hltm).2.2
     clear hc
     have x0 := HX.out.c0
     cases hl : lt x.1 xs[m].1
     ·have hl' : (!(Op.bytesLess xs[m].1.toList x.1.toList || xs[m].1.toList == x.1.toList)) = false := (not_le _ _).trans hl
      have ho2 := HO.out
      rw [← filter_no (p := fun y => lt x.1 y.1) hltm hl] at ho2
      have HO2 := hide ho2
      clear ho2 hl
      go_wp2
      go_quiet (fail)
      go_wp2
      go_roundw
      case rel => exact ⟨m + 1, by omega, by go_num, HO2, HX.out.below (below_drewN (belowRefl wr) _), below_drewN HB.out _⟩
      case measure => simp [intOf]; omega
     ·have hl' : (!(Op.bytesLess xs[m].1.toList x.1.toList || xs[m].1.toList == x.1.toList)) = true := (not_le _ _).trans hl
      have hlen2 : (xs.filter (fun y => lt y.1 x.1) ++ [x] ++ (xs.take m).filter fun y => lt x.1 y.1).length ≤ 3000000 := by
       have h1 : ((xs.take m).filter fun y => lt x.1 y.1).length ≤ 1000000 := Nat.le_trans (List.length_filter_le _ _) (by rw [List.length_take]; omega)
       simp only [List.length_append, List.length_cons, List.length_nil]
       omega
      have hsz : w.heap.size + 1 ≤ wr.heap.size := HX.out.lt
      go_wp2
      go_quiet (fail)
      go_wp2_with (at_builtin; refine wpAppW rfl _ _ rfl xs[m] rfl (HO.out.drewN _) rfl (by omega) hsz ?_)
      intro v' w' ho' hb'
      have HO2 : Hid (GOwn encW 47 w' (w.heap.size + 1) v' (xs.filter (fun y => lt y.1 x.1) ++ [x] ++ (xs.take (m + 1)).filter fun y => lt x.1 y.1)) := by
       show GOwn _ _ _ _ _ _
       rw [filter_yes hltm hl]; simpa [List.append_assoc] using ho'
      have HB2 : Hid (Below w.heap.size w w') := (below_drewN HB.out _).trans (hb'.mono (by omega))
      have HX2 : Hid (Bx w' w.heap.size [.string x.1, .string x.2.1, .bool x.2.2]) := (HX.out.below (below_drewN (belowRefl wr) _)).belowB hb' (by omega)
      clear ho' hb' hl
      go_wp2
      go_roundw
      case rel => exact ⟨m + 1, by omega, by go_num, HO2, HX2, HB2⟩
      case measure => simp [intOf]; omega
    ·have hltm' : ¬ (m : Int) < (xs.length : Int) := by omega
     have ho := HO.out
     rw [List.take_of_length_le (by omega)] at ho
     change GOwn encW 47 wr (w.heap.size + 1) _ (putS xs x) at ho
     obtain ⟨a1, c1, rfl, _⟩ := ho.row
     have HO1 : Hid (GOwn encW 47 wr w.heap.size (.slice a1 (putS xs x).length c1) (putS xs x)) := ho.mono (by omega)
     clear ho
     go_wp2
     go_ret
     exact ⟨a1, c1, rfl, HO1.out, HB.out⟩
end Go.Proofs.YtjeicgibddfifaaGreat

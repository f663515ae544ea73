/- What is asked of an engine, by the document and by the program. No Go. -/
import Derived.Test.YtmijppfppigjcaaGreatProg
import Derived.WalkKit
import Derived.Test.YtmijppfppigjcaaGreatPd01
import Derived.WalkSpells
import Derived.WalkLawsBesides
import Derived.Deep.QuietTactic
import Derived.BigQuiet
import Derived.Deep.RegionHeld3
import Derived.Deep.DrawnRows
import Derived.Deep.AppendLies
import Derived.Test.YtmijppfppigjcaaGreatPd02
import Derived.Shelf.Small.Strs
import Derived.Shelf.Small.Wraps
import Derived.Shelf.LaysM
import Derived.Shelf.Strconv.Clone
import Derived.Deep.RegionHeld
import Derived.Test.YtmijppfppigjcaaGreatPd03
import Derived.Sort.OwnSorted
import Derived.Lib.RowBridge
import Derived.Test.YtmijppfppigjcaaGreatPd04
import Derived.Test.YtmijppfppigjcaaGreatPd05
import Derived.Lib.ItoaNum
import Derived.Lib.ItoaLen
import Derived.Deep.Cut
import Derived.Deep.CutRange
import Derived.Test.YtmijppfppigjcaaGreatPd06
import Derived.Test.YtmijppfppigjcaaGreatPd26
import Derived.Laws.EntriesVeiled
import Derived.Lib.AppendZeros
import Derived.Shelf.Sort.Plain
import Derived.Ground.Names2Prog
import Derived.Shelf.Slices.CompactI
import Derived.Shelf.Slices.CompactS
import Derived.Shelf.Slices.Cells
import Derived.Shelf.Slices.In.SortNone
import Derived.Sort.OwnSortedInts
import Derived.Test.YtmijppfppigjcaaGreatPd10
import Derived.Maps.OwnSet
import Derived.StringKeys
import Derived.Test.YtmijppfppigjcaaGreatPd08
import Derived.Test.YtmijppfppigjcaaGreatPd13
import Derived.Test.YtmijppfppigjcaaGreatPd15
import Derived.Test.YtmijppfppigjcaaGreatPd16
import Derived.Test.YtmijppfppigjcaaGreatPd14
import Derived.Test.YtmijppfppigjcaaGreatPd07
import Derived.Deep.LoopGhost
import Derived.Test.YtmijppfppigjcaaGreatPd17
import Derived.Test.YtmijppfppigjcaaGreatPd11
import Derived.Test.YtmijppfppigjcaaGreatPd18
import Derived.Test.YtmijppfppigjcaaGreatPd19
import Derived.Deep.MidRow
namespace Go.Proofs.YtmijppfppigjcaaGreat
open Go.RowKit
open KM
attribute [local go_sem ↓] Go.wp_at_zero Go.wp_at_succ

end Go.Proofs.YtmijppfppigjcaaGreat

namespace Go.Proofs.YtmijppfppigjcaaGreat
open Go.RowKit
open KM
attribute [local go_sem ↓] Go.wp_at_zero Go.wp_at_succ

theorem zn_set (w : World) (a : Addr) (u : Value) : Zn a.block (a.block + 1) w (w.setCell a u) := ⟨rfl, rfl, rfl, by simp [World.setCell], fun j _ hn => Below.heap_setCell w a u j (by omega)⟩
structure EnLx (w : World) (lo m h g hi : Nat) (d : En) : Prop where
 lm : lo ≤ m
 hg : h ≤ g
 mg : m ≤ h
 hh : h ≤ hi
 b : BLie w lo m d.b
 o : Lies encT 62 w m hi (.slice d.oa d.os.length d.oc) d.os
 ne : ∀ k, (Value.slice d.oa d.os.length d.oc).ownBlock = some k → k ≠ g
 z : Zs w (.slice d.oa d.os.length d.oc) m h d.os
theorem EnLx.below {w w' : World} {lo m h g hi : Nat} {d : En} (k : EnLx w lo m h g hi d) (hb : Below w.heap.size w w') : EnLx w' lo m h g hi d := ⟨k.lm, k.hg, k.mg, k.hh, k.b.below hb, k.o.below hb, k.ne, k.z.below hb⟩
theorem EnLx.setg {w : World} {lo m h g hi : Nat} {d : En} (k : EnLx w lo m h g hi d) (i : Nat) (u : Value) : EnLx (w.setCell ⟨g, i, none⟩ u) lo m h g hi d :=
 ⟨k.lm, k.hg, k.mg, k.hh, k.b.zn (zn_set w ⟨g, i, none⟩ u) (Or.inl (by have := k.mg; have := k.hg; show m ≤ g; omega)), ⟨ownsRow_setCell_other k.o.own (fun e => k.ne _ e rfl) u, k.o.up⟩, k.ne, k.z.zn (zn_set w ⟨g, i, none⟩ u) (Or.inl k.hg)⟩
theorem EnLx.lie {w : World} {lo m h g hi : Nat} {d : En} (k : EnLx w lo m h g hi d) : EnLie w lo hi d := ⟨m, k.lm, Nat.le_trans k.mg k.hh, k.b, ⟨k.o, k.z.mono (Nat.le_refl _) k.hh⟩⟩
theorem EnLx.rows {w : World} {lo m h g hi : Nat} {d : En} (k : EnLx w lo m h g hi d) : EnRows w d := k.lie.rows
theorem EnLie.lx {w : World} {lo g : Nat} {d : En} (k : EnLie w lo g d) : ∃ m, EnLx w lo m g g g d := by
 obtain ⟨m, h1, h2, h3, h4⟩ := k.ex
 exact ⟨m, h1, Nat.le_refl _, h2, Nat.le_refl _, h3, h4.own, fun k e => Nat.ne_of_lt (h4.own.up k e), h4.zs⟩
section
variable {w : World} {b : Nat}
end

set_option maxRecDepth 100000 in
set_option maxHeartbeats 4000000 in
theorem ihold (e : En) (hf : EnFit e) (w : World) (hp : EnRows w e) :
  Calls Tryz.prog 35 #[.agg #[.slice e.b.va e.b.vs.length e.b.vc, .slice e.b.pa e.b.ps.length e.b.pc, .slice e.b.qa e.b.qs.length e.b.qc, .int .i64 e.b.cs, .int .i64 e.b.nx, .slice e.oa e.os.length e.oc]] w fun ex w' => ∃ (c : En) (g : Nat), ex = .returned (.pointer (some ⟨g, 0, none⟩)) ∧ EnSame e c ∧ EnLie w' w.heap.size g c ∧ w.heap.size ≤ g ∧ Bx w' g [.int .i32 0, .int .u32 0, .slice c.b.va c.b.vs.length c.b.vc, .slice c.b.pa c.b.ps.length c.b.pc, .slice c.b.qa c.b.qs.length c.b.qc, .int .i64 c.b.cs, .int .i64 c.b.nx, .slice c.oa c.os.length c.oc] ∧ Below w.heap.size w w' := by
 have BA0 : Hid (Bx (w.alloc (.cells #[.slice e.b.va e.b.vs.length e.b.vc, .slice e.b.pa e.b.ps.length e.b.pc, .slice e.b.qa e.b.qs.length e.b.qc, .int .i64 e.b.cs, .int .i64 e.b.nx, .slice e.oa e.os.length e.oc] 44)) w.heap.size [.slice e.b.va e.b.vs.length e.b.vc, .slice e.b.pa e.b.ps.length e.b.pc, .slice e.b.qa e.b.qs.length e.b.qc, .int .i64 e.b.cs, .int .i64 e.b.nx, .slice e.oa e.os.length e.oc]) := Bx.new w [.slice e.b.va e.b.vs.length e.b.vc, .slice e.b.pa e.b.ps.length e.b.pc, .slice e.b.qa e.b.qs.length e.b.qc, .int .i64 e.b.cs, .int .i64 e.b.nx, .slice e.oa e.os.length e.oc] 44
 have HB0 : Hid (Below w.heap.size w (w.alloc (.cells #[.slice e.b.va e.b.vs.length e.b.vc, .slice e.b.pa e.b.ps.length e.b.pc, .slice e.b.qa e.b.qs.length e.b.qc, .int .i64 e.b.cs, .int .i64 e.b.nx, .slice e.oa e.os.length e.oc] 44))) := (belowRefl w).alloc (Nat.le_refl _) _
 have Y0 : Hid (w.heap.size ≤ (w.alloc (.cells #[.slice e.b.va e.b.vs.length e.b.vc, .slice e.b.pa e.b.ps.length e.b.pc, .slice e.b.qa e.b.qs.length e.b.qc, .int .i64 e.b.cs, .int .i64 e.b.nx, .slice e.oa e.os.length e.oc] 44)).heap.size) := HB0.out.size
 have HP : Hid (EnRows w e) := hp
 have HF : Hid (EnFit e) := hf
 clear hp hf
 have CB : Hid (∀ W : World, Below w.heap.size w W → Calls Tryz.prog 61 #[.agg #[.slice e.b.va e.b.vs.length e.b.vc, .slice e.b.pa e.b.ps.length e.b.pc, .slice e.b.qa e.b.qs.length e.b.qc, .int .i64 e.b.cs, .int .i64 e.b.nx]] W fun ex w' => ∃ c : Bb, ex = .returned (.agg #[.slice c.va c.vs.length c.vc, .slice c.pa c.ps.length c.pc, .slice c.qa c.qs.length c.qc, .int .i64 c.cs, .int .i64 c.nx]) ∧ BSame e.b c ∧ BLie w' W.heap.size w'.heap.size c ∧ Below W.heap.size W w') := fun W h => copyB e.b HF.out.b W (HP.out.below h).b
 have CO : Hid (∀ W : World, Below w.heap.size w W → Calls Tryz.prog 62 #[.slice e.oa e.os.length e.oc] W fun ex w' => ∃ (ys : List Ta) (a1 : Option Addr) (c1 : Nat), ex = .returned (.slice a1 e.os.length c1) ∧ txs ys = txs e.os ∧ ys.length = e.os.length ∧ LLie w' W.heap.size w'.heap.size (.slice a1 ys.length c1) ys ∧ Below W.heap.size W w') := fun W h => copyTs e.os e.oa e.oc e.os.length rfl (Nat.le_trans HF.out.ol (by omega)) HF.out.o W (HP.out.below h).o
 clear HP HF
 go_enter Tryz.func35, Tryz.ntmps35
 go_upto_region 1 with fail
 generalize (w.alloc (.cells #[.slice e.b.va e.b.vs.length e.b.vc, .slice e.b.pa e.b.ps.length e.b.pc, .slice e.b.qa e.b.qs.length e.b.qc, .int .i64 e.b.cs, .int .i64 e.b.nx, .slice e.oa e.os.length e.oc] 44)) = w0 at *
 refine wp_region_held_drew (S := fun w' => w'.cell? ⟨w.heap.size, 0, none⟩ = some (.slice e.b.va e.b.vs.length e.b.vc) ∧ w'.cell? ⟨w.heap.size, 1, none⟩ = some (.slice e.b.pa e.b.ps.length e.b.pc) ∧ w'.cell? ⟨w.heap.size, 2, none⟩ = some (.slice e.b.qa e.b.qs.length e.b.qc) ∧ w'.cell? ⟨w.heap.size, 3, none⟩ = some (.int .i64 e.b.cs) ∧ w'.cell? ⟨w.heap.size, 4, none⟩ = some (.int .i64 e.b.nx) ∧ w'.cell? ⟨w.heap.size, 5, none⟩ = some (.slice e.oa e.os.length e.oc)) (by kernel_rfl) ⟨BA0.out.c0, BA0.out.c1, BA0.out.c2, BA0.out.c3, BA0.out.c4, BA0.out.c5⟩ (fun hHeld => ?_)
 (refine ti 0 ?_; simp only [Act.put, tA, tB, tD, tE, tF])
 (refine ti 1 ?_; simp only [Act.put, tA, tB, tC, tD, tE, tF])
 (refine ti 3 ?_; simp only [Act.put, tA, tB, tC, tD, tE, tF])
 (refine ti 4 ?_; simp only [Act.put, tA, tB, tC, tD, tE, tF])
 refine wpAnyH_ready (rs := [2]) (by kernel_rfl) (by simp) ?_
 refine AllReadyH.cons rfl (fun K hK => ?_) AllReadyH.nil
 go_simp
 go_wp2_with fail
 refine (CB.out _ HB0.out.drew).mono ?_
 rintro ex w1 ⟨c, rfl, hsm, ho, hb9⟩
 have hb := undrew hb9
 have HB1 : Hid (Below w.heap.size w w1) := HB0.out.trans (hb.mono HB0.out.size)
 have BA1 : Hid (Bx w1 w.heap.size [.slice e.b.va e.b.vs.length e.b.vc, .slice e.b.pa e.b.ps.length e.b.pc, .slice e.b.qa e.b.qs.length e.b.qc, .int .i64 e.b.cs, .int .i64 e.b.nx, .slice e.oa e.os.length e.oc]) := BA0.out.below hb
 have R1 : Hid (BLie w1 w0.heap.size w1.heap.size c) := ho
 have Y1 : Hid (w0.heap.size ≤ w1.heap.size) := hb.size
 have SM := hide hsm
 clear hb hb9 ho hsm HB0 BA0
 go_wp2_with fail
 refine hK.out _ _ ⟨BA1.out.c0, BA1.out.c1, BA1.out.c2, BA1.out.c3, BA1.out.c4, BA1.out.c5⟩ (fun hHeld1 => ?_)
 clear hK K
 refine wpAnyH_ready (rs := [5]) (by kernel_rfl) (by simp) ?_
 refine AllReadyH.cons rfl (fun K hK => ?_) AllReadyH.nil
 go_simp
 go_wp2_with fail
 refine (CO.out _ HB1.out).mono ?_
 rintro ex w2 ⟨ys, oa1, oc1, rfl, ht, hl, ho, hb⟩
 have HB2 : Hid (Below w.heap.size w w2) := HB1.out.trans (hb.mono HB1.out.size)
 have BA2 : Hid (Bx w2 w.heap.size [.slice e.b.va e.b.vs.length e.b.vc, .slice e.b.pa e.b.ps.length e.b.pc, .slice e.b.qa e.b.qs.length e.b.qc, .int .i64 e.b.cs, .int .i64 e.b.nx, .slice e.oa e.os.length e.oc]) := BA1.out.below hb
 replace R1 : Hid (BLie w2 w0.heap.size w1.heap.size c) := R1.out.below hb
 have R2 : Hid (LLie w2 w1.heap.size w2.heap.size (.slice oa1 ys.length oc1) ys) := ho
 have Y2 : Hid (w1.heap.size ≤ w2.heap.size) := hb.size
 have HT := hide ht
 have HL := hide hl
 clear hb ho ht hl HB1 BA1
 go_wp2_with fail
 refine hK.out _ _ ⟨BA2.out.c0, BA2.out.c1, BA2.out.c2, BA2.out.c3, BA2.out.c4, BA2.out.c5⟩ (fun hHeld2 => ?_)
 clear hK K
 (refine ti 6 ?_; simp only [Act.put, tA, tB, tC, tD, tE, tF])
 (refine ti 7 ?_; simp only [Act.put, tA, tB, tC, tD, tE, tF])
 refine wpAnyH_ready (rs := [8]) (by kernel_rfl) (by simp) ?_
 refine AllReadyH.cons rfl (fun K hK => ?_) AllReadyH.nil
 go_simp
 have hba : Below w2.heap.size w2 (w2.alloc (.cells #[.int .i32 0, .int .u32 0, .slice c.va c.vs.length c.vc, .slice c.pa c.ps.length c.pc, .slice c.qa c.qs.length c.qc, .int .i64 c.cs, .int .i64 c.nx, .slice oa1 e.os.length oc1] 128)) := (belowRefl w2).alloc (Nat.le_refl _) _
 have HB3 : Hid (Below w.heap.size w (w2.alloc (.cells #[.int .i32 0, .int .u32 0, .slice c.va c.vs.length c.vc, .slice c.pa c.ps.length c.pc, .slice c.qa c.qs.length c.qc, .int .i64 c.cs, .int .i64 c.nx, .slice oa1 e.os.length oc1] 128))) := HB2.out.trans (hba.mono HB2.out.size)
 have BA3 : Hid (Bx (w2.alloc (.cells #[.int .i32 0, .int .u32 0, .slice c.va c.vs.length c.vc, .slice c.pa c.ps.length c.pc, .slice c.qa c.qs.length c.qc, .int .i64 c.cs, .int .i64 c.nx, .slice oa1 e.os.length oc1] 128)) w.heap.size [.slice e.b.va e.b.vs.length e.b.vc, .slice e.b.pa e.b.ps.length e.b.pc, .slice e.b.qa e.b.qs.length e.b.qc, .int .i64 e.b.cs, .int .i64 e.b.nx, .slice e.oa e.os.length e.oc]) := BA2.out.below hba
 replace R1 : Hid (BLie (w2.alloc (.cells #[.int .i32 0, .int .u32 0, .slice c.va c.vs.length c.vc, .slice c.pa c.ps.length c.pc, .slice c.qa c.qs.length c.qc, .int .i64 c.cs, .int .i64 c.nx, .slice oa1 e.os.length oc1] 128)) w0.heap.size w1.heap.size c) := R1.out.below hba
 replace R2 : Hid (LLie (w2.alloc (.cells #[.int .i32 0, .int .u32 0, .slice c.va c.vs.length c.vc, .slice c.pa c.ps.length c.pc, .slice c.qa c.qs.length c.qc, .int .i64 c.cs, .int .i64 c.nx, .slice oa1 e.os.length oc1] 128)) w1.heap.size w2.heap.size (.slice oa1 ys.length oc1) ys) := R2.out.below hba
 have BG : Hid (Bx (w2.alloc (.cells #[.int .i32 0, .int .u32 0, .slice c.va c.vs.length c.vc, .slice c.pa c.ps.length c.pc, .slice c.qa c.qs.length c.qc, .int .i64 c.cs, .int .i64 c.nx, .slice oa1 e.os.length oc1] 128)) w2.heap.size [.int .i32 0, .int .u32 0, .slice c.va c.vs.length c.vc, .slice c.pa c.ps.length c.pc, .slice c.qa c.qs.length c.qc, .int .i64 c.cs, .int .i64 c.nx, .slice oa1 e.os.length oc1]) := Bx.new w2 [.int .i32 0, .int .u32 0, .slice c.va c.vs.length c.vc, .slice c.pa c.ps.length c.pc, .slice c.qa c.qs.length c.qc, .int .i64 c.cs, .int .i64 c.nx, .slice oa1 e.os.length oc1] 128
 clear hba HB2 BA2
 generalize (w2.alloc (.cells #[.int .i32 0, .int .u32 0, .slice c.va c.vs.length c.vc, .slice c.pa c.ps.length c.pc, .slice c.qa c.qs.length c.qc, .int .i64 c.cs, .int .i64 c.nx, .slice oa1 e.os.length oc1] 128)) = w3 at *
 refine hK.out _ _ ⟨BA3.out.c0, BA3.out.c1, BA3.out.c2, BA3.out.c3, BA3.out.c4, BA3.out.c5⟩ (fun hHeld3 => ?_)
 clear hK K
 (refine ti 9 ?_; simp only [Act.put, tA, tB, tC, tD, tE, tF])
 refine wpAnyH_done (by kernel_rfl) ?_ _
 go_wp2
 go_ret
 rw [← HL.out] at BG
 exact ⟨⟨c, ys, oa1, oc1⟩, w2.heap.size, rfl, ⟨SM.out, HT.out⟩, ⟨w1.heap.size, by have := Y0.out; have := Y1.out; omega, Y2.out, R1.out.mono Y0.out (Nat.le_refl _), R2.out⟩, by have := Y0.out; have := Y1.out; have := Y2.out; omega, BG.out, HB3.out⟩

set_option maxRecDepth 100000 in
set_option maxHeartbeats 4000000 in
theorem scopyE (e : En) (lo hi : Nat) (hf : EnFit e) (w : World) (hp : EnLie w lo hi e) :
  Calls Tryz.prog 26 #[.agg #[.slice e.b.va e.b.vs.length e.b.vc, .slice e.b.pa e.b.ps.length e.b.pc, .slice e.b.qa e.b.qs.length e.b.qc, .int .i64 e.b.cs, .int .i64 e.b.nx, .slice e.oa e.os.length e.oc]] w fun ex w' => ∃ c : En, ex = .returned (.agg #[.slice c.b.va c.b.vs.length c.b.vc, .slice c.b.pa c.b.ps.length c.b.pc, .slice c.b.qa c.b.qs.length c.b.qc, .int .i64 c.b.cs, .int .i64 c.b.nx, .slice c.oa c.os.length c.oc]) ∧ EnSame e c ∧ EnLie w' w.heap.size w'.heap.size c ∧ Below w.heap.size w w' := by
 have BA0 : Hid (Bx ((w.alloc (.cells #[.slice e.b.va e.b.vs.length e.b.vc, .slice e.b.pa e.b.ps.length e.b.pc, .slice e.b.qa e.b.qs.length e.b.qc, .int .i64 e.b.cs, .int .i64 e.b.nx, .slice e.oa e.os.length e.oc] 44)).alloc (.cells #[.slice none 0 0, .slice none 0 0, .slice none 0 0, .int .i64 0, .int .i64 0, .slice none 0 0] 44)) w.heap.size [.slice e.b.va e.b.vs.length e.b.vc, .slice e.b.pa e.b.ps.length e.b.pc, .slice e.b.qa e.b.qs.length e.b.qc, .int .i64 e.b.cs, .int .i64 e.b.nx, .slice e.oa e.os.length e.oc]) := (Bx.new w [.slice e.b.va e.b.vs.length e.b.vc, .slice e.b.pa e.b.ps.length e.b.pc, .slice e.b.qa e.b.qs.length e.b.qc, .int .i64 e.b.cs, .int .i64 e.b.nx, .slice e.oa e.os.length e.oc] 44).alloc _
 have BR0 : Hid (Bx ((w.alloc (.cells #[.slice e.b.va e.b.vs.length e.b.vc, .slice e.b.pa e.b.ps.length e.b.pc, .slice e.b.qa e.b.qs.length e.b.qc, .int .i64 e.b.cs, .int .i64 e.b.nx, .slice e.oa e.os.length e.oc] 44)).alloc (.cells #[.slice none 0 0, .slice none 0 0, .slice none 0 0, .int .i64 0, .int .i64 0, .slice none 0 0] 44)) (w.heap.size + 1) [.slice none 0 0, .slice none 0 0, .slice none 0 0, .int .i64 0, .int .i64 0, .slice none 0 0]) := by
  have h := Bx.new (w.alloc (.cells #[.slice e.b.va e.b.vs.length e.b.vc, .slice e.b.pa e.b.ps.length e.b.pc, .slice e.b.qa e.b.qs.length e.b.qc, .int .i64 e.b.cs, .int .i64 e.b.nx, .slice e.oa e.os.length e.oc] 44)) [.slice none 0 0, .slice none 0 0, .slice none 0 0, .int .i64 0, .int .i64 0, .slice none 0 0] 44
  rw [World.size_alloc] at h
  exact h
 have HB0 : Hid (Below w.heap.size w ((w.alloc (.cells #[.slice e.b.va e.b.vs.length e.b.vc, .slice e.b.pa e.b.ps.length e.b.pc, .slice e.b.qa e.b.qs.length e.b.qc, .int .i64 e.b.cs, .int .i64 e.b.nx, .slice e.oa e.os.length e.oc] 44)).alloc (.cells #[.slice none 0 0, .slice none 0 0, .slice none 0 0, .int .i64 0, .int .i64 0, .slice none 0 0] 44))) := ((belowRefl w).alloc (Nat.le_refl _) _).alloc (by simp) _
 have Y0 : Hid (w.heap.size + 1 + 1 ≤ ((w.alloc (.cells #[.slice e.b.va e.b.vs.length e.b.vc, .slice e.b.pa e.b.ps.length e.b.pc, .slice e.b.qa e.b.qs.length e.b.qc, .int .i64 e.b.cs, .int .i64 e.b.nx, .slice e.oa e.os.length e.oc] 44)).alloc (.cells #[.slice none 0 0, .slice none 0 0, .slice none 0 0, .int .i64 0, .int .i64 0, .slice none 0 0] 44)).heap.size) := by show _ ≤ _; simp
 have HF : Hid (EnFit e) := hf
 obtain ⟨m, _, _, hpb, hpo⟩ := hp.ex
 have HPb : Hid (BLie w lo m e.b) := hpb
 have HPo : Hid (LLie w m hi (.slice e.oa e.os.length e.oc) e.os) := hpo
 clear hp hf hpb hpo
 have CB : Hid (∀ W : World, Below w.heap.size w W → Calls Tryz.prog 49 #[.agg #[.slice e.b.va e.b.vs.length e.b.vc, .slice e.b.pa e.b.ps.length e.b.pc, .slice e.b.qa e.b.qs.length e.b.qc, .int .i64 e.b.cs, .int .i64 e.b.nx]] W fun ex w' => ∃ c : Bb, ex = .returned (.agg #[.slice c.va c.vs.length c.vc, .slice c.pa c.ps.length c.pc, .slice c.qa c.qs.length c.qc, .int .i64 c.cs, .int .i64 c.nx]) ∧ BSame e.b c ∧ BLie w' W.heap.size w'.heap.size c ∧ Below W.heap.size W w') := fun W h => scopyB e.b lo m HF.out.b W (HPb.out.below h)
 have CO : Hid (∀ W : World, Below w.heap.size w W → Calls Tryz.prog 50 #[.slice e.oa e.os.length e.oc] W fun ex w' => ∃ (ys : List Ta) (a1 : Option Addr) (c1 : Nat), ex = .returned (.slice a1 e.os.length c1) ∧ txs ys = txs e.os ∧ ys.length = e.os.length ∧ LLie w' W.heap.size w'.heap.size (.slice a1 ys.length c1) ys ∧ Below W.heap.size W w') := fun W h => sTs e.os e.oa e.oc e.os.length m hi rfl (Nat.le_trans HF.out.ol (by omega)) HF.out.o W (HPo.out.below h)
 clear HPb HPo HF
 go_enter Tryz.func26, Tryz.ntmps26
 go_upto_region 1 with fail
 generalize ((w.alloc (.cells #[.slice e.b.va e.b.vs.length e.b.vc, .slice e.b.pa e.b.ps.length e.b.pc, .slice e.b.qa e.b.qs.length e.b.qc, .int .i64 e.b.cs, .int .i64 e.b.nx, .slice e.oa e.os.length e.oc] 44)).alloc (.cells #[.slice none 0 0, .slice none 0 0, .slice none 0 0, .int .i64 0, .int .i64 0, .slice none 0 0] 44)) = w0 at *
 refine wp_region_held_drew (S := fun w' => w'.cell? ⟨w.heap.size, 0, none⟩ = some (.slice e.b.va e.b.vs.length e.b.vc) ∧ w'.cell? ⟨w.heap.size, 1, none⟩ = some (.slice e.b.pa e.b.ps.length e.b.pc) ∧ w'.cell? ⟨w.heap.size, 2, none⟩ = some (.slice e.b.qa e.b.qs.length e.b.qc) ∧ w'.cell? ⟨w.heap.size, 3, none⟩ = some (.int .i64 e.b.cs) ∧ w'.cell? ⟨w.heap.size, 4, none⟩ = some (.int .i64 e.b.nx) ∧ w'.cell? ⟨w.heap.size, 5, none⟩ = some (.slice e.oa e.os.length e.oc)) (by kernel_rfl) ⟨BA0.out.c0, BA0.out.c1, BA0.out.c2, BA0.out.c3, BA0.out.c4, BA0.out.c5⟩ (fun hHeld => ?_)
 (refine ti 0 ?_; simp only [Act.put, tA, tB, tD, tE, tF])
 (refine ti 1 ?_; simp only [Act.put, tA, tB, tC, tD, tE, tF])
 (refine ti 3 ?_; simp only [Act.put, tA, tB, tC, tD, tE, tF])
 (refine ti 4 ?_; simp only [Act.put, tA, tB, tC, tD, tE, tF])
 refine wpAnyH_ready (rs := [2]) (by kernel_rfl) (by simp) ?_
 refine AllReadyH.cons rfl (fun K hK => ?_) AllReadyH.nil
 go_simp
 go_wp2_with fail
 refine (CB.out _ HB0.out.drew).mono ?_
 rintro ex w1 ⟨c, rfl, hsm, ho, hb9⟩
 have hb := undrew hb9
 have HB1 : Hid (Below w.heap.size w w1) := HB0.out.trans (hb.mono HB0.out.size)
 have BA1 : Hid (Bx w1 w.heap.size [.slice e.b.va e.b.vs.length e.b.vc, .slice e.b.pa e.b.ps.length e.b.pc, .slice e.b.qa e.b.qs.length e.b.qc, .int .i64 e.b.cs, .int .i64 e.b.nx, .slice e.oa e.os.length e.oc]) := BA0.out.below hb
 have BR1 : Hid (Bx w1 (w.heap.size + 1) [.slice none 0 0, .slice none 0 0, .slice none 0 0, .int .i64 0, .int .i64 0, .slice none 0 0]) := BR0.out.below hb
 have R1 : Hid (BLie w1 w0.heap.size w1.heap.size c) := ho
 have Y1 : Hid (w0.heap.size ≤ w1.heap.size) := hb.size
 have SM := hide hsm
 clear hb hb9 ho hsm HB0 BA0
 go_wp2_with fail
 refine hK.out _ _ ⟨BA1.out.c0, BA1.out.c1, BA1.out.c2, BA1.out.c3, BA1.out.c4, BA1.out.c5⟩ (fun hHeld1 => ?_)
 clear hK K
 refine wpAnyH_ready (rs := [5]) (by kernel_rfl) (by simp) ?_
 refine AllReadyH.cons rfl (fun K hK => ?_) AllReadyH.nil
 go_simp
 go_wp2_with fail
 refine (CO.out _ HB1.out).mono ?_
 rintro ex w2 ⟨ys, oa1, oc1, rfl, ht, hl, ho, hb⟩
 have HB2 : Hid (Below w.heap.size w w2) := HB1.out.trans (hb.mono HB1.out.size)
 have BA2 : Hid (Bx w2 w.heap.size [.slice e.b.va e.b.vs.length e.b.vc, .slice e.b.pa e.b.ps.length e.b.pc, .slice e.b.qa e.b.qs.length e.b.qc, .int .i64 e.b.cs, .int .i64 e.b.nx, .slice e.oa e.os.length e.oc]) := BA1.out.below hb
 have BR2 : Hid (Bx w2 (w.heap.size + 1) [.slice none 0 0, .slice none 0 0, .slice none 0 0, .int .i64 0, .int .i64 0, .slice none 0 0]) := BR1.out.below hb
 replace R1 : Hid (BLie w2 w0.heap.size w1.heap.size c) := R1.out.below hb
 have R2 : Hid (LLie w2 w1.heap.size w2.heap.size (.slice oa1 ys.length oc1) ys) := ho
 have Y2 : Hid (w1.heap.size ≤ w2.heap.size) := hb.size
 have HT := hide ht
 have HL := hide hl
 clear hb ho ht hl HB1 BA1
 go_wp2_with fail
 refine hK.out _ _ ⟨BA2.out.c0, BA2.out.c1, BA2.out.c2, BA2.out.c3, BA2.out.c4, BA2.out.c5⟩ (fun hHeld2 => ?_)
 clear hK K
 (refine ti 6 ?_; simp only [Act.put, tA, tB, tC, tD, tE, tF])
 refine wpAnyH_ready (rs := [7]) (by kernel_rfl) (by simp) ?_
 refine AllReadyH.cons rfl (fun K hK => ?_) AllReadyH.nil
 have q0 := BR2.out.c0
 have fq0 := BR2.out.fz 0
 have q1 := BR2.out.c1
 have fq1 := BR2.out.fz 1
 have q2 := BR2.out.c2
 have fq2 := BR2.out.fz 2
 have q3 := BR2.out.c3
 have fq3 := BR2.out.fz 3
 have q4 := BR2.out.c4
 have fq4 := BR2.out.fz 4
 have q5 := BR2.out.c5
 have fq5 := BR2.out.fz 5
 go_simp
 have HB3 : Hid (Below w.heap.size w ((((((w2.setCell ⟨w.heap.size + 1, 0, none⟩ (.slice c.va c.vs.length c.vc)).setCell ⟨w.heap.size + 1, 1, none⟩ (.slice c.pa c.ps.length c.pc)).setCell ⟨w.heap.size + 1, 2, none⟩ (.slice c.qa c.qs.length c.qc)).setCell ⟨w.heap.size + 1, 3, none⟩ (.int .i64 c.cs)).setCell ⟨w.heap.size + 1, 4, none⟩ (.int .i64 c.nx)).setCell ⟨w.heap.size + 1, 5, none⟩ (.slice oa1 e.os.length oc1))) := (((((HB2.out.setCell (p := ⟨w.heap.size + 1, 0, none⟩) (by show _ ≤ _ + 1; omega) _).setCell (p := ⟨w.heap.size + 1, 1, none⟩) (by show _ ≤ _ + 1; omega) _).setCell (p := ⟨w.heap.size + 1, 2, none⟩) (by show _ ≤ _ + 1; omega) _).setCell (p := ⟨w.heap.size + 1, 3, none⟩) (by show _ ≤ _ + 1; omega) _).setCell (p := ⟨w.heap.size + 1, 4, none⟩) (by show _ ≤ _ + 1; omega) _).setCell (p := ⟨w.heap.size + 1, 5, none⟩) (by show _ ≤ _ + 1; omega) _
 have BA3 : Hid (Bx ((((((w2.setCell ⟨w.heap.size + 1, 0, none⟩ (.slice c.va c.vs.length c.vc)).setCell ⟨w.heap.size + 1, 1, none⟩ (.slice c.pa c.ps.length c.pc)).setCell ⟨w.heap.size + 1, 2, none⟩ (.slice c.qa c.qs.length c.qc)).setCell ⟨w.heap.size + 1, 3, none⟩ (.int .i64 c.cs)).setCell ⟨w.heap.size + 1, 4, none⟩ (.int .i64 c.nx)).setCell ⟨w.heap.size + 1, 5, none⟩ (.slice oa1 e.os.length oc1)) w.heap.size [.slice e.b.va e.b.vs.length e.b.vc, .slice e.b.pa e.b.ps.length e.b.pc, .slice e.b.qa e.b.qs.length e.b.qc, .int .i64 e.b.cs, .int .i64 e.b.nx, .slice e.oa e.os.length e.oc]) := (((((BA2.out.setO (p := ⟨w.heap.size + 1, 0, none⟩) (by show w.heap.size + 1 ≠ w.heap.size; omega) _).setO (p := ⟨w.heap.size + 1, 1, none⟩) (by show w.heap.size + 1 ≠ w.heap.size; omega) _).setO (p := ⟨w.heap.size + 1, 2, none⟩) (by show w.heap.size + 1 ≠ w.heap.size; omega) _).setO (p := ⟨w.heap.size + 1, 3, none⟩) (by show w.heap.size + 1 ≠ w.heap.size; omega) _).setO (p := ⟨w.heap.size + 1, 4, none⟩) (by show w.heap.size + 1 ≠ w.heap.size; omega) _).setO (p := ⟨w.heap.size + 1, 5, none⟩) (by show w.heap.size + 1 ≠ w.heap.size; omega) _
 have BR3 : Hid (Bx ((((((w2.setCell ⟨w.heap.size + 1, 0, none⟩ (.slice c.va c.vs.length c.vc)).setCell ⟨w.heap.size + 1, 1, none⟩ (.slice c.pa c.ps.length c.pc)).setCell ⟨w.heap.size + 1, 2, none⟩ (.slice c.qa c.qs.length c.qc)).setCell ⟨w.heap.size + 1, 3, none⟩ (.int .i64 c.cs)).setCell ⟨w.heap.size + 1, 4, none⟩ (.int .i64 c.nx)).setCell ⟨w.heap.size + 1, 5, none⟩ (.slice oa1 e.os.length oc1)) (w.heap.size + 1) [.slice c.va c.vs.length c.vc, .slice c.pa c.ps.length c.pc, .slice c.qa c.qs.length c.qc, .int .i64 c.cs, .int .i64 c.nx, .slice oa1 e.os.length oc1]) := (((((BR2.out.set 0 _).set 1 _).set 2 _).set 3 _).set 4 _).set 5 _
 have hy0 := Y0.out
 have hy1 := Y1.out
 have hy2 := Y2.out
 replace R1 : Hid (BLie ((((((w2.setCell ⟨w.heap.size + 1, 0, none⟩ (.slice c.va c.vs.length c.vc)).setCell ⟨w.heap.size + 1, 1, none⟩ (.slice c.pa c.ps.length c.pc)).setCell ⟨w.heap.size + 1, 2, none⟩ (.slice c.qa c.qs.length c.qc)).setCell ⟨w.heap.size + 1, 3, none⟩ (.int .i64 c.cs)).setCell ⟨w.heap.size + 1, 4, none⟩ (.int .i64 c.nx)).setCell ⟨w.heap.size + 1, 5, none⟩ (.slice oa1 e.os.length oc1)) w0.heap.size w1.heap.size c) := (((((R1.out.set (a := ⟨w.heap.size + 1, 0, none⟩) (by show w.heap.size + 1 < _; omega) _).set (a := ⟨w.heap.size + 1, 1, none⟩) (by show w.heap.size + 1 < _; omega) _).set (a := ⟨w.heap.size + 1, 2, none⟩) (by show w.heap.size + 1 < _; omega) _).set (a := ⟨w.heap.size + 1, 3, none⟩) (by show w.heap.size + 1 < _; omega) _).set (a := ⟨w.heap.size + 1, 4, none⟩) (by show w.heap.size + 1 < _; omega) _).set (a := ⟨w.heap.size + 1, 5, none⟩) (by show w.heap.size + 1 < _; omega) _
 replace R2 : Hid (LLie ((((((w2.setCell ⟨w.heap.size + 1, 0, none⟩ (.slice c.va c.vs.length c.vc)).setCell ⟨w.heap.size + 1, 1, none⟩ (.slice c.pa c.ps.length c.pc)).setCell ⟨w.heap.size + 1, 2, none⟩ (.slice c.qa c.qs.length c.qc)).setCell ⟨w.heap.size + 1, 3, none⟩ (.int .i64 c.cs)).setCell ⟨w.heap.size + 1, 4, none⟩ (.int .i64 c.nx)).setCell ⟨w.heap.size + 1, 5, none⟩ (.slice oa1 e.os.length oc1)) w1.heap.size w2.heap.size (.slice oa1 ys.length oc1) ys) := (((((R2.out.set (a := ⟨w.heap.size + 1, 0, none⟩) (by show w.heap.size + 1 < _; omega) _).set (a := ⟨w.heap.size + 1, 1, none⟩) (by show w.heap.size + 1 < _; omega) _).set (a := ⟨w.heap.size + 1, 2, none⟩) (by show w.heap.size + 1 < _; omega) _).set (a := ⟨w.heap.size + 1, 3, none⟩) (by show w.heap.size + 1 < _; omega) _).set (a := ⟨w.heap.size + 1, 4, none⟩) (by show w.heap.size + 1 < _; omega) _).set (a := ⟨w.heap.size + 1, 5, none⟩) (by show w.heap.size + 1 < _; omega) _
 have Y3 : Hid (w2.heap.size ≤ ((((((w2.setCell ⟨w.heap.size + 1, 0, none⟩ (.slice c.va c.vs.length c.vc)).setCell ⟨w.heap.size + 1, 1, none⟩ (.slice c.pa c.ps.length c.pc)).setCell ⟨w.heap.size + 1, 2, none⟩ (.slice c.qa c.qs.length c.qc)).setCell ⟨w.heap.size + 1, 3, none⟩ (.int .i64 c.cs)).setCell ⟨w.heap.size + 1, 4, none⟩ (.int .i64 c.nx)).setCell ⟨w.heap.size + 1, 5, none⟩ (.slice oa1 e.os.length oc1)).heap.size) := by show _ ≤ _; simp [World.setCell]
 clear q0 fq0 q1 fq1 q2 fq2 q3 fq3 q4 fq4 q5 fq5
 clear HB2 BA2 BR2
 generalize ((((((w2.setCell ⟨w.heap.size + 1, 0, none⟩ (.slice c.va c.vs.length c.vc)).setCell ⟨w.heap.size + 1, 1, none⟩ (.slice c.pa c.ps.length c.pc)).setCell ⟨w.heap.size + 1, 2, none⟩ (.slice c.qa c.qs.length c.qc)).setCell ⟨w.heap.size + 1, 3, none⟩ (.int .i64 c.cs)).setCell ⟨w.heap.size + 1, 4, none⟩ (.int .i64 c.nx)).setCell ⟨w.heap.size + 1, 5, none⟩ (.slice oa1 e.os.length oc1)) = w3 at *
 refine hK.out _ _ ⟨BA3.out.c0, BA3.out.c1, BA3.out.c2, BA3.out.c3, BA3.out.c4, BA3.out.c5⟩ (fun hHeld3 => ?_)
 clear hK K
 refine wpAnyH_done (by kernel_rfl) ?_ _
 have q0 := BR3.out.c0
 have q1 := BR3.out.c1
 have q2 := BR3.out.c2
 have q3 := BR3.out.c3
 have q4 := BR3.out.c4
 have q5 := BR3.out.c5
 go_wp2
 refine bodyPost_ret (v := .agg #[.slice c.va c.vs.length c.vc, .slice c.pa c.ps.length c.pc, .slice c.qa c.qs.length c.qc, .int .i64 c.cs, .int .i64 c.nx, .slice oa1 e.os.length oc1]) (by simp [results, Tryz.results26, go_sem, q0, q1, q2, q3, q4, q5]) rfl ⟨⟨c, ys, oa1, oc1⟩, by rw [← HL.out], ⟨SM.out, HT.out⟩, ⟨w1.heap.size, by omega, by have := Y3.out; omega, R1.out.mono (by omega) (Nat.le_refl _), R2.out.mono (Nat.le_refl _) Y3.out⟩, HB3.out⟩

end Go.Proofs.YtmijppfppigjcaaGreat

namespace Go.Proofs.YtmijppfppigjcaaGreat
open Go.RowKit
attribute [local go_sem ↓] Go.wp_at_zero Go.wp_at_succ

theorem Bx.range {w : World} {b : Nat} {cs : List Value} (h : Bx w b cs) : w.rangeAt b 0 cs := fun j v hv => by
 obtain ⟨hj, rfl⟩ := List.getElem?_eq_some_iff.1 hv
 rw [Nat.zero_add, h.at' j hj, List.getElem?_eq_getElem hj]
theorem Bx.there {w : World} {b : Nat} {cs : List Value} (h : Bx w b cs) : w.there b 0 cs.length := fun j hj => by
 rw [Nat.zero_add]
 exact ⟨by rw [h.at' j hj, List.getElem?_eq_getElem hj]; rfl, h.fz j⟩
theorem set_pre (p us : List Value) (u v : Value) : (p ++ u :: us).set p.length v = (p ++ [v]) ++ us := by simp
theorem Bx.setN {b : Nat} : ∀ (vs us p : List Value) (w : World), Bx w b (p ++ us) → us.length = vs.length → Bx (w.setCells b p.length vs) b (p ++ vs) ∧ Zn b (b + 1) w (w.setCells b p.length vs) ∧ (w.setCells b p.length vs).heap.size = w.heap.size
 | [], us, p, w, h, hl => by
  have : us = [] := List.length_eq_zero_iff.1 hl
  subst this
  exact ⟨h, ⟨rfl, rfl, rfl, Nat.le_refl _, fun _ _ _ => rfl⟩, rfl⟩
 | v :: vs, us, p, w, h, hl => by
  match us, hl with
  | u :: us, hl =>
   have h1 := h.set p.length v
   rw [set_pre] at h1
   have h2 := Bx.setN vs us (p ++ [v]) _ h1 (by simpa using hl)
   rw [show (p ++ [v]).length = p.length + 1 from by simp] at h2
   rw [World.setCells]
   refine ⟨by simpa using h2.1, (zn_set w ⟨b, p.length, none⟩ v).trans h2.2.1, h2.2.2.trans (by simp [World.setCell])⟩
theorem wpLoadN {ops : Array Oper} {rest : List Oper} {op : Oper} {a : Act} {w : World} {Q : Exit → Act → World → Prop} {b : Nat} {cs : List Value} (hgd : op.guard = none) (ty : TypeId) (x : Operand) (ho : op.op = .load ty x) (d : TypeDesc) (hu : Tryz.prog.underlying ty = some d) (hd : d.isRow = true) (hi : (Tryz.prog.info? ty).map (·.size) = some cs.length)
  (hx : a.eval x = .pointer (some ⟨b, 0, none⟩)) (hc : Bx w b cs) (h : wpList Tryz.prog ops Q rest (a.put op.dst (.agg cs.toArray)) w) : wpList Tryz.prog ops Q (op :: rest) a w :=
 wpList_load_mid hgd ty x ho b 0 hx cs d hc.range hu hd hi h
theorem wpStoreN {ops : Array Oper} {rest : List Oper} {op : Oper} {a : Act} {w : World} {Q : Exit → Act → World → Prop} {b : Nat} {us : List Value} (vs : Array Value) (hgd : op.guard = none) (ty : TypeId) (x y : Operand) (ho : op.op = .store ty x y) (hi : (Tryz.prog.info? ty).map (·.size) = some vs.size)
  (hx : a.eval x = .pointer (some ⟨b, 0, none⟩)) (hy : a.eval y = .agg vs) (hc : Bx w b us) (hl : us.length = vs.size) (h1 : vs.all (·.oneCell') = true)
  (h : ∀ W, Bx W b vs.toList → Zn b (b + 1) w W → W.heap.size = w.heap.size → wpList Tryz.prog ops Q rest (a.put op.dst undef) W) : wpList Tryz.prog ops Q (op :: rest) a w := by
 have k := Bx.setN vs.toList us [] w hc (by simpa using hl)
 exact wpList_store_mid hgd ty x y ho b 0 vs hx hy (by rw [← hl]; exact hc.there) hi h1 (h _ k.1 k.2.1 k.2.2)
theorem stepStoreN {ops : Array Oper} {K : Act → World → Prop} {X : Prop} {op : Oper} {a : Act} {w : World} {Q : Exit → Act → World → Prop} {b : Nat} {us : List Value} (vs : Array Value) (hgd : op.guard = none) (ty : TypeId) (x y : Operand) (ho : op.op = .store ty x y) (hi : (Tryz.prog.info? ty).map (·.size) = some vs.size)
  (hx : a.eval x = .pointer (some ⟨b, 0, none⟩)) (hy : a.eval y = .agg vs) (hc : Bx w b us) (hl : us.length = vs.size) (h1 : vs.all (·.oneCell') = true)
  (h : ∀ W, Bx W b vs.toList → Zn b (b + 1) w W → W.heap.size = w.heap.size → K (a.put op.dst undef) W) : if Region.wanted op (yielded ops a.tmps) = true then Oper.wp Tryz.prog op a w K Q else X := by
 rw [if_pos (by unfold Region.wanted; rw [hgd])]
 have k := Bx.setN vs.toList us [] w hc (by simpa using hl)
 exact wp_store_mid ty x y ho b 0 vs hx hy (by rw [← hl]; exact hc.there) hi h1 (h _ k.1 k.2.1 k.2.2)
theorem results3 {fn : Func} {tmps : Array Value} {w : World} {a0 a1 s b0 b1 : Nat} {t0 t1 : TypeId} {c0 c1 : List Value} {d0 d1 : TypeDesc}
  (hr : fn.results = #[.cell a0 t0, .cell a1 t1, .tmp s]) (h0 : tmps.getD a0 undef = .pointer (some ⟨b0, 0, none⟩)) (h1 : tmps.getD a1 undef = .pointer (some ⟨b1, 0, none⟩))
  (k0 : Bx w b0 c0) (k1 : Bx w b1 c1) (u0 : Tryz.prog.underlying t0 = some d0) (u1 : Tryz.prog.underlying t1 = some d1) (r0 : d0.isRow = true) (r1 : d1.isRow = true)
  (i0 : (Tryz.prog.info? t0).map (·.size) = some c0.length) (i1 : (Tryz.prog.info? t1).map (·.size) = some c1.length) :
  (results fn tmps).run Tryz.prog w = .ok (.tuple #[.agg c0.toArray, .agg c1.toArray, tmps.getD s undef]) w := by
 have e0 := run_loadVar_mid (P := Tryz.prog) w b0 0 t0 c0 d0 k0.range u0 r0 i0
 have e1 := run_loadVar_mid (P := Tryz.prog) w b1 0 t1 c1 d1 k1.range u1 r1 i1
 unfold results
 rw [hr]
 rw [Array.getD_eq_getD_getElem?] at h0 h1
 simp [asAddr, Sem.run_bind, h0, h1, e0, e1]
end Go.Proofs.YtmijppfppigjcaaGreat

namespace Go.Proofs.YtmijppfppigjcaaGreat
open Go.RowKit
open KM
attribute [local go_sem ↓] Go.wp_at_zero Go.wp_at_succ

def FullA (b : Bb) (e : Ending) : Prop := ∃ o : Bool, e = .returned (.bool o) ∧ (o = false → b.ps.length < 12 ∧ b.vs.length ≤ 100)
theorem FullA.mk {b : Bb} (o : Bool) (h : o = false → b.ps.length < 12 ∧ b.vs.length ≤ 100) : FullA b (.returned (.bool o)) := ⟨o, rfl, h⟩
set_option maxRecDepth 100000 in
set_option maxHeartbeats 2000000 in
theorem ifullA (b : Bb) (w : World) :
  Calls Tryz.prog 39 #[.agg #[.slice b.va b.vs.length b.vc, .slice b.pa b.ps.length b.pc, .slice b.qa b.qs.length b.qc, .int .i64 b.cs, .int .i64 b.nx]] w fun e w' => FullA b e ∧ Below w.heap.size w w' := by
 have BX : Hid (Bx (w.alloc (.cells #[.slice b.va b.vs.length b.vc, .slice b.pa b.ps.length b.pc, .slice b.qa b.qs.length b.qc, .int .i64 b.cs, .int .i64 b.nx] 42)) w.heap.size [.slice b.va b.vs.length b.vc, .slice b.pa b.ps.length b.pc, .slice b.qa b.qs.length b.qc, .int .i64 b.cs, .int .i64 b.nx]) := Bx.new w [.slice b.va b.vs.length b.vc, .slice b.pa b.ps.length b.pc, .slice b.qa b.qs.length b.qc, .int .i64 b.cs, .int .i64 b.nx] 42
 have HB : Hid (Below w.heap.size w (w.alloc (.cells #[.slice b.va b.vs.length b.vc, .slice b.pa b.ps.length b.pc, .slice b.qa b.qs.length b.qc, .int .i64 b.cs, .int .i64 b.nx] 42))) := (belowRefl w).alloc (Nat.le_refl _) _
 go_enter Tryz.func39, Tryz.ntmps39
 go_upto_region 1 with fail
 generalize (w.alloc (.cells #[.slice b.va b.vs.length b.vc, .slice b.pa b.ps.length b.pc, .slice b.qa b.qs.length b.qc, .int .i64 b.cs, .int .i64 b.nx] 42)) = w0 at *
 have x0 := BX.out.c0
 have x1 := BX.out.c1
 have x3 := BX.out.c3
 by_cases h1 : 12 ≤ b.ps.length
 ·have g1 : (12 : Int) ≤ (b.ps.length : Int) := by omega
  go_wp2
  go_ret
  exact ⟨FullA.mk true (fun h => by cases h), HB.out⟩
 ·have g1 : ¬ (12 : Int) ≤ (b.ps.length : Int) := by omega
  by_cases h2 : 100 < b.vs.length
  ·have g2 : (100 : Int) < (b.vs.length : Int) := by omega
   go_wp2
   go_ret
   exact ⟨FullA.mk true (fun h => by cases h), HB.out⟩
  ·have g2 : ¬ (100 : Int) < (b.vs.length : Int) := by omega
   have HL : Hid (b.ps.length < 12 ∧ b.vs.length ≤ 100) := ⟨by omega, by omega⟩
   clear h1 h2
   by_cases h3 : 9999 ≤ b.cs
   ·go_wp2
    go_ret
    exact ⟨FullA.mk _ (fun _ => HL.out), HB.out⟩
   ·go_wp2
    go_ret
    exact ⟨FullA.mk _ (fun _ => HL.out), HB.out⟩

set_option maxRecDepth 100000 in
set_option maxHeartbeats 2000000 in
theorem sfullA (b : Bb) (w : World) :
  Calls Tryz.prog 28 #[.agg #[.slice b.va b.vs.length b.vc, .slice b.pa b.ps.length b.pc, .slice b.qa b.qs.length b.qc, .int .i64 b.cs, .int .i64 b.nx]] w fun e w' => FullA b e ∧ Below w.heap.size w w' := by
 have BX : Hid (Bx (w.alloc (.cells #[.slice b.va b.vs.length b.vc, .slice b.pa b.ps.length b.pc, .slice b.qa b.qs.length b.qc, .int .i64 b.cs, .int .i64 b.nx] 42)) w.heap.size [.slice b.va b.vs.length b.vc, .slice b.pa b.ps.length b.pc, .slice b.qa b.qs.length b.qc, .int .i64 b.cs, .int .i64 b.nx]) := Bx.new w [.slice b.va b.vs.length b.vc, .slice b.pa b.ps.length b.pc, .slice b.qa b.qs.length b.qc, .int .i64 b.cs, .int .i64 b.nx] 42
 have HB : Hid (Below w.heap.size w (w.alloc (.cells #[.slice b.va b.vs.length b.vc, .slice b.pa b.ps.length b.pc, .slice b.qa b.qs.length b.qc, .int .i64 b.cs, .int .i64 b.nx] 42))) := (belowRefl w).alloc (Nat.le_refl _) _
 go_enter Tryz.func28, Tryz.ntmps28
 go_upto_region 1 with fail
 generalize (w.alloc (.cells #[.slice b.va b.vs.length b.vc, .slice b.pa b.ps.length b.pc, .slice b.qa b.qs.length b.qc, .int .i64 b.cs, .int .i64 b.nx] 42)) = w0 at *
 have x0 := BX.out.c0
 have x1 := BX.out.c1
 have x3 := BX.out.c3
 by_cases h1 : 12 ≤ b.ps.length
 ·have g1 : (12 : Int) ≤ (b.ps.length : Int) := by omega
  go_wp2
  go_ret
  exact ⟨FullA.mk true (fun h => by cases h), HB.out⟩
 ·have g1 : ¬ (12 : Int) ≤ (b.ps.length : Int) := by omega
  by_cases h2 : 100 < b.vs.length
  ·have g2 : (100 : Int) < (b.vs.length : Int) := by omega
   go_wp2
   go_ret
   exact ⟨FullA.mk true (fun h => by cases h), HB.out⟩
  ·have g2 : ¬ (100 : Int) < (b.vs.length : Int) := by omega
   have HL : Hid (b.ps.length < 12 ∧ b.vs.length ≤ 100) := ⟨by omega, by omega⟩
   clear h1 h2
   by_cases h3 : 9999 ≤ b.cs
   ·go_wp2
    go_ret
    exact ⟨FullA.mk _ (fun _ => HL.out), HB.out⟩
   ·go_wp2
    go_ret
    exact ⟨FullA.mk _ (fun _ => HL.out), HB.out⟩

end Go.Proofs.YtmijppfppigjcaaGreat

/- Copies of engines: what is held, and by the document. -/
import Derived.Test.YtjeicgibddfifaaGreatPc01
import Derived.Test.YtjeicgibddfifaaGreatPc10
import Derived.Test.YtjeicgibddfifaaGreatPc15
import Derived.Test.YtjeicgibddfifaaGreatPc19
import Derived.Test.YtjeicgibddfifaaGreatPc20
import Derived.Test.YtjeicgibddfifaaGreatPc13
import Derived.Test.YtjeicgibddfifaaGreatPc07
import Derived.Deep.RegionHeld3
import Derived.Deep.Cut
import Derived.Deep.CutRange
namespace Go.Proofs.YtjeicgibddfifaaGreat
open Go.RowKit
open KM
attribute [local go_sem ↓] Go.wp_at_zero Go.wp_at_succ

theorem zn_set (w : World) (a : Addr) (u : Value) : Zn a.block (a.block + 1) w (w.setCell a u) := ⟨rfl, rfl, rfl, by simp [World.setCell], fun j _ hn => Below.heap_setCell w a u j (by omega)⟩
structure EnLx (w : World) (lo m h g hi : Nat) (d : En) : Prop where
 lm : lo ≤ m
 hg : h ≤ g
 mg : m ≤ h
 hh : h ≤ hi
 b : BLie w lo m d.b
 o : Lies encT 56 w m hi (.slice d.oa d.os.length d.oc) d.os
 ne : ∀ k, (Value.slice d.oa d.os.length d.oc).ownBlock = some k → k ≠ g
 z : Zs w (.slice d.oa d.os.length d.oc) m h d.os
theorem EnLx.below {w w' : World} {lo m h g hi : Nat} {d : En} (k : EnLx w lo m h g hi d) (hb : Below w.heap.size w w') : EnLx w' lo m h g hi d := ⟨k.lm, k.hg, k.mg, k.hh, k.b.below hb, k.o.below hb, k.ne, k.z.below hb⟩
theorem EnLx.setg {w : World} {lo m h g hi : Nat} {d : En} (k : EnLx w lo m h g hi d) (i : Nat) (u : Value) : EnLx (w.setCell ⟨g, i, none⟩ u) lo m h g hi d :=
 ⟨k.lm, k.hg, k.mg, k.hh, k.b.zn (zn_set w ⟨g, i, none⟩ u) (Or.inl (by have := k.mg; have := k.hg; show m ≤ g; omega)), ⟨ownsRow_setCell_other k.o.own (fun e => k.ne _ e rfl) u, k.o.up⟩, k.ne, k.z.zn (zn_set w ⟨g, i, none⟩ u) (Or.inl k.hg)⟩
theorem EnLx.setr {w : World} {lo m h g hi : Nat} {d : En} (k : EnLx w lo m h g hi d) {a : Addr} (hr : h ≤ a.block) (hn : ∀ b, (Value.slice d.oa d.os.length d.oc).ownBlock = some b → b ≠ a.block) (u : Value) : EnLx (w.setCell a u) lo m h g hi d :=
 ⟨k.lm, k.hg, k.mg, k.hh, k.b.zn (zn_set w a u) (Or.inl (Nat.le_trans k.mg hr)), ⟨ownsRow_setCell_other k.o.own (fun e => hn _ e rfl) u, k.o.up⟩, k.ne, k.z.zn (zn_set w a u) (Or.inl hr)⟩
theorem EnLx.lie {w : World} {lo m h g hi : Nat} {d : En} (k : EnLx w lo m h g hi d) : EnLie w lo hi d := ⟨m, k.lm, Nat.le_trans k.mg k.hh, k.b, ⟨k.o, k.z.mono (Nat.le_refl _) k.hh⟩⟩
theorem EnLx.rows {w : World} {lo m h g hi : Nat} {d : En} (k : EnLx w lo m h g hi d) : EnRows w d := k.lie.rows
theorem EnLie.lx {w : World} {lo g : Nat} {d : En} (k : EnLie w lo g d) : ∃ m, EnLx w lo m g g g d := by
 obtain ⟨m, h1, h2, h3, h4⟩ := k.ex
 exact ⟨m, h1, Nat.le_refl _, h2, Nat.le_refl _, h3, h4.own, fun k e => Nat.ne_of_lt (h4.own.up k e), h4.zs⟩
section
variable {w : World} {b : Nat}
end

set_option maxRecDepth 100000 in
set_option maxHeartbeats 4000000 in
theorem ihold (e : En) (hf : EnFit e) (w : World) (hp : EnRows w e) :
  Calls Tryz.prog 30 #[.agg #[.slice e.b.va e.b.vs.length e.b.vc, .slice e.b.pa e.b.ps.length e.b.pc, .slice e.b.qa e.b.qs.length e.b.qc, .int .i64 e.b.cs, .int .i64 e.b.nx, .slice e.oa e.os.length e.oc]] w fun ex w' => ∃ (c : En) (g : Nat), ex = .returned (.pointer (some ⟨g, 0, none⟩)) ∧ EnSame e c ∧ EnLie w' w.heap.size g c ∧ w.heap.size ≤ g ∧ Bx w' g [.int .i32 0, .int .u32 0, .slice c.b.va c.b.vs.length c.b.vc, .slice c.b.pa c.b.ps.length c.b.pc, .slice c.b.qa c.b.qs.length c.b.qc, .int .i64 c.b.cs, .int .i64 c.b.nx, .slice c.oa c.os.length c.oc] ∧ Below w.heap.size w w' := by
 have BA0 : Hid (Bx (w.alloc (.cells #[.slice e.b.va e.b.vs.length e.b.vc, .slice e.b.pa e.b.ps.length e.b.pc, .slice e.b.qa e.b.qs.length e.b.qc, .int .i64 e.b.cs, .int .i64 e.b.nx, .slice e.oa e.os.length e.oc] 35)) w.heap.size [.slice e.b.va e.b.vs.length e.b.vc, .slice e.b.pa e.b.ps.length e.b.pc, .slice e.b.qa e.b.qs.length e.b.qc, .int .i64 e.b.cs, .int .i64 e.b.nx, .slice e.oa e.os.length e.oc]) := Bx.new w [.slice e.b.va e.b.vs.length e.b.vc, .slice e.b.pa e.b.ps.length e.b.pc, .slice e.b.qa e.b.qs.length e.b.qc, .int .i64 e.b.cs, .int .i64 e.b.nx, .slice e.oa e.os.length e.oc] 35
 have HB0 : Hid (Below w.heap.size w (w.alloc (.cells #[.slice e.b.va e.b.vs.length e.b.vc, .slice e.b.pa e.b.ps.length e.b.pc, .slice e.b.qa e.b.qs.length e.b.qc, .int .i64 e.b.cs, .int .i64 e.b.nx, .slice e.oa e.os.length e.oc] 35))) := (belowRefl w).alloc (Nat.le_refl _) _
 have Y0 : Hid (w.heap.size ≤ (w.alloc (.cells #[.slice e.b.va e.b.vs.length e.b.vc, .slice e.b.pa e.b.ps.length e.b.pc, .slice e.b.qa e.b.qs.length e.b.qc, .int .i64 e.b.cs, .int .i64 e.b.nx, .slice e.oa e.os.length e.oc] 35)).heap.size) := HB0.out.size
 have HP : Hid (EnRows w e) := hp
 have HF : Hid (EnFit e) := hf
 clear hp hf
 have CB : Hid (∀ W : World, Below w.heap.size w W → Calls Tryz.prog 70 #[.agg #[.slice e.b.va e.b.vs.length e.b.vc, .slice e.b.pa e.b.ps.length e.b.pc, .slice e.b.qa e.b.qs.length e.b.qc, .int .i64 e.b.cs, .int .i64 e.b.nx]] W fun ex w' => ∃ c : Bb, ex = .returned (.agg #[.slice c.va c.vs.length c.vc, .slice c.pa c.ps.length c.pc, .slice c.qa c.qs.length c.qc, .int .i64 c.cs, .int .i64 c.nx]) ∧ BSame e.b c ∧ BLie w' W.heap.size w'.heap.size c ∧ Below W.heap.size W w') := fun W h => copyB e.b HF.out.b W (HP.out.below h).b
 have CO : Hid (∀ W : World, Below w.heap.size w W → Calls Tryz.prog 71 #[.slice e.oa e.os.length e.oc] W fun ex w' => ∃ (ys : List Ta) (a1 : Option Addr) (c1 : Nat), ex = .returned (.slice a1 e.os.length c1) ∧ txs ys = txs e.os ∧ ys.length = e.os.length ∧ LLie w' W.heap.size w'.heap.size (.slice a1 ys.length c1) ys ∧ Below W.heap.size W w') := fun W h => copyTs e.os e.oa e.oc e.os.length rfl (Nat.le_trans HF.out.ol (by omega)) HF.out.o W (HP.out.below h).o
 clear HP HF
 go_enter Tryz.func30, Tryz.ntmps30
 go_upto_region 1 with fail
 generalize (w.alloc (.cells #[.slice e.b.va e.b.vs.length e.b.vc, .slice e.b.pa e.b.ps.length e.b.pc, .slice e.b.qa e.b.qs.length e.b.qc, .int .i64 e.b.cs, .int .i64 e.b.nx, .slice e.oa e.os.length e.oc] 35)) = w0 at *
 refine wp_region_held_drew (S := fun w' => w'.cell? ⟨w.heap.size, 0, none⟩ = some (.slice e.b.va e.b.vs.length e.b.vc) ∧ w'.cell? ⟨w.heap.size, 1, none⟩ = some (.slice e.b.pa e.b.ps.length e.b.pc) ∧ w'.cell? ⟨w.heap.size, 2, none⟩ = some (.slice e.b.qa e.b.qs.length e.b.qc) ∧ w'.cell? ⟨w.heap.size, 3, none⟩ = some (.int .i64 e.b.cs) ∧ w'.cell? ⟨w.heap.size, 4, none⟩ = some (.int .i64 e.b.nx) ∧ w'.cell? ⟨w.heap.size, 5, none⟩ = some (.slice e.oa e.os.length e.oc)) (by kernel_rfl) ⟨BA0.out.c0, BA0.out.c1, BA0.out.c2, BA0.out.c3, BA0.out.c4, BA0.out.c5⟩ (fun hHeld => ?_)
 (refine tk 0 ?_ rfl (Or.inl ⟨by rfl, ?_⟩) ?_; rotate_left; (focus (intro w h; (try dsimp only at h); go_simp; (try with_reducible rfl))); simp only [Act.put, tA, tB, tD, tE, tF])
 (refine tk 1 ?_ rfl (Or.inl ⟨by rfl, ?_⟩) ?_; rotate_left; (focus (intro w h; (try dsimp only at h); go_simp; (try with_reducible rfl))); simp only [Act.put, tA, tB, tC, tD, tE, tF])
 (refine tk 3 ?_ rfl (Or.inl ⟨by rfl, ?_⟩) ?_; rotate_left; (focus (intro w h; (try dsimp only at h); go_simp; (try with_reducible rfl))); simp only [Act.put, tA, tB, tC, tD, tE, tF])
 (refine tk 4 ?_ rfl (Or.inl ⟨by rfl, ?_⟩) ?_; rotate_left; (focus (intro w h; (try dsimp only at h); go_simp; (try with_reducible rfl))); simp only [Act.put, tA, tB, tC, tD, tE, tF])
 refine wpAnyH_ready (rs := [2]) (by kernel_rfl) (by simp) ?_
 refine AllReadyH.cons rfl (fun K hK => ?_) AllReadyH.nil
 go_simp
 go_wp2_with fail
 refine (CB.out _ HB0.out.drew).mono ?_
 rintro ex w1 ⟨c, rfl, hsm, ho, hb9⟩
 have hb := undrew hb9
 have HB1 : Hid (Below w.heap.size w w1) := HB0.out.trans (hb.mono HB0.out.size)
 have BA1 : Hid (Bx w1 w.heap.size [.slice e.b.va e.b.vs.length e.b.vc, .slice e.b.pa e.b.ps.length e.b.pc, .slice e.b.qa e.b.qs.length e.b.qc, .int .i64 e.b.cs, .int .i64 e.b.nx, .slice e.oa e.os.length e.oc]) := BA0.out.below hb
 have R1 : Hid (BLie w1 w0.heap.size w1.heap.size c) := ho
 have Y1 : Hid (w0.heap.size ≤ w1.heap.size) := hb.size
 have SM := hide hsm
 clear hb hb9 ho hsm HB0 BA0
 go_wp2_with fail
 refine hK.out _ _ ⟨BA1.out.c0, BA1.out.c1, BA1.out.c2, BA1.out.c3, BA1.out.c4, BA1.out.c5⟩ (fun hHeld1 => ?_)
 clear hK K
 refine wpAnyH_ready (rs := [5]) (by kernel_rfl) (by simp) ?_
 refine AllReadyH.cons rfl (fun K hK => ?_) AllReadyH.nil
 go_simp
 go_wp2_with fail
 refine (CO.out _ HB1.out).mono ?_
 rintro ex w2 ⟨ys, oa1, oc1, rfl, ht, hl, ho, hb⟩
 have HB2 : Hid (Below w.heap.size w w2) := HB1.out.trans (hb.mono HB1.out.size)
 have BA2 : Hid (Bx w2 w.heap.size [.slice e.b.va e.b.vs.length e.b.vc, .slice e.b.pa e.b.ps.length e.b.pc, .slice e.b.qa e.b.qs.length e.b.qc, .int .i64 e.b.cs, .int .i64 e.b.nx, .slice e.oa e.os.length e.oc]) := BA1.out.below hb
 replace R1 : Hid (BLie w2 w0.heap.size w1.heap.size c) := R1.out.below hb
 have R2 : Hid (LLie w2 w1.heap.size w2.heap.size (.slice oa1 ys.length oc1) ys) := ho
 have Y2 : Hid (w1.heap.size ≤ w2.heap.size) := hb.size
 have HT := hide ht
 have HL := hide hl
 clear hb ho ht hl HB1 BA1
 go_wp2_with fail
 refine hK.out _ _ ⟨BA2.out.c0, BA2.out.c1, BA2.out.c2, BA2.out.c3, BA2.out.c4, BA2.out.c5⟩ (fun hHeld2 => ?_)
 clear hK K
 (refine tk 6 ?_ rfl (Or.inl ⟨by rfl, ?_⟩) ?_; rotate_left; (focus (intro w h; (try dsimp only at h); go_simp; (try with_reducible rfl))); simp only [Act.put, tA, tB, tC, tD, tE, tF])
 (refine tk 7 ?_ rfl (Or.inl ⟨by rfl, ?_⟩) ?_; rotate_left; (focus (intro w h; (try dsimp only at h); go_simp; (try with_reducible rfl))); simp only [Act.put, tA, tB, tC, tD, tE, tF])
 refine wpAnyH_ready (rs := [8]) (by kernel_rfl) (by simp) ?_
 refine AllReadyH.cons rfl (fun K hK => ?_) AllReadyH.nil
 go_simp
 have hba : Below w2.heap.size w2 (w2.alloc (.cells #[.int .i32 0, .int .u32 0, .slice c.va c.vs.length c.vc, .slice c.pa c.ps.length c.pc, .slice c.qa c.qs.length c.qc, .int .i64 c.cs, .int .i64 c.nx, .slice oa1 e.os.length oc1] 118)) := (belowRefl w2).alloc (Nat.le_refl _) _
 have HB3 : Hid (Below w.heap.size w (w2.alloc (.cells #[.int .i32 0, .int .u32 0, .slice c.va c.vs.length c.vc, .slice c.pa c.ps.length c.pc, .slice c.qa c.qs.length c.qc, .int .i64 c.cs, .int .i64 c.nx, .slice oa1 e.os.length oc1] 118))) := HB2.out.trans (hba.mono HB2.out.size)
 have BA3 : Hid (Bx (w2.alloc (.cells #[.int .i32 0, .int .u32 0, .slice c.va c.vs.length c.vc, .slice c.pa c.ps.length c.pc, .slice c.qa c.qs.length c.qc, .int .i64 c.cs, .int .i64 c.nx, .slice oa1 e.os.length oc1] 118)) w.heap.size [.slice e.b.va e.b.vs.length e.b.vc, .slice e.b.pa e.b.ps.length e.b.pc, .slice e.b.qa e.b.qs.length e.b.qc, .int .i64 e.b.cs, .int .i64 e.b.nx, .slice e.oa e.os.length e.oc]) := BA2.out.below hba
 replace R1 : Hid (BLie (w2.alloc (.cells #[.int .i32 0, .int .u32 0, .slice c.va c.vs.length c.vc, .slice c.pa c.ps.length c.pc, .slice c.qa c.qs.length c.qc, .int .i64 c.cs, .int .i64 c.nx, .slice oa1 e.os.length oc1] 118)) w0.heap.size w1.heap.size c) := R1.out.below hba
 replace R2 : Hid (LLie (w2.alloc (.cells #[.int .i32 0, .int .u32 0, .slice c.va c.vs.length c.vc, .slice c.pa c.ps.length c.pc, .slice c.qa c.qs.length c.qc, .int .i64 c.cs, .int .i64 c.nx, .slice oa1 e.os.length oc1] 118)) w1.heap.size w2.heap.size (.slice oa1 ys.length oc1) ys) := R2.out.below hba
 have BG : Hid (Bx (w2.alloc (.cells #[.int .i32 0, .int .u32 0, .slice c.va c.vs.length c.vc, .slice c.pa c.ps.length c.pc, .slice c.qa c.qs.length c.qc, .int .i64 c.cs, .int .i64 c.nx, .slice oa1 e.os.length oc1] 118)) w2.heap.size [.int .i32 0, .int .u32 0, .slice c.va c.vs.length c.vc, .slice c.pa c.ps.length c.pc, .slice c.qa c.qs.length c.qc, .int .i64 c.cs, .int .i64 c.nx, .slice oa1 e.os.length oc1]) := Bx.new w2 [.int .i32 0, .int .u32 0, .slice c.va c.vs.length c.vc, .slice c.pa c.ps.length c.pc, .slice c.qa c.qs.length c.qc, .int .i64 c.cs, .int .i64 c.nx, .slice oa1 e.os.length oc1] 118
 clear hba HB2 BA2
 generalize (w2.alloc (.cells #[.int .i32 0, .int .u32 0, .slice c.va c.vs.length c.vc, .slice c.pa c.ps.length c.pc, .slice c.qa c.qs.length c.qc, .int .i64 c.cs, .int .i64 c.nx, .slice oa1 e.os.length oc1] 118)) = w3 at *
 refine hK.out _ _ ⟨BA3.out.c0, BA3.out.c1, BA3.out.c2, BA3.out.c3, BA3.out.c4, BA3.out.c5⟩ (fun hHeld3 => ?_)
 clear hK K
 (refine tk 9 ?_ rfl (Or.inl ⟨by rfl, ?_⟩) ?_; rotate_left; (focus (intro w h; (try dsimp only at h); go_simp; (try with_reducible rfl))); simp only [Act.put, tA, tB, tC, tD, tE, tF])
 refine wpAnyH_done (by kernel_rfl) ?_ _
 go_wp2
 go_ret
 rw [← HL.out] at BG
 exact ⟨⟨c, ys, oa1, oc1⟩, w2.heap.size, rfl, ⟨SM.out, HT.out⟩, ⟨w1.heap.size, by have := Y0.out; have := Y1.out; omega, Y2.out, R1.out.mono Y0.out (Nat.le_refl _), R2.out⟩, by have := Y0.out; have := Y1.out; have := Y2.out; omega, BG.out, HB3.out⟩

set_option maxRecDepth 100000 in
set_option maxHeartbeats 4000000 in
theorem scopyE (e : En) (lo hi : Nat) (hf : EnFit e) (w : World) (hp : EnLie w lo hi e) :
  Calls Tryz.prog 29 #[.agg #[.slice e.b.va e.b.vs.length e.b.vc, .slice e.b.pa e.b.ps.length e.b.pc, .slice e.b.qa e.b.qs.length e.b.qc, .int .i64 e.b.cs, .int .i64 e.b.nx, .slice e.oa e.os.length e.oc]] w fun ex w' => ∃ c : En, ex = .returned (.agg #[.slice c.b.va c.b.vs.length c.b.vc, .slice c.b.pa c.b.ps.length c.b.pc, .slice c.b.qa c.b.qs.length c.b.qc, .int .i64 c.b.cs, .int .i64 c.b.nx, .slice c.oa c.os.length c.oc]) ∧ EnSame e c ∧ EnLie w' w.heap.size w'.heap.size c ∧ Below w.heap.size w w' := by
 have BA0 : Hid (Bx ((w.alloc (.cells #[.slice e.b.va e.b.vs.length e.b.vc, .slice e.b.pa e.b.ps.length e.b.pc, .slice e.b.qa e.b.qs.length e.b.qc, .int .i64 e.b.cs, .int .i64 e.b.nx, .slice e.oa e.os.length e.oc] 35)).alloc (.cells #[.slice none 0 0, .slice none 0 0, .slice none 0 0, .int .i64 0, .int .i64 0, .slice none 0 0] 35)) w.heap.size [.slice e.b.va e.b.vs.length e.b.vc, .slice e.b.pa e.b.ps.length e.b.pc, .slice e.b.qa e.b.qs.length e.b.qc, .int .i64 e.b.cs, .int .i64 e.b.nx, .slice e.oa e.os.length e.oc]) := (Bx.new w [.slice e.b.va e.b.vs.length e.b.vc, .slice e.b.pa e.b.ps.length e.b.pc, .slice e.b.qa e.b.qs.length e.b.qc, .int .i64 e.b.cs, .int .i64 e.b.nx, .slice e.oa e.os.length e.oc] 35).alloc _
 have BR0 : Hid (Bx ((w.alloc (.cells #[.slice e.b.va e.b.vs.length e.b.vc, .slice e.b.pa e.b.ps.length e.b.pc, .slice e.b.qa e.b.qs.length e.b.qc, .int .i64 e.b.cs, .int .i64 e.b.nx, .slice e.oa e.os.length e.oc] 35)).alloc (.cells #[.slice none 0 0, .slice none 0 0, .slice none 0 0, .int .i64 0, .int .i64 0, .slice none 0 0] 35)) (w.heap.size + 1) [.slice none 0 0, .slice none 0 0, .slice none 0 0, .int .i64 0, .int .i64 0, .slice none 0 0]) := by
  have h := Bx.new (w.alloc (.cells #[.slice e.b.va e.b.vs.length e.b.vc, .slice e.b.pa e.b.ps.length e.b.pc, .slice e.b.qa e.b.qs.length e.b.qc, .int .i64 e.b.cs, .int .i64 e.b.nx, .slice e.oa e.os.length e.oc] 35)) [.slice none 0 0, .slice none 0 0, .slice none 0 0, .int .i64 0, .int .i64 0, .slice none 0 0] 35
  rw [World.size_alloc] at h
  exact h
 have HB0 : Hid (Below w.heap.size w ((w.alloc (.cells #[.slice e.b.va e.b.vs.length e.b.vc, .slice e.b.pa e.b.ps.length e.b.pc, .slice e.b.qa e.b.qs.length e.b.qc, .int .i64 e.b.cs, .int .i64 e.b.nx, .slice e.oa e.os.length e.oc] 35)).alloc (.cells #[.slice none 0 0, .slice none 0 0, .slice none 0 0, .int .i64 0, .int .i64 0, .slice none 0 0] 35))) := ((belowRefl w).alloc (Nat.le_refl _) _).alloc (by simp) _
 have Y0 : Hid (w.heap.size + 1 + 1 ≤ ((w.alloc (.cells #[.slice e.b.va e.b.vs.length e.b.vc, .slice e.b.pa e.b.ps.length e.b.pc, .slice e.b.qa e.b.qs.length e.b.qc, .int .i64 e.b.cs, .int .i64 e.b.nx, .slice e.oa e.os.length e.oc] 35)).alloc (.cells #[.slice none 0 0, .slice none 0 0, .slice none 0 0, .int .i64 0, .int .i64 0, .slice none 0 0] 35)).heap.size) := by show _ ≤ _; simp
 have HF : Hid (EnFit e) := hf
 obtain ⟨m, _, _, hpb, hpo⟩ := hp.ex
 have HPb : Hid (BLie w lo m e.b) := hpb
 have HPo : Hid (LLie w m hi (.slice e.oa e.os.length e.oc) e.os) := hpo
 clear hp hf hpb hpo
 have CB : Hid (∀ W : World, Below w.heap.size w W → Calls Tryz.prog 68 #[.agg #[.slice e.b.va e.b.vs.length e.b.vc, .slice e.b.pa e.b.ps.length e.b.pc, .slice e.b.qa e.b.qs.length e.b.qc, .int .i64 e.b.cs, .int .i64 e.b.nx]] W fun ex w' => ∃ c : Bb, ex = .returned (.agg #[.slice c.va c.vs.length c.vc, .slice c.pa c.ps.length c.pc, .slice c.qa c.qs.length c.qc, .int .i64 c.cs, .int .i64 c.nx]) ∧ BSame e.b c ∧ BLie w' W.heap.size w'.heap.size c ∧ Below W.heap.size W w') := fun W h => scopyB e.b lo m HF.out.b W (HPb.out.below h)
 have CO : Hid (∀ W : World, Below w.heap.size w W → Calls Tryz.prog 69 #[.slice e.oa e.os.length e.oc] W fun ex w' => ∃ (ys : List Ta) (a1 : Option Addr) (c1 : Nat), ex = .returned (.slice a1 e.os.length c1) ∧ txs ys = txs e.os ∧ ys.length = e.os.length ∧ LLie w' W.heap.size w'.heap.size (.slice a1 ys.length c1) ys ∧ Below W.heap.size W w') := fun W h => sTs e.os e.oa e.oc e.os.length m hi rfl (Nat.le_trans HF.out.ol (by omega)) HF.out.o W (HPo.out.below h)
 clear HPb HPo HF
 go_enter Tryz.func29, Tryz.ntmps29
 go_upto_region 1 with fail
 generalize ((w.alloc (.cells #[.slice e.b.va e.b.vs.length e.b.vc, .slice e.b.pa e.b.ps.length e.b.pc, .slice e.b.qa e.b.qs.length e.b.qc, .int .i64 e.b.cs, .int .i64 e.b.nx, .slice e.oa e.os.length e.oc] 35)).alloc (.cells #[.slice none 0 0, .slice none 0 0, .slice none 0 0, .int .i64 0, .int .i64 0, .slice none 0 0] 35)) = w0 at *
 refine wp_region_held_drew (S := fun w' => w'.cell? ⟨w.heap.size, 0, none⟩ = some (.slice e.b.va e.b.vs.length e.b.vc) ∧ w'.cell? ⟨w.heap.size, 1, none⟩ = some (.slice e.b.pa e.b.ps.length e.b.pc) ∧ w'.cell? ⟨w.heap.size, 2, none⟩ = some (.slice e.b.qa e.b.qs.length e.b.qc) ∧ w'.cell? ⟨w.heap.size, 3, none⟩ = some (.int .i64 e.b.cs) ∧ w'.cell? ⟨w.heap.size, 4, none⟩ = some (.int .i64 e.b.nx) ∧ w'.cell? ⟨w.heap.size, 5, none⟩ = some (.slice e.oa e.os.length e.oc)) (by kernel_rfl) ⟨BA0.out.c0, BA0.out.c1, BA0.out.c2, BA0.out.c3, BA0.out.c4, BA0.out.c5⟩ (fun hHeld => ?_)
 (refine tk 0 ?_ rfl (Or.inl ⟨by rfl, ?_⟩) ?_; rotate_left; (focus (intro w h; (try dsimp only at h); go_simp; (try with_reducible rfl))); simp only [Act.put, tA, tB, tD, tE, tF])
 (refine tk 1 ?_ rfl (Or.inl ⟨by rfl, ?_⟩) ?_; rotate_left; (focus (intro w h; (try dsimp only at h); go_simp; (try with_reducible rfl))); simp only [Act.put, tA, tB, tC, tD, tE, tF])
 (refine tk 3 ?_ rfl (Or.inl ⟨by rfl, ?_⟩) ?_; rotate_left; (focus (intro w h; (try dsimp only at h); go_simp; (try with_reducible rfl))); simp only [Act.put, tA, tB, tC, tD, tE, tF])
 (refine tk 4 ?_ rfl (Or.inl ⟨by rfl, ?_⟩) ?_; rotate_left; (focus (intro w h; (try dsimp only at h); go_simp; (try with_reducible rfl))); simp only [Act.put, tA, tB, tC, tD, tE, tF])
 refine wpAnyH_ready (rs := [2]) (by kernel_rfl) (by simp) ?_
 refine AllReadyH.cons rfl (fun K hK => ?_) AllReadyH.nil
 go_simp
 go_wp2_with fail
 refine (CB.out _ HB0.out.drew).mono ?_
 rintro ex w1 ⟨c, rfl, hsm, ho, hb9⟩
 have hb := undrew hb9
 have HB1 : Hid (Below w.heap.size w w1) := HB0.out.trans (hb.mono HB0.out.size)
 have BA1 : Hid (Bx w1 w.heap.size [.slice e.b.va e.b.vs.length e.b.vc, .slice e.b.pa e.b.ps.length e.b.pc, .slice e.b.qa e.b.qs.length e.b.qc, .int .i64 e.b.cs, .int .i64 e.b.nx, .slice e.oa e.os.length e.oc]) := BA0.out.below hb
 have BR1 : Hid (Bx w1 (w.heap.size + 1) [.slice none 0 0, .slice none 0 0, .slice none 0 0, .int .i64 0, .int .i64 0, .slice none 0 0]) := BR0.out.below hb
 have R1 : Hid (BLie w1 w0.heap.size w1.heap.size c) := ho
 have Y1 : Hid (w0.heap.size ≤ w1.heap.size) := hb.size
 have SM := hide hsm
 clear hb hb9 ho hsm HB0 BA0
 go_wp2_with fail
 refine hK.out _ _ ⟨BA1.out.c0, BA1.out.c1, BA1.out.c2, BA1.out.c3, BA1.out.c4, BA1.out.c5⟩ (fun hHeld1 => ?_)
 clear hK K
 refine wpAnyH_ready (rs := [5]) (by kernel_rfl) (by simp) ?_
 refine AllReadyH.cons rfl (fun K hK => ?_) AllReadyH.nil
 go_simp
 go_wp2_with fail
 refine (CO.out _ HB1.out).mono ?_
 rintro ex w2 ⟨ys, oa1, oc1, rfl, ht, hl, ho, hb⟩
 have HB2 : Hid (Below w.heap.size w w2) := HB1.out.trans (hb.mono HB1.out.size)
 have BA2 : Hid (Bx w2 w.heap.size [.slice e.b.va e.b.vs.length e.b.vc, .slice e.b.pa e.b.ps.length e.b.pc, .slice e.b.qa e.b.qs.length e.b.qc, .int .i64 e.b.cs, .int .i64 e.b.nx, .slice e.oa e.os.length e.oc]) := BA1.out.below hb
 have BR2 : Hid (Bx w2 (w.heap.size + 1) [.slice none 0 0, .slice none 0 0, .slice none 0 0, .int .i64 0, .int .i64 0, .slice none 0 0]) := BR1.out.below hb
 replace R1 : Hid (BLie w2 w0.heap.size w1.heap.size c) := R1.out.below hb
 have R2 : Hid (LLie w2 w1.heap.size w2.heap.size (.slice oa1 ys.length oc1) ys) := ho
 have Y2 : Hid (w1.heap.size ≤ w2.heap.size) := hb.size
 have HT := hide ht
 have HL := hide hl
 clear hb ho ht hl HB1 BA1
 go_wp2_with fail
 refine hK.out _ _ ⟨BA2.out.c0, BA2.out.c1, BA2.out.c2, BA2.out.c3, BA2.out.c4, BA2.out.c5⟩ (fun hHeld2 => ?_)
 clear hK K
 (refine tk 6 ?_ rfl (Or.inl ⟨by rfl, ?_⟩) ?_; rotate_left; (focus (intro w h; (try dsimp only at h); go_simp; (try with_reducible rfl))); simp only [Act.put, tA, tB, tC, tD, tE, tF])
 refine wpAnyH_ready (rs := [7]) (by kernel_rfl) (by simp) ?_
 refine AllReadyH.cons rfl (fun K hK => ?_) AllReadyH.nil
 have q0 := BR2.out.c0
 have fq0 := BR2.out.fz 0
 have q1 := BR2.out.c1
 have fq1 := BR2.out.fz 1
 have q2 := BR2.out.c2
 have fq2 := BR2.out.fz 2
 have q3 := BR2.out.c3
 have fq3 := BR2.out.fz 3
 have q4 := BR2.out.c4
 have fq4 := BR2.out.fz 4
 have q5 := BR2.out.c5
 have fq5 := BR2.out.fz 5
 go_simp
 have HB3 : Hid (Below w.heap.size w ((((((w2.setCell ⟨w.heap.size + 1, 0, none⟩ (.slice c.va c.vs.length c.vc)).setCell ⟨w.heap.size + 1, 1, none⟩ (.slice c.pa c.ps.length c.pc)).setCell ⟨w.heap.size + 1, 2, none⟩ (.slice c.qa c.qs.length c.qc)).setCell ⟨w.heap.size + 1, 3, none⟩ (.int .i64 c.cs)).setCell ⟨w.heap.size + 1, 4, none⟩ (.int .i64 c.nx)).setCell ⟨w.heap.size + 1, 5, none⟩ (.slice oa1 e.os.length oc1))) := (((((HB2.out.setCell (p := ⟨w.heap.size + 1, 0, none⟩) (by show _ ≤ _ + 1; omega) _).setCell (p := ⟨w.heap.size + 1, 1, none⟩) (by show _ ≤ _ + 1; omega) _).setCell (p := ⟨w.heap.size + 1, 2, none⟩) (by show _ ≤ _ + 1; omega) _).setCell (p := ⟨w.heap.size + 1, 3, none⟩) (by show _ ≤ _ + 1; omega) _).setCell (p := ⟨w.heap.size + 1, 4, none⟩) (by show _ ≤ _ + 1; omega) _).setCell (p := ⟨w.heap.size + 1, 5, none⟩) (by show _ ≤ _ + 1; omega) _
 have BA3 : Hid (Bx ((((((w2.setCell ⟨w.heap.size + 1, 0, none⟩ (.slice c.va c.vs.length c.vc)).setCell ⟨w.heap.size + 1, 1, none⟩ (.slice c.pa c.ps.length c.pc)).setCell ⟨w.heap.size + 1, 2, none⟩ (.slice c.qa c.qs.length c.qc)).setCell ⟨w.heap.size + 1, 3, none⟩ (.int .i64 c.cs)).setCell ⟨w.heap.size + 1, 4, none⟩ (.int .i64 c.nx)).setCell ⟨w.heap.size + 1, 5, none⟩ (.slice oa1 e.os.length oc1)) w.heap.size [.slice e.b.va e.b.vs.length e.b.vc, .slice e.b.pa e.b.ps.length e.b.pc, .slice e.b.qa e.b.qs.length e.b.qc, .int .i64 e.b.cs, .int .i64 e.b.nx, .slice e.oa e.os.length e.oc]) := (((((BA2.out.setO (p := ⟨w.heap.size + 1, 0, none⟩) (by show w.heap.size + 1 ≠ w.heap.size; omega) _).setO (p := ⟨w.heap.size + 1, 1, none⟩) (by show w.heap.size + 1 ≠ w.heap.size; omega) _).setO (p := ⟨w.heap.size + 1, 2, none⟩) (by show w.heap.size + 1 ≠ w.heap.size; omega) _).setO (p := ⟨w.heap.size + 1, 3, none⟩) (by show w.heap.size + 1 ≠ w.heap.size; omega) _).setO (p := ⟨w.heap.size + 1, 4, none⟩) (by show w.heap.size + 1 ≠ w.heap.size; omega) _).setO (p := ⟨w.heap.size + 1, 5, none⟩) (by show w.heap.size + 1 ≠ w.heap.size; omega) _
 have BR3 : Hid (Bx ((((((w2.setCell ⟨w.heap.size + 1, 0, none⟩ (.slice c.va c.vs.length c.vc)).setCell ⟨w.heap.size + 1, 1, none⟩ (.slice c.pa c.ps.length c.pc)).setCell ⟨w.heap.size + 1, 2, none⟩ (.slice c.qa c.qs.length c.qc)).setCell ⟨w.heap.size + 1, 3, none⟩ (.int .i64 c.cs)).setCell ⟨w.heap.size + 1, 4, none⟩ (.int .i64 c.nx)).setCell ⟨w.heap.size + 1, 5, none⟩ (.slice oa1 e.os.length oc1)) (w.heap.size + 1) [.slice c.va c.vs.length c.vc, .slice c.pa c.ps.length c.pc, .slice c.qa c.qs.length c.qc, .int .i64 c.cs, .int .i64 c.nx, .slice oa1 e.os.length oc1]) := (((((BR2.out.set 0 _).set 1 _).set 2 _).set 3 _).set 4 _).set 5 _
 have hy0 := Y0.out
 have hy1 := Y1.out
 have hy2 := Y2.out
 replace R1 : Hid (BLie ((((((w2.setCell ⟨w.heap.size + 1, 0, none⟩ (.slice c.va c.vs.length c.vc)).setCell ⟨w.heap.size + 1, 1, none⟩ (.slice c.pa c.ps.length c.pc)).setCell ⟨w.heap.size + 1, 2, none⟩ (.slice c.qa c.qs.length c.qc)).setCell ⟨w.heap.size + 1, 3, none⟩ (.int .i64 c.cs)).setCell ⟨w.heap.size + 1, 4, none⟩ (.int .i64 c.nx)).setCell ⟨w.heap.size + 1, 5, none⟩ (.slice oa1 e.os.length oc1)) w0.heap.size w1.heap.size c) := (((((R1.out.set (a := ⟨w.heap.size + 1, 0, none⟩) (by show w.heap.size + 1 < _; omega) _).set (a := ⟨w.heap.size + 1, 1, none⟩) (by show w.heap.size + 1 < _; omega) _).set (a := ⟨w.heap.size + 1, 2, none⟩) (by show w.heap.size + 1 < _; omega) _).set (a := ⟨w.heap.size + 1, 3, none⟩) (by show w.heap.size + 1 < _; omega) _).set (a := ⟨w.heap.size + 1, 4, none⟩) (by show w.heap.size + 1 < _; omega) _).set (a := ⟨w.heap.size + 1, 5, none⟩) (by show w.heap.size + 1 < _; omega) _
 replace R2 : Hid (LLie ((((((w2.setCell ⟨w.heap.size + 1, 0, none⟩ (.slice c.va c.vs.length c.vc)).setCell ⟨w.heap.size + 1, 1, none⟩ (.slice c.pa c.ps.length c.pc)).setCell ⟨w.heap.size + 1, 2, none⟩ (.slice c.qa c.qs.length c.qc)).setCell ⟨w.heap.size + 1, 3, none⟩ (.int .i64 c.cs)).setCell ⟨w.heap.size + 1, 4, none⟩ (.int .i64 c.nx)).setCell ⟨w.heap.size + 1, 5, none⟩ (.slice oa1 e.os.length oc1)) w1.heap.size w2.heap.size (.slice oa1 ys.length oc1) ys) := (((((R2.out.set (a := ⟨w.heap.size + 1, 0, none⟩) (by show w.heap.size + 1 < _; omega) _).set (a := ⟨w.heap.size + 1, 1, none⟩) (by show w.heap.size + 1 < _; omega) _).set (a := ⟨w.heap.size + 1, 2, none⟩) (by show w.heap.size + 1 < _; omega) _).set (a := ⟨w.heap.size + 1, 3, none⟩) (by show w.heap.size + 1 < _; omega) _).set (a := ⟨w.heap.size + 1, 4, none⟩) (by show w.heap.size + 1 < _; omega) _).set (a := ⟨w.heap.size + 1, 5, none⟩) (by show w.heap.size + 1 < _; omega) _
 have Y3 : Hid (w2.heap.size ≤ ((((((w2.setCell ⟨w.heap.size + 1, 0, none⟩ (.slice c.va c.vs.length c.vc)).setCell ⟨w.heap.size + 1, 1, none⟩ (.slice c.pa c.ps.length c.pc)).setCell ⟨w.heap.size + 1, 2, none⟩ (.slice c.qa c.qs.length c.qc)).setCell ⟨w.heap.size + 1, 3, none⟩ (.int .i64 c.cs)).setCell ⟨w.heap.size + 1, 4, none⟩ (.int .i64 c.nx)).setCell ⟨w.heap.size + 1, 5, none⟩ (.slice oa1 e.os.length oc1)).heap.size) := by show _ ≤ _; simp [World.setCell]
 clear q0 fq0 q1 fq1 q2 fq2 q3 fq3 q4 fq4 q5 fq5
 clear HB2 BA2 BR2
 generalize ((((((w2.setCell ⟨w.heap.size + 1, 0, none⟩ (.slice c.va c.vs.length c.vc)).setCell ⟨w.heap.size + 1, 1, none⟩ (.slice c.pa c.ps.length c.pc)).setCell ⟨w.heap.size + 1, 2, none⟩ (.slice c.qa c.qs.length c.qc)).setCell ⟨w.heap.size + 1, 3, none⟩ (.int .i64 c.cs)).setCell ⟨w.heap.size + 1, 4, none⟩ (.int .i64 c.nx)).setCell ⟨w.heap.size + 1, 5, none⟩ (.slice oa1 e.os.length oc1)) = w3 at *
 refine hK.out _ _ ⟨BA3.out.c0, BA3.out.c1, BA3.out.c2, BA3.out.c3, BA3.out.c4, BA3.out.c5⟩ (fun hHeld3 => ?_)
 clear hK K
 refine wpAnyH_done (by kernel_rfl) ?_ _
 have q0 := BR3.out.c0
 have q1 := BR3.out.c1
 have q2 := BR3.out.c2
 have q3 := BR3.out.c3
 have q4 := BR3.out.c4
 have q5 := BR3.out.c5
 go_wp2
 refine bodyPost_ret (v := .agg #[.slice c.va c.vs.length c.vc, .slice c.pa c.ps.length c.pc, .slice c.qa c.qs.length c.qc, .int .i64 c.cs, .int .i64 c.nx, .slice oa1 e.os.length oc1]) (by simp [results, Tryz.results29, go_sem, q0, q1, q2, q3, q4, q5]) rfl ⟨⟨c, ys, oa1, oc1⟩, by rw [← HL.out], ⟨SM.out, HT.out⟩, ⟨w1.heap.size, by omega, by have := Y3.out; omega, R1.out.mono (by omega) (Nat.le_refl _), R2.out.mono (Nat.le_refl _) Y3.out⟩, HB3.out⟩

end Go.Proofs.YtjeicgibddfifaaGreat

/- PutKey, by the document. -/
import Derived.Test.YtjeicgibddfifaaGreatPc01
import Derived.Test.YtjeicgibddfifaaGreatPc29
import Derived.Test.YtjeicgibddfifaaGreatPc30
import Derived.Test.YtjeicgibddfifaaGreatPc21
import Derived.Test.YtjeicgibddfifaaGreatPc22
import Derived.Test.YtjeicgibddfifaaGreatPc31
import Derived.Deep.RegionHeld3
import Derived.Deep.Cut
import Derived.Deep.CutRange
import Derived.Laws.EntriesVeiled
namespace Go.Proofs.YtjeicgibddfifaaGreat
open Go.RowKit
open KM
attribute [local go_sem ↓] Go.wp_at_zero Go.wp_at_succ

theorem Zs.nth {w : World} {v : Value} : ∀ {ys : List Ta} {lo hi : Nat}, Zs w v lo hi ys → ∀ (k : Nat) (hk : k < ys.length), ∃ p q, TLie w p q (ys[k]'hk).t (ys[k]'hk).ra (ys[k]'hk).rc (ys[k]'hk).wa (ys[k]'hk).wc
 | _ :: _, _, _, ⟨p, q, _, _, h3, _, _⟩, 0, _ => ⟨p, q, h3⟩
 | _ :: _, _, _, ⟨_, _, _, _, _, _, h5⟩, k + 1, hk => h5.nth k (Nat.lt_of_succ_lt_succ hk)

set_option maxRecDepth 100000 in
set_option maxHeartbeats 16000000 in
theorem sputk (e : En) (lo hi : Nat) (hf : EnFit e) (i : Int) (x : Wt) (hx : x.1.size ≤ 1048576 ∧ x.2.1.size ≤ 1048576) (w : World) (hp : EnLie w lo hi e) :
  Calls Tryz.prog 16 #[.agg #[.slice e.b.va e.b.vs.length e.b.vc, .slice e.b.pa e.b.ps.length e.b.pc, .slice e.b.qa e.b.qs.length e.b.qc, .int .i64 e.b.cs, .int .i64 e.b.nx, .slice e.oa e.os.length e.oc], .int .i64 i, .agg #[.string x.1, .string x.2.1, .bool x.2.2]] w fun ex w' => ∃ d : En, ex = .returned (.tuple #[.agg #[.slice d.b.va d.b.vs.length d.b.vc, .slice d.b.pa d.b.ps.length d.b.pc, .slice d.b.qa d.b.qs.length d.b.qc, .int .i64 d.b.cs, .int .i64 d.b.nx, .slice d.oa d.os.length d.oc], .int .i64 (pkCode e i x)]) ∧ EnSame (pkE e i x) d ∧ EnLq w' w.heap.size w'.heap.size d ∧ Below w.heap.size w w' := by
 have BA0 : Hid (Bx (((w.alloc (.cells #[.slice e.b.va e.b.vs.length e.b.vc, .slice e.b.pa e.b.ps.length e.b.pc, .slice e.b.qa e.b.qs.length e.b.qc, .int .i64 e.b.cs, .int .i64 e.b.nx, .slice e.oa e.os.length e.oc] 35)).alloc (.cells #[.string x.1, .string x.2.1, .bool x.2.2] 47)).alloc (.cells #[.slice none 0 0, .slice none 0 0, .slice none 0 0, .int .i64 0, .int .i64 0, .slice none 0 0] 35)) w.heap.size [.slice e.b.va e.b.vs.length e.b.vc, .slice e.b.pa e.b.ps.length e.b.pc, .slice e.b.qa e.b.qs.length e.b.qc, .int .i64 e.b.cs, .int .i64 e.b.nx, .slice e.oa e.os.length e.oc]) := ((Bx.new w [.slice e.b.va e.b.vs.length e.b.vc, .slice e.b.pa e.b.ps.length e.b.pc, .slice e.b.qa e.b.qs.length e.b.qc, .int .i64 e.b.cs, .int .i64 e.b.nx, .slice e.oa e.os.length e.oc] 35).alloc _).alloc _
 have BX0 : Hid (Bx (((w.alloc (.cells #[.slice e.b.va e.b.vs.length e.b.vc, .slice e.b.pa e.b.ps.length e.b.pc, .slice e.b.qa e.b.qs.length e.b.qc, .int .i64 e.b.cs, .int .i64 e.b.nx, .slice e.oa e.os.length e.oc] 35)).alloc (.cells #[.string x.1, .string x.2.1, .bool x.2.2] 47)).alloc (.cells #[.slice none 0 0, .slice none 0 0, .slice none 0 0, .int .i64 0, .int .i64 0, .slice none 0 0] 35)) (w.heap.size + 1) [.string x.1, .string x.2.1, .bool x.2.2]) := by
  have h := (Bx.new (w.alloc (.cells #[.slice e.b.va e.b.vs.length e.b.vc, .slice e.b.pa e.b.ps.length e.b.pc, .slice e.b.qa e.b.qs.length e.b.qc, .int .i64 e.b.cs, .int .i64 e.b.nx, .slice e.oa e.os.length e.oc] 35)) [.string x.1, .string x.2.1, .bool x.2.2] 47).alloc (.cells #[.slice none 0 0, .slice none 0 0, .slice none 0 0, .int .i64 0, .int .i64 0, .slice none 0 0] 35)
  rw [World.size_alloc] at h
  exact h
 have BR0 : Hid (Bx (((w.alloc (.cells #[.slice e.b.va e.b.vs.length e.b.vc, .slice e.b.pa e.b.ps.length e.b.pc, .slice e.b.qa e.b.qs.length e.b.qc, .int .i64 e.b.cs, .int .i64 e.b.nx, .slice e.oa e.os.length e.oc] 35)).alloc (.cells #[.string x.1, .string x.2.1, .bool x.2.2] 47)).alloc (.cells #[.slice none 0 0, .slice none 0 0, .slice none 0 0, .int .i64 0, .int .i64 0, .slice none 0 0] 35)) (w.heap.size + 1 + 1) [.slice none 0 0, .slice none 0 0, .slice none 0 0, .int .i64 0, .int .i64 0, .slice none 0 0]) := by
  have h := Bx.new ((w.alloc (.cells #[.slice e.b.va e.b.vs.length e.b.vc, .slice e.b.pa e.b.ps.length e.b.pc, .slice e.b.qa e.b.qs.length e.b.qc, .int .i64 e.b.cs, .int .i64 e.b.nx, .slice e.oa e.os.length e.oc] 35)).alloc (.cells #[.string x.1, .string x.2.1, .bool x.2.2] 47)) [.slice none 0 0, .slice none 0 0, .slice none 0 0, .int .i64 0, .int .i64 0, .slice none 0 0] 35
  rw [World.size_alloc, World.size_alloc] at h
  exact h
 have HB0 : Hid (Below w.heap.size w (((w.alloc (.cells #[.slice e.b.va e.b.vs.length e.b.vc, .slice e.b.pa e.b.ps.length e.b.pc, .slice e.b.qa e.b.qs.length e.b.qc, .int .i64 e.b.cs, .int .i64 e.b.nx, .slice e.oa e.os.length e.oc] 35)).alloc (.cells #[.string x.1, .string x.2.1, .bool x.2.2] 47)).alloc (.cells #[.slice none 0 0, .slice none 0 0, .slice none 0 0, .int .i64 0, .int .i64 0, .slice none 0 0] 35))) := (((belowRefl w).alloc (Nat.le_refl _) _).alloc (by simp) _).alloc (by simp; omega) _
 have Y0 : Hid (w.heap.size + 1 + 1 + 1 ≤ (((w.alloc (.cells #[.slice e.b.va e.b.vs.length e.b.vc, .slice e.b.pa e.b.ps.length e.b.pc, .slice e.b.qa e.b.qs.length e.b.qc, .int .i64 e.b.cs, .int .i64 e.b.nx, .slice e.oa e.os.length e.oc] 35)).alloc (.cells #[.string x.1, .string x.2.1, .bool x.2.2] 47)).alloc (.cells #[.slice none 0 0, .slice none 0 0, .slice none 0 0, .int .i64 0, .int .i64 0, .slice none 0 0] 35)).heap.size) := by show _ ≤ _; simp
 have HP : Hid (EnLie w lo hi e) := hp
 have HF : Hid (EnFit e) := hf
 have hln0 : e.os.length ≤ 1048576 := hf.ol
 clear hp hf
 have CC : Hid (∀ W : World, Below w.heap.size w W → Calls Tryz.prog 29 #[.agg #[.slice e.b.va e.b.vs.length e.b.vc, .slice e.b.pa e.b.ps.length e.b.pc, .slice e.b.qa e.b.qs.length e.b.qc, .int .i64 e.b.cs, .int .i64 e.b.nx, .slice e.oa e.os.length e.oc]] W fun ex w' => ∃ c : En, ex = .returned (.agg #[.slice c.b.va c.b.vs.length c.b.vc, .slice c.b.pa c.b.ps.length c.b.pc, .slice c.b.qa c.b.qs.length c.b.qc, .int .i64 c.b.cs, .int .i64 c.b.nx, .slice c.oa c.os.length c.oc]) ∧ EnSame e c ∧ EnLie w' W.heap.size w'.heap.size c ∧ Below W.heap.size W w') := fun W h => scopyE e lo hi HF.out W (HP.out.below h)
 have CO : Hid (∀ W : World, Below w.heap.size w W → Calls Tryz.prog 37 #[.agg #[.slice e.b.va e.b.vs.length e.b.vc, .slice e.b.pa e.b.ps.length e.b.pc, .slice e.b.qa e.b.qs.length e.b.qc, .int .i64 e.b.cs, .int .i64 e.b.nx, .slice e.oa e.os.length e.oc], .int .i64 i] W fun ex w' => ex = .returned (.int .i64 (idxZ (ids e.os) i 0)) ∧ Below W.heap.size W w') := fun W h => sopenat e i (Nat.le_trans hln0 (by omega)) W (HP.out.rows.below h).o
 have CW : Hid (∀ W : World, Calls Tryz.prog 38 #[.agg #[.string x.1, .string x.2.1, .bool x.2.2]] W fun e w' => e = .returned (.bool (writeB x)) ∧ Below W.heap.size W w') := fun W => swrite x.1 x.2.1 x.2.2 hx.1 W
 have hnn := idxz_lt (ids e.os) i 0
 have HNO := hide (fun h => pk_no (c := e) (i := i) x h)
 have HAT := hide (fun k hk h => pk_at (c := e) (i := i) x (k := k) hk h)
 obtain ⟨r, hr⟩ : ∃ r, r = idxZ (ids e.os) i 0 := ⟨_, rfl⟩
 rw [← hr] at CO hnn HNO HAT
 clear hr
 have HNN := hide hnn
 clear hnn
 go_enter Tryz.func16, Tryz.ntmps16
 go_upto_region 1 with fail
 generalize (((w.alloc (.cells #[.slice e.b.va e.b.vs.length e.b.vc, .slice e.b.pa e.b.ps.length e.b.pc, .slice e.b.qa e.b.qs.length e.b.qc, .int .i64 e.b.cs, .int .i64 e.b.nx, .slice e.oa e.os.length e.oc] 35)).alloc (.cells #[.string x.1, .string x.2.1, .bool x.2.2] 47)).alloc (.cells #[.slice none 0 0, .slice none 0 0, .slice none 0 0, .int .i64 0, .int .i64 0, .slice none 0 0] 35)) = w0 at *
 have x0 := BA0.out.c0
 have x1 := BA0.out.c1
 have x2 := BA0.out.c2
 have x3 := BA0.out.c3
 have x4 := BA0.out.c4
 have x5 := BA0.out.c5
 go_wp2_with fail
 refine (CC.out _ HB0.out).mono ?_
 rintro ex w1 ⟨c, rfl, hsm, hl, hb⟩
 have HB1 : Hid (Below w.heap.size w w1) := HB0.out.trans (hb.mono HB0.out.size)
 have BA1 : Hid (Bx w1 w.heap.size [.slice e.b.va e.b.vs.length e.b.vc, .slice e.b.pa e.b.ps.length e.b.pc, .slice e.b.qa e.b.qs.length e.b.qc, .int .i64 e.b.cs, .int .i64 e.b.nx, .slice e.oa e.os.length e.oc]) := BA0.out.below hb
 have BX1 : Hid (Bx w1 (w.heap.size + 1) [.string x.1, .string x.2.1, .bool x.2.2]) := BX0.out.below hb
 have BR1 : Hid (Bx w1 (w.heap.size + 1 + 1) [.slice none 0 0, .slice none 0 0, .slice none 0 0, .int .i64 0, .int .i64 0, .slice none 0 0]) := BR0.out.below hb
 have Y1 : Hid (w0.heap.size ≤ w1.heap.size) := hb.size
 obtain ⟨m, hlx⟩ := hl.lx
 have SM := hide hsm
 have LX1 := hide hlx
 clear hb hl hlx hsm BA0 BX0 BR0 HB0 CC
 clear x0 x1 x2 x3 x4 x5
 have hba : Below w1.heap.size w1 (w1.alloc (.cells #[.slice c.b.va c.b.vs.length c.b.vc, .slice c.b.pa c.b.ps.length c.b.pc, .slice c.b.qa c.b.qs.length c.b.qc, .int .i64 c.b.cs, .int .i64 c.b.nx, .slice c.oa c.os.length c.oc] 35)) := (belowRefl w1).alloc (Nat.le_refl _) _
 replace HB1 : Hid (Below w.heap.size w (w1.alloc (.cells #[.slice c.b.va c.b.vs.length c.b.vc, .slice c.b.pa c.b.ps.length c.b.pc, .slice c.b.qa c.b.qs.length c.b.qc, .int .i64 c.b.cs, .int .i64 c.b.nx, .slice c.oa c.os.length c.oc] 35))) := HB1.out.trans (hba.mono HB1.out.size)
 replace BA1 : Hid (Bx (w1.alloc (.cells #[.slice c.b.va c.b.vs.length c.b.vc, .slice c.b.pa c.b.ps.length c.b.pc, .slice c.b.qa c.b.qs.length c.b.qc, .int .i64 c.b.cs, .int .i64 c.b.nx, .slice c.oa c.os.length c.oc] 35)) w.heap.size [.slice e.b.va e.b.vs.length e.b.vc, .slice e.b.pa e.b.ps.length e.b.pc, .slice e.b.qa e.b.qs.length e.b.qc, .int .i64 e.b.cs, .int .i64 e.b.nx, .slice e.oa e.os.length e.oc]) := BA1.out.below hba
 replace BX1 : Hid (Bx (w1.alloc (.cells #[.slice c.b.va c.b.vs.length c.b.vc, .slice c.b.pa c.b.ps.length c.b.pc, .slice c.b.qa c.b.qs.length c.b.qc, .int .i64 c.b.cs, .int .i64 c.b.nx, .slice c.oa c.os.length c.oc] 35)) (w.heap.size + 1) [.string x.1, .string x.2.1, .bool x.2.2]) := BX1.out.below hba
 replace BR1 : Hid (Bx (w1.alloc (.cells #[.slice c.b.va c.b.vs.length c.b.vc, .slice c.b.pa c.b.ps.length c.b.pc, .slice c.b.qa c.b.qs.length c.b.qc, .int .i64 c.b.cs, .int .i64 c.b.nx, .slice c.oa c.os.length c.oc] 35)) (w.heap.size + 1 + 1) [.slice none 0 0, .slice none 0 0, .slice none 0 0, .int .i64 0, .int .i64 0, .slice none 0 0]) := BR1.out.below hba
 replace LX1 : Hid (EnLx (w1.alloc (.cells #[.slice c.b.va c.b.vs.length c.b.vc, .slice c.b.pa c.b.ps.length c.b.pc, .slice c.b.qa c.b.qs.length c.b.qc, .int .i64 c.b.cs, .int .i64 c.b.nx, .slice c.oa c.os.length c.oc] 35)) w0.heap.size m w1.heap.size w1.heap.size w1.heap.size c) := LX1.out.below hba
 have BC1 : Hid (Bx (w1.alloc (.cells #[.slice c.b.va c.b.vs.length c.b.vc, .slice c.b.pa c.b.ps.length c.b.pc, .slice c.b.qa c.b.qs.length c.b.qc, .int .i64 c.b.cs, .int .i64 c.b.nx, .slice c.oa c.os.length c.oc] 35)) w1.heap.size [.slice c.b.va c.b.vs.length c.b.vc, .slice c.b.pa c.b.ps.length c.b.pc, .slice c.b.qa c.b.qs.length c.b.qc, .int .i64 c.b.cs, .int .i64 c.b.nx, .slice c.oa c.os.length c.oc]) := Bx.new w1 [.slice c.b.va c.b.vs.length c.b.vc, .slice c.b.pa c.b.ps.length c.b.pc, .slice c.b.qa c.b.qs.length c.b.qc, .int .i64 c.b.cs, .int .i64 c.b.nx, .slice c.oa c.os.length c.oc] 35
 clear hba
 go_upto_region 2 with fail
 generalize (w1.alloc (.cells #[.slice c.b.va c.b.vs.length c.b.vc, .slice c.b.pa c.b.ps.length c.b.pc, .slice c.b.qa c.b.qs.length c.b.qc, .int .i64 c.b.cs, .int .i64 c.b.nx, .slice c.oa c.os.length c.oc] 35)) = w1b at *
 obtain ⟨g, hg⟩ : ∃ g, g = w1.heap.size := ⟨_, rfl⟩
 rw [← hg] at Y1 LX1 BC1
 rw [← hg]
 clear hg
 have x0 := BA1.out.c0
 have x1 := BA1.out.c1
 have x2 := BA1.out.c2
 have x3 := BA1.out.c3
 have x4 := BA1.out.c4
 have x5 := BA1.out.c5
 go_wp2_with fail
 refine (CO.out _ HB1.out).mono ?_
 rintro ex w2 ⟨rfl, hb⟩
 have HB : Hid (Below w.heap.size w w2) := HB1.out.trans (hb.mono HB1.out.size)
 have BA : Hid (Bx w2 w.heap.size [.slice e.b.va e.b.vs.length e.b.vc, .slice e.b.pa e.b.ps.length e.b.pc, .slice e.b.qa e.b.qs.length e.b.qc, .int .i64 e.b.cs, .int .i64 e.b.nx, .slice e.oa e.os.length e.oc]) := BA1.out.below hb
 have BX : Hid (Bx w2 (w.heap.size + 1) [.string x.1, .string x.2.1, .bool x.2.2]) := BX1.out.below hb
 have BR : Hid (Bx w2 (w.heap.size + 1 + 1) [.slice none 0 0, .slice none 0 0, .slice none 0 0, .int .i64 0, .int .i64 0, .slice none 0 0]) := BR1.out.below hb
 have BC : Hid (Bx w2 g [.slice c.b.va c.b.vs.length c.b.vc, .slice c.b.pa c.b.ps.length c.b.pc, .slice c.b.qa c.b.qs.length c.b.qc, .int .i64 c.b.cs, .int .i64 c.b.nx, .slice c.oa c.os.length c.oc]) := BC1.out.below hb
 have LX : Hid (EnLx w2 w0.heap.size m g g g c) := LX1.out.below hb
 clear hb HB1 BA1 BX1 BR1 BC1 LX1 CO
 clear x0 x1 x2 x3 x4 x5
 have hy0 := Y0.out
 have hy1 := Y1.out
 have HGW : Hid (g < w2.heap.size) := BC.out.lt
 have hrb : w.heap.size + 1 + 1 < w0.heap.size := by omega
 have hwr : w.heap.size ≤ w.heap.size + 1 + 1 := by omega
 have hmg := LX.out.mg
 have hlm := LX.out.lm
 rcases HNN.out with hi_ | ⟨k, hi_, _, hk⟩
 ·have hno := HNO.out hi_
  have HC := hide hno.1
  have HSM := hide (hno.2.trans SM.out)
  clear hno HNO HAT HNN
  subst hi_
  have x0 := BC.out.c0
  have x1 := BC.out.c1
  have x2 := BC.out.c2
  have x3 := BC.out.c3
  have x4 := BC.out.c4
  have x5 := BC.out.c5
  have q0 := BR.out.c0
  have fq0 := BR.out.fz 0
  have q1 := BR.out.c1
  have fq1 := BR.out.fz 1
  have q2 := BR.out.c2
  have fq2 := BR.out.fz 2
  have q3 := BR.out.c3
  have fq3 := BR.out.fz 3
  have q4 := BR.out.c4
  have fq4 := BR.out.fz 4
  have q5 := BR.out.c5
  have fq5 := BR.out.fz 5
  go_wp2
  refine bodyPost_ret (v := .tuple #[.agg #[.slice c.b.va c.b.vs.length c.b.vc, .slice c.b.pa c.b.ps.length c.b.pc, .slice c.b.qa c.b.qs.length c.b.qc, .int .i64 c.b.cs, .int .i64 c.b.nx, .slice c.oa c.os.length c.oc], .int .i64 1]) (by simp [results, Tryz.results16, go_sem, q0, q1, q2, q3, q4, q5]) rfl ⟨c, by rw [HC.out], HSM.out, ?_, ?_⟩
  ·exact (((((((LX.out.q0 g (Nat.le_refl _)).setr (a := ⟨w.heap.size + 1 + 1, 0, none⟩) (Or.inl hrb) _).setr (a := ⟨w.heap.size + 1 + 1, 1, none⟩) (Or.inl hrb) _).setr (a := ⟨w.heap.size + 1 + 1, 2, none⟩) (Or.inl hrb) _).setr (a := ⟨w.heap.size + 1 + 1, 3, none⟩) (Or.inl hrb) _).setr (a := ⟨w.heap.size + 1 + 1, 4, none⟩) (Or.inl hrb) _).setr (a := ⟨w.heap.size + 1 + 1, 5, none⟩) (Or.inl hrb) _).lq (by omega) (le_set (le_set (le_set (le_set (le_set (le_set (Nat.le_of_lt HGW.out) _ _) _ _) _ _) _ _) _ _) _ _)
  ·exact (((((HB.out.setCell (p := ⟨w.heap.size + 1 + 1, 0, none⟩) hwr _).setCell (p := ⟨w.heap.size + 1 + 1, 1, none⟩) hwr _).setCell (p := ⟨w.heap.size + 1 + 1, 2, none⟩) hwr _).setCell (p := ⟨w.heap.size + 1 + 1, 3, none⟩) hwr _).setCell (p := ⟨w.heap.size + 1 + 1, 4, none⟩) hwr _).setCell (p := ⟨w.heap.size + 1 + 1, 5, none⟩) hwr _
 ·have hk : k < e.os.length := by rw [ids_len] at hk; omega
  have hat := HAT.out k hk hi_
  have HC0 := hide hat.1
  have HTX := hide hat.2
  subst hi_
  clear hat HAT HNO HNN
  have hk0 : (0 : Int) ≤ (k : Int) := by omega
  have hkn : ¬ (k : Int) < 0 := by omega
  have hkl : (k : Int) < (e.os.length : Int) := by omega
  have HKC : Hid (k < c.os.length) := by show _ < _; rw [SM.out.ol]; exact hk
  have hkc : (k : Int) < (c.os.length : Int) := by have := HKC.out; omega
  obtain ⟨bc, hbc, _, _⟩ := own_form LX.out.o.own (by omega)
  have HBC := hide hbc
  obtain ⟨me, hle⟩ := HP.out.lx
  obtain ⟨be, hbe, _, _⟩ := own_form hle.o.own (by omega)
  obtain ⟨pt, qt, htl⟩ := hle.z.nth k hk
  have HFT : Hid (TFit e.os[k].t) := HF.out.o.2 _ (List.mem_map.2 ⟨_, List.getElem_mem hk, rfl⟩)
  have HTL := hide htl
  have HID : Hid (txs e.os = (txs e.os).set k e.os[k].t) := by
   show _ = _
   have hk2 : k < (txs e.os).length := by rw [txs_len]; exact hk
   have e1 : (txs e.os)[k]'hk2 = e.os[k].t := List.getElem_map (fun y : Ta => y.t)
   have e2 : (txs e.os).set k ((txs e.os)[k]'hk2) = txs e.os := List.set_getElem_self hk2
   rw [e1] at e2
   exact e2.symm
  have HCE : Hid (∀ W : World, Below w.heap.size w W → Cls W be (k * 8) e.os[k]) := fun W h => by
   obtain ⟨b0, o, ha, _, hc, -⟩ := (HP.out.below h).rows.o.cls k hk
   rw [hbe] at ha
   cases ha
   rw [Nat.zero_add] at hc
   exact hc
  have HCL : Hid (∀ W : World, EnLx W w0.heap.size m g g g c → Cls W bc (k * 8) (c.os[k]'HKC.out)) := fun W h => by
   obtain ⟨b0, o, ha, _, hc, -⟩ := h.rows.o.cls k HKC.out
   rw [hbc] at ha
   cases ha
   rw [Nat.zero_add] at hc
   exact hc
  obtain ⟨yc, hyc⟩ : ∃ yc, yc = c.os[k]'HKC.out := ⟨_, rfl⟩
  rw [← hyc] at HCL
  obtain ⟨y, hy⟩ : ∃ y, y = e.os[k]'hk := ⟨_, rfl⟩
  rw [← hy] at HFT HTL HID HCE HC0 HTX
  have HBE := hide hbe
  clear hyc hy hbc hbe hle htl
  have HS : Hid (∀ W : World, Below w.heap.size w W → Bx W w.heap.size [.slice e.b.va e.b.vs.length e.b.vc, .slice e.b.pa e.b.ps.length e.b.pc, .slice e.b.qa e.b.qs.length e.b.qc, .int .i64 e.b.cs, .int .i64 e.b.nx, .slice e.oa e.os.length e.oc] → Bx W (w.heap.size + 1) [.string x.1, .string x.2.1, .bool x.2.2] → W.cell? ⟨w.heap.size, 5, none⟩ = some (.slice (some ⟨be, 0, none⟩) e.os.length e.oc) ∧ W.cell? ⟨be, k * 8, none⟩ = some (.int .i64 y.t.id) ∧ W.cell? ⟨be, k * 8 + 1, none⟩ = some (.int .i64 y.t.st) ∧ W.cell? ⟨be, k * 8 + 2, none⟩ = some (.int .i64 y.t.snap) ∧ W.cell? ⟨be, k * 8 + 3, none⟩ = some (.int .i64 y.t.cs) ∧ W.cell? ⟨be, k * 8 + 4, none⟩ = some (.slice y.ra y.t.rs.length y.rc) ∧ W.cell? ⟨be, k * 8 + 5, none⟩ = some (.slice y.wa y.t.ws.length y.wc) ∧ W.cell? ⟨be, k * 8 + 6, none⟩ = some (.bool y.t.out) ∧ W.cell? ⟨be, k * 8 + 7, none⟩ = some (.string y.t.nm) ∧ W.cell? ⟨w.heap.size + 1, 0, none⟩ = some (.string x.1) ∧ W.cell? ⟨w.heap.size + 1, 1, none⟩ = some (.string x.2.1) ∧ W.cell? ⟨w.heap.size + 1, 2, none⟩ = some (.bool x.2.2)) := fun W h1 h2 h3 => ⟨by have h := h2.c5; rw [HBE.out] at h; exact h, (HCE.out W h1).c0, (HCE.out W h1).c1, (HCE.out W h1).c2, (HCE.out W h1).c3, (HCE.out W h1).c4, (HCE.out W h1).c5, (HCE.out W h1).c6, (HCE.out W h1).c7, h3.c0, h3.c1, h3.c2⟩
  obtain ⟨rw_, hrw⟩ : ∃ r, r = writeB x := ⟨_, rfl⟩
  obtain ⟨rk, hrk⟩ : ∃ r, r = wkB y.t x := ⟨_, rfl⟩
  have HC1 : Hid (pkCode e i x = if rw_ = true then (if rk = true then 0 else 3) else 2) := by show _ = _; rw [HC0.out, hrw, hrk]; rfl
  have HT1 : Hid (pkT y.t x = if rw_ = true ∧ rk = true then setW y.t (putS y.t.ws x) else y.t) := by show _ = _; rw [hrw, hrk]; rfl
  rw [← hrw] at CW
  have HWK0 := hide hrk.symm
  clear hrw hrk HC0
  have x0 := BX.out.c0
  have x1 := BX.out.c1
  have x2 := BX.out.c2
  go_wp2_with fail
  refine (CW.out _).mono ?_
  rintro ex w3 ⟨rfl, hb⟩
  replace BA := hide (BA.out.below hb)
  replace BX := hide (BX.out.below hb)
  replace BR := hide (BR.out.below hb)
  replace BC := hide (BC.out.below hb)
  replace LX := hide (LX.out.below hb)
  replace HB := hide (HB.out.trans (hb.mono HB.out.size))
  replace HGW := hide (Nat.lt_of_lt_of_le HGW.out hb.size)
  clear hb x0 x1 x2 CW
  cases rw_
  ·have HC : Hid (pkCode e i x = 2) := HC1.out
   have HT : Hid (pkT y.t x = y.t) := by show _ = _; rw [HT1.out, if_neg (by simp)]
   have HSM : Hid (EnSame (pkE e i x) c) := ⟨SM.out.b, by rw [pkE_txs, HTX.out, HT.out, ← HID.out]; exact SM.out.o⟩
   have x0 := BC.out.c0
   have x1 := BC.out.c1
   have x2 := BC.out.c2
   have x3 := BC.out.c3
   have x4 := BC.out.c4
   have x5 := BC.out.c5
   have q0 := BR.out.c0
   have fq0 := BR.out.fz 0
   have q1 := BR.out.c1
   have fq1 := BR.out.fz 1
   have q2 := BR.out.c2
   have fq2 := BR.out.fz 2
   have q3 := BR.out.c3
   have fq3 := BR.out.fz 3
   have q4 := BR.out.c4
   have fq4 := BR.out.fz 4
   have q5 := BR.out.c5
   have fq5 := BR.out.fz 5
   go_wp2
   refine bodyPost_ret (v := .tuple #[.agg #[.slice c.b.va c.b.vs.length c.b.vc, .slice c.b.pa c.b.ps.length c.b.pc, .slice c.b.qa c.b.qs.length c.b.qc, .int .i64 c.b.cs, .int .i64 c.b.nx, .slice c.oa c.os.length c.oc], .int .i64 2]) (by simp [results, Tryz.results16, go_sem, q0, q1, q2, q3, q4, q5]) rfl ⟨c, by rw [HC.out], HSM.out, ?_, ?_⟩
   ·exact (((((((LX.out.q0 g (Nat.le_refl _)).setr (a := ⟨w.heap.size + 1 + 1, 0, none⟩) (Or.inl hrb) _).setr (a := ⟨w.heap.size + 1 + 1, 1, none⟩) (Or.inl hrb) _).setr (a := ⟨w.heap.size + 1 + 1, 2, none⟩) (Or.inl hrb) _).setr (a := ⟨w.heap.size + 1 + 1, 3, none⟩) (Or.inl hrb) _).setr (a := ⟨w.heap.size + 1 + 1, 4, none⟩) (Or.inl hrb) _).setr (a := ⟨w.heap.size + 1 + 1, 5, none⟩) (Or.inl hrb) _).lq (by omega) (le_set (le_set (le_set (le_set (le_set (le_set (Nat.le_of_lt HGW.out) _ _) _ _) _ _) _ _) _ _) _ _)
   ·exact (((((HB.out.setCell (p := ⟨w.heap.size + 1 + 1, 0, none⟩) hwr _).setCell (p := ⟨w.heap.size + 1 + 1, 1, none⟩) hwr _).setCell (p := ⟨w.heap.size + 1 + 1, 2, none⟩) hwr _).setCell (p := ⟨w.heap.size + 1 + 1, 3, none⟩) hwr _).setCell (p := ⟨w.heap.size + 1 + 1, 4, none⟩) hwr _).setCell (p := ⟨w.heap.size + 1 + 1, 5, none⟩) hwr _
  cases rk
  ·have hwk : wkB y.t x = false := HWK0.out
   have HC : Hid (pkCode e i x = 3) := HC1.out
   have HT : Hid (pkT y.t x = y.t) := by show _ = _; rw [HT1.out, if_neg (by simp)]
   have HSM : Hid (EnSame (pkE e i x) c) := ⟨SM.out.b, by rw [pkE_txs, HTX.out, HT.out, ← HID.out]; exact SM.out.o⟩
   clear HC1 HT1
   go_upto_region 7 with fail
   have CK : Hid (∀ W : World, Below w.heap.size w W → Calls Tryz.prog 39 #[.agg #[.int .i64 y.t.id, .int .i64 y.t.st, .int .i64 y.t.snap, .int .i64 y.t.cs, .slice y.ra y.t.rs.length y.rc, .slice y.wa y.t.ws.length y.wc, .bool y.t.out, .string y.t.nm], .agg #[.string x.1, .string x.2.1, .bool x.2.2]] W fun e w' => ∃ ra1 rc1 wa1 wc1, e = .returned (.tuple #[.agg #[.int .i64 y.t.id, .int .i64 y.t.st, .int .i64 y.t.snap, .int .i64 y.t.cs, .slice ra1 y.t.rs.length rc1, .slice wa1 y.t.ws.length wc1, .bool y.t.out, .string y.t.nm], .bool false]) ∧ TLie w' W.heap.size w'.heap.size (setW y.t y.t.ws) ra1 rc1 wa1 wc1 ∧ Below W.heap.size W w') := fun W h => swk_no y.t y.ra y.wa y.rc y.wc x pt qt HFT.out hx hwk W (HTL.out.below h)
   refine wp_region_held_drew (S := fun w' => w'.cell? ⟨w.heap.size, 5, none⟩ = some (.slice (some ⟨be, 0, none⟩) e.os.length e.oc) ∧ w'.cell? ⟨be, k * 8, none⟩ = some (.int .i64 y.t.id) ∧ w'.cell? ⟨be, k * 8 + 1, none⟩ = some (.int .i64 y.t.st) ∧ w'.cell? ⟨be, k * 8 + 2, none⟩ = some (.int .i64 y.t.snap) ∧ w'.cell? ⟨be, k * 8 + 3, none⟩ = some (.int .i64 y.t.cs) ∧ w'.cell? ⟨be, k * 8 + 4, none⟩ = some (.slice y.ra y.t.rs.length y.rc) ∧ w'.cell? ⟨be, k * 8 + 5, none⟩ = some (.slice y.wa y.t.ws.length y.wc) ∧ w'.cell? ⟨be, k * 8 + 6, none⟩ = some (.bool y.t.out) ∧ w'.cell? ⟨be, k * 8 + 7, none⟩ = some (.string y.t.nm) ∧ w'.cell? ⟨w.heap.size + 1, 0, none⟩ = some (.string x.1) ∧ w'.cell? ⟨w.heap.size + 1, 1, none⟩ = some (.string x.2.1) ∧ w'.cell? ⟨w.heap.size + 1, 2, none⟩ = some (.bool x.2.2)) (by kernel_rfl) (HS.out w3 HB.out BA.out BX.out) (fun hHeld => ?_)
   (refine tk 0 ?_ rfl (Or.inl ⟨by rfl, ?_⟩) ?_; rotate_left; (focus (intro w h; (try dsimp only at h); go_simp; (try with_reducible rfl))); simp only [Act.put, tA, tB, tD, tE, tF])
   (refine tk 1 ?_ rfl (Or.inl ⟨by rfl, ?_⟩) ?_; rotate_left; (focus (intro w h; (try dsimp only at h); go_simp; (try with_reducible rfl))); simp only [Act.put, tA, tB, tC, tD, tE, tF])
   (refine tk 2 ?_ rfl (Or.inl ⟨by rfl, ?_⟩) ?_; rotate_left; (focus (intro w h; (try dsimp only at h); go_simp; (try with_reducible rfl))); simp only [Act.put, tA, tB, tC, tD, tE, tF])
   (refine tk 3 ?_ rfl (Or.inl ⟨by rfl, ?_⟩) ?_; rotate_left; (focus (intro w h; (try dsimp only at h); go_simp; (try with_reducible rfl))); simp only [Act.put, tA, tB, tC, tD, tE, tF])
   (refine tk 4 ?_ rfl (Or.inl ⟨by rfl, ?_⟩) ?_; rotate_left; (focus (intro w h; (try dsimp only at h); go_simp; (try with_reducible rfl))); simp only [Act.put, tA, tB, tC, tD, tE, tF])
   (refine tk 5 ?_ rfl (Or.inl ⟨by rfl, ?_⟩) ?_; rotate_left; (focus (intro w h; (try dsimp only at h); go_simp; (try with_reducible rfl))); simp only [Act.put, tA, tB, tC, tD, tE, tF])
   have hbd : Below w3.heap.size w3 w3.drew := (belowRefl w3).drew
   replace BA := hide (BA.out.below hbd)
   replace BX := hide (BX.out.below hbd)
   replace BR := hide (BR.out.below hbd)
   replace BC := hide (BC.out.below hbd)
   replace LX := hide (LX.out.below hbd)
   replace HB := hide (HB.out.trans (hbd.mono HB.out.size))
   replace HGW := hide (Nat.lt_of_lt_of_le HGW.out hbd.size)
   clear hbd
   generalize w3.drew = vd at *
   refine wpAnyH_ready (rs := [6, 10]) (by kernel_rfl) (by simp) ?_
   refine (AllReadyH.cons rfl (fun K hK => ?_) (AllReadyH.cons rfl (fun K hK => ?_) AllReadyH.nil))
   ·go_simp
    go_wp2_with fail
    refine (CK.out _ HB.out).mono ?_
    rintro ex v2 ⟨ra1, rc1, wa1, wc1, rfl, ht, hb⟩
    obtain ⟨q0, hq0⟩ : ∃ q0, q0 = v2.heap.size := ⟨_, rfl⟩
    have RT : Hid (TLie v2 vd.heap.size q0 (setW y.t y.t.ws) ra1 rc1 wa1 wc1) := by rw [hq0]; exact ht
    have HQ : Hid (q0 ≤ v2.heap.size) := by rw [hq0]; exact Nat.le_refl _
    have HPQ : Hid (vd.heap.size ≤ q0) := by rw [hq0]; exact hb.size
    have HGP : Hid (g < vd.heap.size) := HGW.out
    replace BA := hide (BA.out.below hb)
    replace BX := hide (BX.out.below hb)
    replace BR := hide (BR.out.below hb)
    replace BC := hide (BC.out.below hb)
    replace LX := hide (LX.out.below hb)
    replace HB := hide (HB.out.trans (hb.mono HB.out.size))
    replace HGW := hide (Nat.lt_of_lt_of_le HGW.out hb.size)
    clear ht hb CK
    generalize vd.heap.size = p0 at *
    clear hq0
    go_wp2_with fail
    refine hK.out _ _ (HS.out _ HB.out BA.out BX.out) (fun hHeldK => ?_)
    clear hK K
    (refine tk 7 ?_ rfl (Or.inl ⟨by rfl, ?_⟩) ?_; rotate_left; (focus (intro w h; (try dsimp only at h); go_simp; (try with_reducible rfl))); simp only [Act.put, tA, tB, tC, tD, tE, tF])
    (refine tk 8 ?_ rfl (Or.inl ⟨by rfl, ?_⟩) ?_; rotate_left; (focus (intro w h; (try dsimp only at h); go_simp; (try with_reducible rfl))); simp only [Act.put, tA, tB, tC, tD, tE, tF])
    (refine tk 9 ?_ rfl (Or.inl ⟨by rfl, ?_⟩) ?_; rotate_left; (focus (intro w h; (try dsimp only at h); go_simp; (try with_reducible rfl))); simp only [Act.put, tA, tB, tC, tD, tE, tF])
    refine wpAnyH_ready (rs := [10]) (by kernel_rfl) (by simp) ?_
    refine (AllReadyH.cons rfl (fun K hK => ?_) AllReadyH.nil)
    go_simp
    have hba : Below v2.heap.size v2 (v2.alloc (.cells #[.int .i64 0, .int .i64 0, .int .i64 0, .int .i64 0, .slice none 0 0, .slice none 0 0, .bool false, .string ⟨#[]⟩] 56)) := (belowRefl v2).alloc (Nat.le_refl _) _
    have BT : Hid (Bx (v2.alloc (.cells #[.int .i64 0, .int .i64 0, .int .i64 0, .int .i64 0, .slice none 0 0, .slice none 0 0, .bool false, .string ⟨#[]⟩] 56)) v2.heap.size [.int .i64 0, .int .i64 0, .int .i64 0, .int .i64 0, .slice none 0 0, .slice none 0 0, .bool false, .string ⟨#[]⟩]) := Bx.new v2 [.int .i64 0, .int .i64 0, .int .i64 0, .int .i64 0, .slice none 0 0, .slice none 0 0, .bool false, .string ⟨#[]⟩] 56
    have NG : Hid (g < v2.heap.size) := HGW.out
    replace RT := hide (RT.out.below hba)
    have NB : Hid (v2.heap.size < p0 ∨ q0 ≤ v2.heap.size) := Or.inr HQ.out
    replace HQ := hide (Nat.le_trans HQ.out hba.size)
    replace BA := hide (BA.out.below hba)
    replace BX := hide (BX.out.below hba)
    replace BR := hide (BR.out.below hba)
    replace BC := hide (BC.out.below hba)
    replace LX := hide (LX.out.below hba)
    replace HB := hide (HB.out.trans (hba.mono HB.out.size))
    replace HGW := hide (Nat.lt_of_lt_of_le HGW.out hba.size)
    clear hba
    generalize hq1 : v2.heap.size = tb at *
    clear hq1
    generalize (v2.alloc (.cells #[.int .i64 0, .int .i64 0, .int .i64 0, .int .i64 0, .slice none 0 0, .slice none 0 0, .bool false, .string ⟨#[]⟩] 56)) = v3 at *
    refine hK.out _ _ (HS.out _ HB.out BA.out BX.out) (fun hHeldA => ?_)
    clear hK K
    refine wpAnyH_ready (rs := [11]) (by kernel_rfl) (by simp) ?_
    refine (AllReadyH.cons rfl (fun K hK => ?_) AllReadyH.nil)
    have o0 := BT.out.c0
    have fo0 := BT.out.fz 0
    have o1 := BT.out.c1
    have fo1 := BT.out.fz 1
    have o2 := BT.out.c2
    have fo2 := BT.out.fz 2
    have o3 := BT.out.c3
    have fo3 := BT.out.fz 3
    have o4 := BT.out.c4
    have fo4 := BT.out.fz 4
    have o5 := BT.out.c5
    have fo5 := BT.out.fz 5
    have o6 := BT.out.c6
    have fo6 := BT.out.fz 6
    have o7 := BT.out.c7
    have fo7 := BT.out.fz 7
    go_simp
    clear o0 fo0 o1 fo1 o2 fo2 o3 fo3 o4 fo4 o5 fo5 o6 fo6 o7 fo7
    have ng := NG.out
    have nBA : tb ≠ w.heap.size := by omega
    have nBX : tb ≠ w.heap.size + 1 := by omega
    have nBR : tb ≠ w.heap.size + 1 + 1 := by omega
    have nBC : tb ≠ g := by omega
    have hgt : g ≤ tb := by omega
    have hup9 : ∀ b, (Value.slice c.oa c.os.length c.oc).ownBlock = some b → b ≠ tb := fun b e9 => by have := LX.out.o.up b e9; omega
    have BT2 : Hid (Bx ((((((((v3.setCell ⟨tb, 0, none⟩ (.int .i64 y.t.id)).setCell ⟨tb, 1, none⟩ (.int .i64 y.t.st)).setCell ⟨tb, 2, none⟩ (.int .i64 y.t.snap)).setCell ⟨tb, 3, none⟩ (.int .i64 y.t.cs)).setCell ⟨tb, 4, none⟩ (.slice ra1 y.t.rs.length rc1)).setCell ⟨tb, 5, none⟩ (.slice wa1 y.t.ws.length wc1)).setCell ⟨tb, 6, none⟩ (.bool y.t.out)).setCell ⟨tb, 7, none⟩ (.string y.t.nm)) tb [.int .i64 y.t.id, .int .i64 y.t.st, .int .i64 y.t.snap, .int .i64 y.t.cs, .slice ra1 y.t.rs.length rc1, .slice wa1 y.t.ws.length wc1, .bool y.t.out, .string y.t.nm]) := (((((((BT.out.set 0 _).set 1 _).set 2 _).set 3 _).set 4 _).set 5 _).set 6 _).set 7 _
    have BA2 : Hid (Bx ((((((((v3.setCell ⟨tb, 0, none⟩ (.int .i64 y.t.id)).setCell ⟨tb, 1, none⟩ (.int .i64 y.t.st)).setCell ⟨tb, 2, none⟩ (.int .i64 y.t.snap)).setCell ⟨tb, 3, none⟩ (.int .i64 y.t.cs)).setCell ⟨tb, 4, none⟩ (.slice ra1 y.t.rs.length rc1)).setCell ⟨tb, 5, none⟩ (.slice wa1 y.t.ws.length wc1)).setCell ⟨tb, 6, none⟩ (.bool y.t.out)).setCell ⟨tb, 7, none⟩ (.string y.t.nm)) (w.heap.size) [.slice e.b.va e.b.vs.length e.b.vc, .slice e.b.pa e.b.ps.length e.b.pc, .slice e.b.qa e.b.qs.length e.b.qc, .int .i64 e.b.cs, .int .i64 e.b.nx, .slice e.oa e.os.length e.oc]) := (((((((BA.out.setO (p := ⟨tb, 0, none⟩) nBA _).setO (p := ⟨tb, 1, none⟩) nBA _).setO (p := ⟨tb, 2, none⟩) nBA _).setO (p := ⟨tb, 3, none⟩) nBA _).setO (p := ⟨tb, 4, none⟩) nBA _).setO (p := ⟨tb, 5, none⟩) nBA _).setO (p := ⟨tb, 6, none⟩) nBA _).setO (p := ⟨tb, 7, none⟩) nBA _
    have BX2 : Hid (Bx ((((((((v3.setCell ⟨tb, 0, none⟩ (.int .i64 y.t.id)).setCell ⟨tb, 1, none⟩ (.int .i64 y.t.st)).setCell ⟨tb, 2, none⟩ (.int .i64 y.t.snap)).setCell ⟨tb, 3, none⟩ (.int .i64 y.t.cs)).setCell ⟨tb, 4, none⟩ (.slice ra1 y.t.rs.length rc1)).setCell ⟨tb, 5, none⟩ (.slice wa1 y.t.ws.length wc1)).setCell ⟨tb, 6, none⟩ (.bool y.t.out)).setCell ⟨tb, 7, none⟩ (.string y.t.nm)) (w.heap.size + 1) [.string x.1, .string x.2.1, .bool x.2.2]) := (((((((BX.out.setO (p := ⟨tb, 0, none⟩) nBX _).setO (p := ⟨tb, 1, none⟩) nBX _).setO (p := ⟨tb, 2, none⟩) nBX _).setO (p := ⟨tb, 3, none⟩) nBX _).setO (p := ⟨tb, 4, none⟩) nBX _).setO (p := ⟨tb, 5, none⟩) nBX _).setO (p := ⟨tb, 6, none⟩) nBX _).setO (p := ⟨tb, 7, none⟩) nBX _
    have BR2 : Hid (Bx ((((((((v3.setCell ⟨tb, 0, none⟩ (.int .i64 y.t.id)).setCell ⟨tb, 1, none⟩ (.int .i64 y.t.st)).setCell ⟨tb, 2, none⟩ (.int .i64 y.t.snap)).setCell ⟨tb, 3, none⟩ (.int .i64 y.t.cs)).setCell ⟨tb, 4, none⟩ (.slice ra1 y.t.rs.length rc1)).setCell ⟨tb, 5, none⟩ (.slice wa1 y.t.ws.length wc1)).setCell ⟨tb, 6, none⟩ (.bool y.t.out)).setCell ⟨tb, 7, none⟩ (.string y.t.nm)) (w.heap.size + 1 + 1) [.slice none 0 0, .slice none 0 0, .slice none 0 0, .int .i64 0, .int .i64 0, .slice none 0 0]) := (((((((BR.out.setO (p := ⟨tb, 0, none⟩) nBR _).setO (p := ⟨tb, 1, none⟩) nBR _).setO (p := ⟨tb, 2, none⟩) nBR _).setO (p := ⟨tb, 3, none⟩) nBR _).setO (p := ⟨tb, 4, none⟩) nBR _).setO (p := ⟨tb, 5, none⟩) nBR _).setO (p := ⟨tb, 6, none⟩) nBR _).setO (p := ⟨tb, 7, none⟩) nBR _
    have BC2 : Hid (Bx ((((((((v3.setCell ⟨tb, 0, none⟩ (.int .i64 y.t.id)).setCell ⟨tb, 1, none⟩ (.int .i64 y.t.st)).setCell ⟨tb, 2, none⟩ (.int .i64 y.t.snap)).setCell ⟨tb, 3, none⟩ (.int .i64 y.t.cs)).setCell ⟨tb, 4, none⟩ (.slice ra1 y.t.rs.length rc1)).setCell ⟨tb, 5, none⟩ (.slice wa1 y.t.ws.length wc1)).setCell ⟨tb, 6, none⟩ (.bool y.t.out)).setCell ⟨tb, 7, none⟩ (.string y.t.nm)) (g) [.slice c.b.va c.b.vs.length c.b.vc, .slice c.b.pa c.b.ps.length c.b.pc, .slice c.b.qa c.b.qs.length c.b.qc, .int .i64 c.b.cs, .int .i64 c.b.nx, .slice c.oa c.os.length c.oc]) := (((((((BC.out.setO (p := ⟨tb, 0, none⟩) nBC _).setO (p := ⟨tb, 1, none⟩) nBC _).setO (p := ⟨tb, 2, none⟩) nBC _).setO (p := ⟨tb, 3, none⟩) nBC _).setO (p := ⟨tb, 4, none⟩) nBC _).setO (p := ⟨tb, 5, none⟩) nBC _).setO (p := ⟨tb, 6, none⟩) nBC _).setO (p := ⟨tb, 7, none⟩) nBC _
    have LX2 : Hid (EnLx ((((((((v3.setCell ⟨tb, 0, none⟩ (.int .i64 y.t.id)).setCell ⟨tb, 1, none⟩ (.int .i64 y.t.st)).setCell ⟨tb, 2, none⟩ (.int .i64 y.t.snap)).setCell ⟨tb, 3, none⟩ (.int .i64 y.t.cs)).setCell ⟨tb, 4, none⟩ (.slice ra1 y.t.rs.length rc1)).setCell ⟨tb, 5, none⟩ (.slice wa1 y.t.ws.length wc1)).setCell ⟨tb, 6, none⟩ (.bool y.t.out)).setCell ⟨tb, 7, none⟩ (.string y.t.nm)) w0.heap.size m g g g c) := (((((((LX.out.setr (a := ⟨tb, 0, none⟩) hgt hup9 _).setr (a := ⟨tb, 1, none⟩) hgt hup9 _).setr (a := ⟨tb, 2, none⟩) hgt hup9 _).setr (a := ⟨tb, 3, none⟩) hgt hup9 _).setr (a := ⟨tb, 4, none⟩) hgt hup9 _).setr (a := ⟨tb, 5, none⟩) hgt hup9 _).setr (a := ⟨tb, 6, none⟩) hgt hup9 _).setr (a := ⟨tb, 7, none⟩) hgt hup9 _
    have RT2 : Hid (TLie ((((((((v3.setCell ⟨tb, 0, none⟩ (.int .i64 y.t.id)).setCell ⟨tb, 1, none⟩ (.int .i64 y.t.st)).setCell ⟨tb, 2, none⟩ (.int .i64 y.t.snap)).setCell ⟨tb, 3, none⟩ (.int .i64 y.t.cs)).setCell ⟨tb, 4, none⟩ (.slice ra1 y.t.rs.length rc1)).setCell ⟨tb, 5, none⟩ (.slice wa1 y.t.ws.length wc1)).setCell ⟨tb, 6, none⟩ (.bool y.t.out)).setCell ⟨tb, 7, none⟩ (.string y.t.nm)) p0 q0 (setW y.t y.t.ws) ra1 rc1 wa1 wc1) := (((((((RT.out.setO (a := ⟨tb, 0, none⟩) NB.out _).setO (a := ⟨tb, 1, none⟩) NB.out _).setO (a := ⟨tb, 2, none⟩) NB.out _).setO (a := ⟨tb, 3, none⟩) NB.out _).setO (a := ⟨tb, 4, none⟩) NB.out _).setO (a := ⟨tb, 5, none⟩) NB.out _).setO (a := ⟨tb, 6, none⟩) NB.out _).setO (a := ⟨tb, 7, none⟩) NB.out _
    have hwt : w.heap.size ≤ tb := by omega
    have HB2 : Hid (Below w.heap.size w ((((((((v3.setCell ⟨tb, 0, none⟩ (.int .i64 y.t.id)).setCell ⟨tb, 1, none⟩ (.int .i64 y.t.st)).setCell ⟨tb, 2, none⟩ (.int .i64 y.t.snap)).setCell ⟨tb, 3, none⟩ (.int .i64 y.t.cs)).setCell ⟨tb, 4, none⟩ (.slice ra1 y.t.rs.length rc1)).setCell ⟨tb, 5, none⟩ (.slice wa1 y.t.ws.length wc1)).setCell ⟨tb, 6, none⟩ (.bool y.t.out)).setCell ⟨tb, 7, none⟩ (.string y.t.nm))) := (((((((HB.out.setCell (p := ⟨tb, 0, none⟩) hwt _).setCell (p := ⟨tb, 1, none⟩) hwt _).setCell (p := ⟨tb, 2, none⟩) hwt _).setCell (p := ⟨tb, 3, none⟩) hwt _).setCell (p := ⟨tb, 4, none⟩) hwt _).setCell (p := ⟨tb, 5, none⟩) hwt _).setCell (p := ⟨tb, 6, none⟩) hwt _).setCell (p := ⟨tb, 7, none⟩) hwt _
    have HQ2 : Hid (q0 ≤ ((((((((v3.setCell ⟨tb, 0, none⟩ (.int .i64 y.t.id)).setCell ⟨tb, 1, none⟩ (.int .i64 y.t.st)).setCell ⟨tb, 2, none⟩ (.int .i64 y.t.snap)).setCell ⟨tb, 3, none⟩ (.int .i64 y.t.cs)).setCell ⟨tb, 4, none⟩ (.slice ra1 y.t.rs.length rc1)).setCell ⟨tb, 5, none⟩ (.slice wa1 y.t.ws.length wc1)).setCell ⟨tb, 6, none⟩ (.bool y.t.out)).setCell ⟨tb, 7, none⟩ (.string y.t.nm)).heap.size) := le_set (le_set (le_set (le_set (le_set (le_set (le_set (le_set HQ.out _ _) _ _) _ _) _ _) _ _) _ _) _ _) _ _
    clear BT BA BX BR BC LX RT HB HQ
    generalize ((((((((v3.setCell ⟨tb, 0, none⟩ (.int .i64 y.t.id)).setCell ⟨tb, 1, none⟩ (.int .i64 y.t.st)).setCell ⟨tb, 2, none⟩ (.int .i64 y.t.snap)).setCell ⟨tb, 3, none⟩ (.int .i64 y.t.cs)).setCell ⟨tb, 4, none⟩ (.slice ra1 y.t.rs.length rc1)).setCell ⟨tb, 5, none⟩ (.slice wa1 y.t.ws.length wc1)).setCell ⟨tb, 6, none⟩ (.bool y.t.out)).setCell ⟨tb, 7, none⟩ (.string y.t.nm)) = v8 at *
    refine hK.out _ _ (HS.out _ HB2.out BA2.out BX2.out) (fun hHeldS => ?_)
    clear hK K
    (refine tk 12 ?_ rfl (Or.inl ⟨by rfl, ?_⟩) ?_; rotate_left; (focus (intro w h; (try dsimp only at h); go_simp; (try with_reducible rfl))); simp only [Act.put, tA, tB, tC, tD, tE, tF])
    refine wpAnyH_done (by kernel_rfl) ?_ _
    have x0 := BC2.out.c0
    have x1 := BC2.out.c1
    have x2 := BC2.out.c2
    have x3 := BC2.out.c3
    have x4 := BC2.out.c4
    have x5 := BC2.out.c5
    have q0 := BR2.out.c0
    have fq0 := BR2.out.fz 0
    have q1 := BR2.out.c1
    have fq1 := BR2.out.fz 1
    have q2 := BR2.out.c2
    have fq2 := BR2.out.fz 2
    have q3 := BR2.out.c3
    have fq3 := BR2.out.fz 3
    have q4 := BR2.out.c4
    have fq4 := BR2.out.fz 4
    have q5 := BR2.out.c5
    have fq5 := BR2.out.fz 5
    go_wp2
    refine bodyPost_ret (v := .tuple #[.agg #[.slice c.b.va c.b.vs.length c.b.vc, .slice c.b.pa c.b.ps.length c.b.pc, .slice c.b.qa c.b.qs.length c.b.qc, .int .i64 c.b.cs, .int .i64 c.b.nx, .slice c.oa c.os.length c.oc], .int .i64 3]) (by simp [results, Tryz.results16, go_sem, q0, q1, q2, q3, q4, q5]) rfl ⟨c, by rw [HC.out], HSM.out, ?_, ?_⟩
    ·exact (((((((LX2.out.q0 g (Nat.le_refl _)).setr (a := ⟨w.heap.size + 1 + 1, 0, none⟩) (Or.inl hrb) _).setr (a := ⟨w.heap.size + 1 + 1, 1, none⟩) (Or.inl hrb) _).setr (a := ⟨w.heap.size + 1 + 1, 2, none⟩) (Or.inl hrb) _).setr (a := ⟨w.heap.size + 1 + 1, 3, none⟩) (Or.inl hrb) _).setr (a := ⟨w.heap.size + 1 + 1, 4, none⟩) (Or.inl hrb) _).setr (a := ⟨w.heap.size + 1 + 1, 5, none⟩) (Or.inl hrb) _).lq (by omega) (le_set (le_set (le_set (le_set (le_set (le_set (by have := HQ2.out; have := HGP.out; have := HPQ.out; omega) _ _) _ _) _ _) _ _) _ _) _ _)
    ·exact (((((HB2.out.setCell (p := ⟨w.heap.size + 1 + 1, 0, none⟩) hwr _).setCell (p := ⟨w.heap.size + 1 + 1, 1, none⟩) hwr _).setCell (p := ⟨w.heap.size + 1 + 1, 2, none⟩) hwr _).setCell (p := ⟨w.heap.size + 1 + 1, 3, none⟩) hwr _).setCell (p := ⟨w.heap.size + 1 + 1, 4, none⟩) hwr _).setCell (p := ⟨w.heap.size + 1 + 1, 5, none⟩) hwr _
   ·go_simp
    have hba : Below vd.heap.size vd (vd.alloc (.cells #[.int .i64 0, .int .i64 0, .int .i64 0, .int .i64 0, .slice none 0 0, .slice none 0 0, .bool false, .string ⟨#[]⟩] 56)) := (belowRefl vd).alloc (Nat.le_refl _) _
    have BT : Hid (Bx (vd.alloc (.cells #[.int .i64 0, .int .i64 0, .int .i64 0, .int .i64 0, .slice none 0 0, .slice none 0 0, .bool false, .string ⟨#[]⟩] 56)) vd.heap.size [.int .i64 0, .int .i64 0, .int .i64 0, .int .i64 0, .slice none 0 0, .slice none 0 0, .bool false, .string ⟨#[]⟩]) := Bx.new vd [.int .i64 0, .int .i64 0, .int .i64 0, .int .i64 0, .slice none 0 0, .slice none 0 0, .bool false, .string ⟨#[]⟩] 56
    have NG : Hid (g < vd.heap.size) := HGW.out
    have NB : Hid (vd.heap.size < (vd.alloc (.cells #[.int .i64 0, .int .i64 0, .int .i64 0, .int .i64 0, .slice none 0 0, .slice none 0 0, .bool false, .string ⟨#[]⟩] 56)).heap.size) := BT.out.lt
    replace BA := hide (BA.out.below hba)
    replace BX := hide (BX.out.below hba)
    replace BR := hide (BR.out.below hba)
    replace BC := hide (BC.out.below hba)
    replace LX := hide (LX.out.below hba)
    replace HB := hide (HB.out.trans (hba.mono HB.out.size))
    replace HGW := hide (Nat.lt_of_lt_of_le HGW.out hba.size)
    clear hba
    generalize vd.heap.size = tb at *
    generalize (vd.alloc (.cells #[.int .i64 0, .int .i64 0, .int .i64 0, .int .i64 0, .slice none 0 0, .slice none 0 0, .bool false, .string ⟨#[]⟩] 56)) = v2 at *
    refine hK.out _ _ (HS.out _ HB.out BA.out BX.out) (fun hHeldA => ?_)
    clear hK K
    refine wpAnyH_ready (rs := [6]) (by kernel_rfl) (by simp) ?_
    refine (AllReadyH.cons rfl (fun K hK => ?_) AllReadyH.nil)
    go_simp
    go_wp2_with fail
    refine (CK.out _ HB.out).mono ?_
    rintro ex v3 ⟨ra1, rc1, wa1, wc1, rfl, ht, hb⟩
    obtain ⟨q0, hq0⟩ : ∃ q0, q0 = v3.heap.size := ⟨_, rfl⟩
    have RT : Hid (TLie v3 v2.heap.size q0 (setW y.t y.t.ws) ra1 rc1 wa1 wc1) := by rw [hq0]; exact ht
    have HQ : Hid (q0 ≤ v3.heap.size) := by rw [hq0]; exact Nat.le_refl _
    have HPQ : Hid (v2.heap.size ≤ q0) := by rw [hq0]; exact hb.size
    have HGP : Hid (g < v2.heap.size) := HGW.out
    replace BT := hide (BT.out.below hb)
    have NB2 : Hid (tb < v2.heap.size ∨ q0 ≤ tb) := Or.inl NB.out
    replace BA := hide (BA.out.below hb)
    replace BX := hide (BX.out.below hb)
    replace BR := hide (BR.out.below hb)
    replace BC := hide (BC.out.below hb)
    replace LX := hide (LX.out.below hb)
    replace HB := hide (HB.out.trans (hb.mono HB.out.size))
    replace HGW := hide (Nat.lt_of_lt_of_le HGW.out hb.size)
    clear ht hb CK
    generalize v2.heap.size = p0 at *
    clear hq0
    go_wp2_with fail
    refine hK.out _ _ (HS.out _ HB.out BA.out BX.out) (fun hHeldK => ?_)
    clear hK K
    (refine tk 7 ?_ rfl (Or.inl ⟨by rfl, ?_⟩) ?_; rotate_left; (focus (intro w h; (try dsimp only at h); go_simp; (try with_reducible rfl))); simp only [Act.put, tA, tB, tC, tD, tE, tF])
    (refine tk 8 ?_ rfl (Or.inl ⟨by rfl, ?_⟩) ?_; rotate_left; (focus (intro w h; (try dsimp only at h); go_simp; (try with_reducible rfl))); simp only [Act.put, tA, tB, tC, tD, tE, tF])
    (refine tk 9 ?_ rfl (Or.inl ⟨by rfl, ?_⟩) ?_; rotate_left; (focus (intro w h; (try dsimp only at h); go_simp; (try with_reducible rfl))); simp only [Act.put, tA, tB, tC, tD, tE, tF])
    refine wpAnyH_ready (rs := [11]) (by kernel_rfl) (by simp) ?_
    refine (AllReadyH.cons rfl (fun K hK => ?_) AllReadyH.nil)
    have o0 := BT.out.c0
    have fo0 := BT.out.fz 0
    have o1 := BT.out.c1
    have fo1 := BT.out.fz 1
    have o2 := BT.out.c2
    have fo2 := BT.out.fz 2
    have o3 := BT.out.c3
    have fo3 := BT.out.fz 3
    have o4 := BT.out.c4
    have fo4 := BT.out.fz 4
    have o5 := BT.out.c5
    have fo5 := BT.out.fz 5
    have o6 := BT.out.c6
    have fo6 := BT.out.fz 6
    have o7 := BT.out.c7
    have fo7 := BT.out.fz 7
    go_simp
    clear o0 fo0 o1 fo1 o2 fo2 o3 fo3 o4 fo4 o5 fo5 o6 fo6 o7 fo7
    have ng := NG.out
    have nBA : tb ≠ w.heap.size := by omega
    have nBX : tb ≠ w.heap.size + 1 := by omega
    have nBR : tb ≠ w.heap.size + 1 + 1 := by omega
    have nBC : tb ≠ g := by omega
    have hgt : g ≤ tb := by omega
    have hup9 : ∀ b, (Value.slice c.oa c.os.length c.oc).ownBlock = some b → b ≠ tb := fun b e9 => by have := LX.out.o.up b e9; omega
    have BT2 : Hid (Bx ((((((((v3.setCell ⟨tb, 0, none⟩ (.int .i64 y.t.id)).setCell ⟨tb, 1, none⟩ (.int .i64 y.t.st)).setCell ⟨tb, 2, none⟩ (.int .i64 y.t.snap)).setCell ⟨tb, 3, none⟩ (.int .i64 y.t.cs)).setCell ⟨tb, 4, none⟩ (.slice ra1 y.t.rs.length rc1)).setCell ⟨tb, 5, none⟩ (.slice wa1 y.t.ws.length wc1)).setCell ⟨tb, 6, none⟩ (.bool y.t.out)).setCell ⟨tb, 7, none⟩ (.string y.t.nm)) tb [.int .i64 y.t.id, .int .i64 y.t.st, .int .i64 y.t.snap, .int .i64 y.t.cs, .slice ra1 y.t.rs.length rc1, .slice wa1 y.t.ws.length wc1, .bool y.t.out, .string y.t.nm]) := (((((((BT.out.set 0 _).set 1 _).set 2 _).set 3 _).set 4 _).set 5 _).set 6 _).set 7 _
    have BA2 : Hid (Bx ((((((((v3.setCell ⟨tb, 0, none⟩ (.int .i64 y.t.id)).setCell ⟨tb, 1, none⟩ (.int .i64 y.t.st)).setCell ⟨tb, 2, none⟩ (.int .i64 y.t.snap)).setCell ⟨tb, 3, none⟩ (.int .i64 y.t.cs)).setCell ⟨tb, 4, none⟩ (.slice ra1 y.t.rs.length rc1)).setCell ⟨tb, 5, none⟩ (.slice wa1 y.t.ws.length wc1)).setCell ⟨tb, 6, none⟩ (.bool y.t.out)).setCell ⟨tb, 7, none⟩ (.string y.t.nm)) (w.heap.size) [.slice e.b.va e.b.vs.length e.b.vc, .slice e.b.pa e.b.ps.length e.b.pc, .slice e.b.qa e.b.qs.length e.b.qc, .int .i64 e.b.cs, .int .i64 e.b.nx, .slice e.oa e.os.length e.oc]) := (((((((BA.out.setO (p := ⟨tb, 0, none⟩) nBA _).setO (p := ⟨tb, 1, none⟩) nBA _).setO (p := ⟨tb, 2, none⟩) nBA _).setO (p := ⟨tb, 3, none⟩) nBA _).setO (p := ⟨tb, 4, none⟩) nBA _).setO (p := ⟨tb, 5, none⟩) nBA _).setO (p := ⟨tb, 6, none⟩) nBA _).setO (p := ⟨tb, 7, none⟩) nBA _
    have BX2 : Hid (Bx ((((((((v3.setCell ⟨tb, 0, none⟩ (.int .i64 y.t.id)).setCell ⟨tb, 1, none⟩ (.int .i64 y.t.st)).setCell ⟨tb, 2, none⟩ (.int .i64 y.t.snap)).setCell ⟨tb, 3, none⟩ (.int .i64 y.t.cs)).setCell ⟨tb, 4, none⟩ (.slice ra1 y.t.rs.length rc1)).setCell ⟨tb, 5, none⟩ (.slice wa1 y.t.ws.length wc1)).setCell ⟨tb, 6, none⟩ (.bool y.t.out)).setCell ⟨tb, 7, none⟩ (.string y.t.nm)) (w.heap.size + 1) [.string x.1, .string x.2.1, .bool x.2.2]) := (((((((BX.out.setO (p := ⟨tb, 0, none⟩) nBX _).setO (p := ⟨tb, 1, none⟩) nBX _).setO (p := ⟨tb, 2, none⟩) nBX _).setO (p := ⟨tb, 3, none⟩) nBX _).setO (p := ⟨tb, 4, none⟩) nBX _).setO (p := ⟨tb, 5, none⟩) nBX _).setO (p := ⟨tb, 6, none⟩) nBX _).setO (p := ⟨tb, 7, none⟩) nBX _
    have BR2 : Hid (Bx ((((((((v3.setCell ⟨tb, 0, none⟩ (.int .i64 y.t.id)).setCell ⟨tb, 1, none⟩ (.int .i64 y.t.st)).setCell ⟨tb, 2, none⟩ (.int .i64 y.t.snap)).setCell ⟨tb, 3, none⟩ (.int .i64 y.t.cs)).setCell ⟨tb, 4, none⟩ (.slice ra1 y.t.rs.length rc1)).setCell ⟨tb, 5, none⟩ (.slice wa1 y.t.ws.length wc1)).setCell ⟨tb, 6, none⟩ (.bool y.t.out)).setCell ⟨tb, 7, none⟩ (.string y.t.nm)) (w.heap.size + 1 + 1) [.slice none 0 0, .slice none 0 0, .slice none 0 0, .int .i64 0, .int .i64 0, .slice none 0 0]) := (((((((BR.out.setO (p := ⟨tb, 0, none⟩) nBR _).setO (p := ⟨tb, 1, none⟩) nBR _).setO (p := ⟨tb, 2, none⟩) nBR _).setO (p := ⟨tb, 3, none⟩) nBR _).setO (p := ⟨tb, 4, none⟩) nBR _).setO (p := ⟨tb, 5, none⟩) nBR _).setO (p := ⟨tb, 6, none⟩) nBR _).setO (p := ⟨tb, 7, none⟩) nBR _
    have BC2 : Hid (Bx ((((((((v3.setCell ⟨tb, 0, none⟩ (.int .i64 y.t.id)).setCell ⟨tb, 1, none⟩ (.int .i64 y.t.st)).setCell ⟨tb, 2, none⟩ (.int .i64 y.t.snap)).setCell ⟨tb, 3, none⟩ (.int .i64 y.t.cs)).setCell ⟨tb, 4, none⟩ (.slice ra1 y.t.rs.length rc1)).setCell ⟨tb, 5, none⟩ (.slice wa1 y.t.ws.length wc1)).setCell ⟨tb, 6, none⟩ (.bool y.t.out)).setCell ⟨tb, 7, none⟩ (.string y.t.nm)) (g) [.slice c.b.va c.b.vs.length c.b.vc, .slice c.b.pa c.b.ps.length c.b.pc, .slice c.b.qa c.b.qs.length c.b.qc, .int .i64 c.b.cs, .int .i64 c.b.nx, .slice c.oa c.os.length c.oc]) := (((((((BC.out.setO (p := ⟨tb, 0, none⟩) nBC _).setO (p := ⟨tb, 1, none⟩) nBC _).setO (p := ⟨tb, 2, none⟩) nBC _).setO (p := ⟨tb, 3, none⟩) nBC _).setO (p := ⟨tb, 4, none⟩) nBC _).setO (p := ⟨tb, 5, none⟩) nBC _).setO (p := ⟨tb, 6, none⟩) nBC _).setO (p := ⟨tb, 7, none⟩) nBC _
    have LX2 : Hid (EnLx ((((((((v3.setCell ⟨tb, 0, none⟩ (.int .i64 y.t.id)).setCell ⟨tb, 1, none⟩ (.int .i64 y.t.st)).setCell ⟨tb, 2, none⟩ (.int .i64 y.t.snap)).setCell ⟨tb, 3, none⟩ (.int .i64 y.t.cs)).setCell ⟨tb, 4, none⟩ (.slice ra1 y.t.rs.length rc1)).setCell ⟨tb, 5, none⟩ (.slice wa1 y.t.ws.length wc1)).setCell ⟨tb, 6, none⟩ (.bool y.t.out)).setCell ⟨tb, 7, none⟩ (.string y.t.nm)) w0.heap.size m g g g c) := (((((((LX.out.setr (a := ⟨tb, 0, none⟩) hgt hup9 _).setr (a := ⟨tb, 1, none⟩) hgt hup9 _).setr (a := ⟨tb, 2, none⟩) hgt hup9 _).setr (a := ⟨tb, 3, none⟩) hgt hup9 _).setr (a := ⟨tb, 4, none⟩) hgt hup9 _).setr (a := ⟨tb, 5, none⟩) hgt hup9 _).setr (a := ⟨tb, 6, none⟩) hgt hup9 _).setr (a := ⟨tb, 7, none⟩) hgt hup9 _
    have RT2 : Hid (TLie ((((((((v3.setCell ⟨tb, 0, none⟩ (.int .i64 y.t.id)).setCell ⟨tb, 1, none⟩ (.int .i64 y.t.st)).setCell ⟨tb, 2, none⟩ (.int .i64 y.t.snap)).setCell ⟨tb, 3, none⟩ (.int .i64 y.t.cs)).setCell ⟨tb, 4, none⟩ (.slice ra1 y.t.rs.length rc1)).setCell ⟨tb, 5, none⟩ (.slice wa1 y.t.ws.length wc1)).setCell ⟨tb, 6, none⟩ (.bool y.t.out)).setCell ⟨tb, 7, none⟩ (.string y.t.nm)) p0 q0 (setW y.t y.t.ws) ra1 rc1 wa1 wc1) := (((((((RT.out.setO (a := ⟨tb, 0, none⟩) NB2.out _).setO (a := ⟨tb, 1, none⟩) NB2.out _).setO (a := ⟨tb, 2, none⟩) NB2.out _).setO (a := ⟨tb, 3, none⟩) NB2.out _).setO (a := ⟨tb, 4, none⟩) NB2.out _).setO (a := ⟨tb, 5, none⟩) NB2.out _).setO (a := ⟨tb, 6, none⟩) NB2.out _).setO (a := ⟨tb, 7, none⟩) NB2.out _
    have hwt : w.heap.size ≤ tb := by omega
    have HB2 : Hid (Below w.heap.size w ((((((((v3.setCell ⟨tb, 0, none⟩ (.int .i64 y.t.id)).setCell ⟨tb, 1, none⟩ (.int .i64 y.t.st)).setCell ⟨tb, 2, none⟩ (.int .i64 y.t.snap)).setCell ⟨tb, 3, none⟩ (.int .i64 y.t.cs)).setCell ⟨tb, 4, none⟩ (.slice ra1 y.t.rs.length rc1)).setCell ⟨tb, 5, none⟩ (.slice wa1 y.t.ws.length wc1)).setCell ⟨tb, 6, none⟩ (.bool y.t.out)).setCell ⟨tb, 7, none⟩ (.string y.t.nm))) := (((((((HB.out.setCell (p := ⟨tb, 0, none⟩) hwt _).setCell (p := ⟨tb, 1, none⟩) hwt _).setCell (p := ⟨tb, 2, none⟩) hwt _).setCell (p := ⟨tb, 3, none⟩) hwt _).setCell (p := ⟨tb, 4, none⟩) hwt _).setCell (p := ⟨tb, 5, none⟩) hwt _).setCell (p := ⟨tb, 6, none⟩) hwt _).setCell (p := ⟨tb, 7, none⟩) hwt _
    have HQ2 : Hid (q0 ≤ ((((((((v3.setCell ⟨tb, 0, none⟩ (.int .i64 y.t.id)).setCell ⟨tb, 1, none⟩ (.int .i64 y.t.st)).setCell ⟨tb, 2, none⟩ (.int .i64 y.t.snap)).setCell ⟨tb, 3, none⟩ (.int .i64 y.t.cs)).setCell ⟨tb, 4, none⟩ (.slice ra1 y.t.rs.length rc1)).setCell ⟨tb, 5, none⟩ (.slice wa1 y.t.ws.length wc1)).setCell ⟨tb, 6, none⟩ (.bool y.t.out)).setCell ⟨tb, 7, none⟩ (.string y.t.nm)).heap.size) := le_set (le_set (le_set (le_set (le_set (le_set (le_set (le_set HQ.out _ _) _ _) _ _) _ _) _ _) _ _) _ _) _ _
    clear BT BA BX BR BC LX RT HB HQ
    generalize ((((((((v3.setCell ⟨tb, 0, none⟩ (.int .i64 y.t.id)).setCell ⟨tb, 1, none⟩ (.int .i64 y.t.st)).setCell ⟨tb, 2, none⟩ (.int .i64 y.t.snap)).setCell ⟨tb, 3, none⟩ (.int .i64 y.t.cs)).setCell ⟨tb, 4, none⟩ (.slice ra1 y.t.rs.length rc1)).setCell ⟨tb, 5, none⟩ (.slice wa1 y.t.ws.length wc1)).setCell ⟨tb, 6, none⟩ (.bool y.t.out)).setCell ⟨tb, 7, none⟩ (.string y.t.nm)) = v8 at *
    refine hK.out _ _ (HS.out _ HB2.out BA2.out BX2.out) (fun hHeldS => ?_)
    clear hK K
    (refine tk 12 ?_ rfl (Or.inl ⟨by rfl, ?_⟩) ?_; rotate_left; (focus (intro w h; (try dsimp only at h); go_simp; (try with_reducible rfl))); simp only [Act.put, tA, tB, tC, tD, tE, tF])
    refine wpAnyH_done (by kernel_rfl) ?_ _
    have x0 := BC2.out.c0
    have x1 := BC2.out.c1
    have x2 := BC2.out.c2
    have x3 := BC2.out.c3
    have x4 := BC2.out.c4
    have x5 := BC2.out.c5
    have q0 := BR2.out.c0
    have fq0 := BR2.out.fz 0
    have q1 := BR2.out.c1
    have fq1 := BR2.out.fz 1
    have q2 := BR2.out.c2
    have fq2 := BR2.out.fz 2
    have q3 := BR2.out.c3
    have fq3 := BR2.out.fz 3
    have q4 := BR2.out.c4
    have fq4 := BR2.out.fz 4
    have q5 := BR2.out.c5
    have fq5 := BR2.out.fz 5
    go_wp2
    refine bodyPost_ret (v := .tuple #[.agg #[.slice c.b.va c.b.vs.length c.b.vc, .slice c.b.pa c.b.ps.length c.b.pc, .slice c.b.qa c.b.qs.length c.b.qc, .int .i64 c.b.cs, .int .i64 c.b.nx, .slice c.oa c.os.length c.oc], .int .i64 3]) (by simp [results, Tryz.results16, go_sem, q0, q1, q2, q3, q4, q5]) rfl ⟨c, by rw [HC.out], HSM.out, ?_, ?_⟩
    ·exact (((((((LX2.out.q0 g (Nat.le_refl _)).setr (a := ⟨w.heap.size + 1 + 1, 0, none⟩) (Or.inl hrb) _).setr (a := ⟨w.heap.size + 1 + 1, 1, none⟩) (Or.inl hrb) _).setr (a := ⟨w.heap.size + 1 + 1, 2, none⟩) (Or.inl hrb) _).setr (a := ⟨w.heap.size + 1 + 1, 3, none⟩) (Or.inl hrb) _).setr (a := ⟨w.heap.size + 1 + 1, 4, none⟩) (Or.inl hrb) _).setr (a := ⟨w.heap.size + 1 + 1, 5, none⟩) (Or.inl hrb) _).lq (by omega) (le_set (le_set (le_set (le_set (le_set (le_set (by have := HQ2.out; have := HGP.out; have := HPQ.out; omega) _ _) _ _) _ _) _ _) _ _) _ _)
    ·exact (((((HB2.out.setCell (p := ⟨w.heap.size + 1 + 1, 0, none⟩) hwr _).setCell (p := ⟨w.heap.size + 1 + 1, 1, none⟩) hwr _).setCell (p := ⟨w.heap.size + 1 + 1, 2, none⟩) hwr _).setCell (p := ⟨w.heap.size + 1 + 1, 3, none⟩) hwr _).setCell (p := ⟨w.heap.size + 1 + 1, 4, none⟩) hwr _).setCell (p := ⟨w.heap.size + 1 + 1, 5, none⟩) hwr _
  ·have hwk : wkB y.t x = true := HWK0.out
   have HC : Hid (pkCode e i x = 0) := HC1.out
   have HT : Hid (pkT y.t x = setW y.t (putS y.t.ws x)) := by show _ = _; rw [HT1.out, if_pos ⟨rfl, rfl⟩]
   clear HC1 HT1
   go_upto_region 7 with fail
   have CK : Hid (∀ W : World, Below w.heap.size w W → Calls Tryz.prog 39 #[.agg #[.int .i64 y.t.id, .int .i64 y.t.st, .int .i64 y.t.snap, .int .i64 y.t.cs, .slice y.ra y.t.rs.length y.rc, .slice y.wa y.t.ws.length y.wc, .bool y.t.out, .string y.t.nm], .agg #[.string x.1, .string x.2.1, .bool x.2.2]] W fun e w' => ∃ ra1 rc1 wa1 wc1, e = .returned (.tuple #[.agg #[.int .i64 y.t.id, .int .i64 y.t.st, .int .i64 y.t.snap, .int .i64 y.t.cs, .slice ra1 y.t.rs.length rc1, .slice wa1 (putS y.t.ws x).length wc1, .bool y.t.out, .string y.t.nm], .bool true]) ∧ TLie w' W.heap.size w'.heap.size (setW y.t (putS y.t.ws x)) ra1 rc1 wa1 wc1 ∧ Below W.heap.size W w') := fun W h => swk_ok y.t y.ra y.wa y.rc y.wc x pt qt HFT.out hx hwk W (HTL.out.below h)
   refine wp_region_held_drew (S := fun w' => w'.cell? ⟨w.heap.size, 5, none⟩ = some (.slice (some ⟨be, 0, none⟩) e.os.length e.oc) ∧ w'.cell? ⟨be, k * 8, none⟩ = some (.int .i64 y.t.id) ∧ w'.cell? ⟨be, k * 8 + 1, none⟩ = some (.int .i64 y.t.st) ∧ w'.cell? ⟨be, k * 8 + 2, none⟩ = some (.int .i64 y.t.snap) ∧ w'.cell? ⟨be, k * 8 + 3, none⟩ = some (.int .i64 y.t.cs) ∧ w'.cell? ⟨be, k * 8 + 4, none⟩ = some (.slice y.ra y.t.rs.length y.rc) ∧ w'.cell? ⟨be, k * 8 + 5, none⟩ = some (.slice y.wa y.t.ws.length y.wc) ∧ w'.cell? ⟨be, k * 8 + 6, none⟩ = some (.bool y.t.out) ∧ w'.cell? ⟨be, k * 8 + 7, none⟩ = some (.string y.t.nm) ∧ w'.cell? ⟨w.heap.size + 1, 0, none⟩ = some (.string x.1) ∧ w'.cell? ⟨w.heap.size + 1, 1, none⟩ = some (.string x.2.1) ∧ w'.cell? ⟨w.heap.size + 1, 2, none⟩ = some (.bool x.2.2)) (by kernel_rfl) (HS.out w3 HB.out BA.out BX.out) (fun hHeld => ?_)
   (refine tk 0 ?_ rfl (Or.inl ⟨by rfl, ?_⟩) ?_; rotate_left; (focus (intro w h; (try dsimp only at h); go_simp; (try with_reducible rfl))); simp only [Act.put, tA, tB, tD, tE, tF])
   (refine tk 1 ?_ rfl (Or.inl ⟨by rfl, ?_⟩) ?_; rotate_left; (focus (intro w h; (try dsimp only at h); go_simp; (try with_reducible rfl))); simp only [Act.put, tA, tB, tC, tD, tE, tF])
   (refine tk 2 ?_ rfl (Or.inl ⟨by rfl, ?_⟩) ?_; rotate_left; (focus (intro w h; (try dsimp only at h); go_simp; (try with_reducible rfl))); simp only [Act.put, tA, tB, tC, tD, tE, tF])
   (refine tk 3 ?_ rfl (Or.inl ⟨by rfl, ?_⟩) ?_; rotate_left; (focus (intro w h; (try dsimp only at h); go_simp; (try with_reducible rfl))); simp only [Act.put, tA, tB, tC, tD, tE, tF])
   (refine tk 4 ?_ rfl (Or.inl ⟨by rfl, ?_⟩) ?_; rotate_left; (focus (intro w h; (try dsimp only at h); go_simp; (try with_reducible rfl))); simp only [Act.put, tA, tB, tC, tD, tE, tF])
   (refine tk 5 ?_ rfl (Or.inl ⟨by rfl, ?_⟩) ?_; rotate_left; (focus (intro w h; (try dsimp only at h); go_simp; (try with_reducible rfl))); simp only [Act.put, tA, tB, tC, tD, tE, tF])
   have hbd : Below w3.heap.size w3 w3.drew := (belowRefl w3).drew
   replace BA := hide (BA.out.below hbd)
   replace BX := hide (BX.out.below hbd)
   replace BR := hide (BR.out.below hbd)
   replace BC := hide (BC.out.below hbd)
   replace LX := hide (LX.out.below hbd)
   replace HB := hide (HB.out.trans (hbd.mono HB.out.size))
   replace HGW := hide (Nat.lt_of_lt_of_le HGW.out hbd.size)
   clear hbd
   generalize w3.drew = vd at *
   refine wpAnyH_ready (rs := [6, 10]) (by kernel_rfl) (by simp) ?_
   refine (AllReadyH.cons rfl (fun K hK => ?_) (AllReadyH.cons rfl (fun K hK => ?_) AllReadyH.nil))
   ·go_simp
    go_wp2_with fail
    refine (CK.out _ HB.out).mono ?_
    rintro ex v2 ⟨ra1, rc1, wa1, wc1, rfl, ht, hb⟩
    obtain ⟨q0, hq0⟩ : ∃ q0, q0 = v2.heap.size := ⟨_, rfl⟩
    have RT : Hid (TLie v2 vd.heap.size q0 (setW y.t (putS y.t.ws x)) ra1 rc1 wa1 wc1) := by rw [hq0]; exact ht
    have HQ : Hid (q0 ≤ v2.heap.size) := by rw [hq0]; exact Nat.le_refl _
    have HPQ : Hid (vd.heap.size ≤ q0) := by rw [hq0]; exact hb.size
    have HGP : Hid (g < vd.heap.size) := HGW.out
    replace BA := hide (BA.out.below hb)
    replace BX := hide (BX.out.below hb)
    replace BR := hide (BR.out.below hb)
    replace BC := hide (BC.out.below hb)
    replace LX := hide (LX.out.below hb)
    replace HB := hide (HB.out.trans (hb.mono HB.out.size))
    replace HGW := hide (Nat.lt_of_lt_of_le HGW.out hb.size)
    clear ht hb CK
    generalize vd.heap.size = p0 at *
    clear hq0
    go_wp2_with fail
    refine hK.out _ _ (HS.out _ HB.out BA.out BX.out) (fun hHeldK => ?_)
    clear hK K
    (refine tk 7 ?_ rfl (Or.inl ⟨by rfl, ?_⟩) ?_; rotate_left; (focus (intro w h; (try dsimp only at h); go_simp; (try with_reducible rfl))); simp only [Act.put, tA, tB, tC, tD, tE, tF])
    (refine tk 8 ?_ rfl (Or.inl ⟨by rfl, ?_⟩) ?_; rotate_left; (focus (intro w h; (try dsimp only at h); go_simp; (try with_reducible rfl))); simp only [Act.put, tA, tB, tC, tD, tE, tF])
    (refine tk 9 ?_ rfl (Or.inl ⟨by rfl, ?_⟩) ?_; rotate_left; (focus (intro w h; (try dsimp only at h); go_simp; (try with_reducible rfl))); simp only [Act.put, tA, tB, tC, tD, tE, tF])
    refine wpAnyH_ready (rs := [10]) (by kernel_rfl) (by simp) ?_
    refine (AllReadyH.cons rfl (fun K hK => ?_) AllReadyH.nil)
    go_simp
    have hba : Below v2.heap.size v2 (v2.alloc (.cells #[.int .i64 0, .int .i64 0, .int .i64 0, .int .i64 0, .slice none 0 0, .slice none 0 0, .bool false, .string ⟨#[]⟩] 56)) := (belowRefl v2).alloc (Nat.le_refl _) _
    have BT : Hid (Bx (v2.alloc (.cells #[.int .i64 0, .int .i64 0, .int .i64 0, .int .i64 0, .slice none 0 0, .slice none 0 0, .bool false, .string ⟨#[]⟩] 56)) v2.heap.size [.int .i64 0, .int .i64 0, .int .i64 0, .int .i64 0, .slice none 0 0, .slice none 0 0, .bool false, .string ⟨#[]⟩]) := Bx.new v2 [.int .i64 0, .int .i64 0, .int .i64 0, .int .i64 0, .slice none 0 0, .slice none 0 0, .bool false, .string ⟨#[]⟩] 56
    have NG : Hid (g < v2.heap.size) := HGW.out
    replace RT := hide (RT.out.below hba)
    have NB : Hid (v2.heap.size < p0 ∨ q0 ≤ v2.heap.size) := Or.inr HQ.out
    replace HQ := hide (Nat.le_trans HQ.out hba.size)
    replace BA := hide (BA.out.below hba)
    replace BX := hide (BX.out.below hba)
    replace BR := hide (BR.out.below hba)
    replace BC := hide (BC.out.below hba)
    replace LX := hide (LX.out.below hba)
    replace HB := hide (HB.out.trans (hba.mono HB.out.size))
    replace HGW := hide (Nat.lt_of_lt_of_le HGW.out hba.size)
    clear hba
    generalize hq1 : v2.heap.size = tb at *
    clear hq1
    generalize (v2.alloc (.cells #[.int .i64 0, .int .i64 0, .int .i64 0, .int .i64 0, .slice none 0 0, .slice none 0 0, .bool false, .string ⟨#[]⟩] 56)) = v3 at *
    refine hK.out _ _ (HS.out _ HB.out BA.out BX.out) (fun hHeldA => ?_)
    clear hK K
    refine wpAnyH_ready (rs := [11]) (by kernel_rfl) (by simp) ?_
    refine (AllReadyH.cons rfl (fun K hK => ?_) AllReadyH.nil)
    have o0 := BT.out.c0
    have fo0 := BT.out.fz 0
    have o1 := BT.out.c1
    have fo1 := BT.out.fz 1
    have o2 := BT.out.c2
    have fo2 := BT.out.fz 2
    have o3 := BT.out.c3
    have fo3 := BT.out.fz 3
    have o4 := BT.out.c4
    have fo4 := BT.out.fz 4
    have o5 := BT.out.c5
    have fo5 := BT.out.fz 5
    have o6 := BT.out.c6
    have fo6 := BT.out.fz 6
    have o7 := BT.out.c7
    have fo7 := BT.out.fz 7
    go_simp
    clear o0 fo0 o1 fo1 o2 fo2 o3 fo3 o4 fo4 o5 fo5 o6 fo6 o7 fo7
    have ng := NG.out
    have nBA : tb ≠ w.heap.size := by omega
    have nBX : tb ≠ w.heap.size + 1 := by omega
    have nBR : tb ≠ w.heap.size + 1 + 1 := by omega
    have nBC : tb ≠ g := by omega
    have hgt : g ≤ tb := by omega
    have hup9 : ∀ b, (Value.slice c.oa c.os.length c.oc).ownBlock = some b → b ≠ tb := fun b e9 => by have := LX.out.o.up b e9; omega
    have BT2 : Hid (Bx ((((((((v3.setCell ⟨tb, 0, none⟩ (.int .i64 y.t.id)).setCell ⟨tb, 1, none⟩ (.int .i64 y.t.st)).setCell ⟨tb, 2, none⟩ (.int .i64 y.t.snap)).setCell ⟨tb, 3, none⟩ (.int .i64 y.t.cs)).setCell ⟨tb, 4, none⟩ (.slice ra1 y.t.rs.length rc1)).setCell ⟨tb, 5, none⟩ (.slice wa1 (putS y.t.ws x).length wc1)).setCell ⟨tb, 6, none⟩ (.bool y.t.out)).setCell ⟨tb, 7, none⟩ (.string y.t.nm)) tb [.int .i64 y.t.id, .int .i64 y.t.st, .int .i64 y.t.snap, .int .i64 y.t.cs, .slice ra1 y.t.rs.length rc1, .slice wa1 (putS y.t.ws x).length wc1, .bool y.t.out, .string y.t.nm]) := (((((((BT.out.set 0 _).set 1 _).set 2 _).set 3 _).set 4 _).set 5 _).set 6 _).set 7 _
    have BA2 : Hid (Bx ((((((((v3.setCell ⟨tb, 0, none⟩ (.int .i64 y.t.id)).setCell ⟨tb, 1, none⟩ (.int .i64 y.t.st)).setCell ⟨tb, 2, none⟩ (.int .i64 y.t.snap)).setCell ⟨tb, 3, none⟩ (.int .i64 y.t.cs)).setCell ⟨tb, 4, none⟩ (.slice ra1 y.t.rs.length rc1)).setCell ⟨tb, 5, none⟩ (.slice wa1 (putS y.t.ws x).length wc1)).setCell ⟨tb, 6, none⟩ (.bool y.t.out)).setCell ⟨tb, 7, none⟩ (.string y.t.nm)) (w.heap.size) [.slice e.b.va e.b.vs.length e.b.vc, .slice e.b.pa e.b.ps.length e.b.pc, .slice e.b.qa e.b.qs.length e.b.qc, .int .i64 e.b.cs, .int .i64 e.b.nx, .slice e.oa e.os.length e.oc]) := (((((((BA.out.setO (p := ⟨tb, 0, none⟩) nBA _).setO (p := ⟨tb, 1, none⟩) nBA _).setO (p := ⟨tb, 2, none⟩) nBA _).setO (p := ⟨tb, 3, none⟩) nBA _).setO (p := ⟨tb, 4, none⟩) nBA _).setO (p := ⟨tb, 5, none⟩) nBA _).setO (p := ⟨tb, 6, none⟩) nBA _).setO (p := ⟨tb, 7, none⟩) nBA _
    have BX2 : Hid (Bx ((((((((v3.setCell ⟨tb, 0, none⟩ (.int .i64 y.t.id)).setCell ⟨tb, 1, none⟩ (.int .i64 y.t.st)).setCell ⟨tb, 2, none⟩ (.int .i64 y.t.snap)).setCell ⟨tb, 3, none⟩ (.int .i64 y.t.cs)).setCell ⟨tb, 4, none⟩ (.slice ra1 y.t.rs.length rc1)).setCell ⟨tb, 5, none⟩ (.slice wa1 (putS y.t.ws x).length wc1)).setCell ⟨tb, 6, none⟩ (.bool y.t.out)).setCell ⟨tb, 7, none⟩ (.string y.t.nm)) (w.heap.size + 1) [.string x.1, .string x.2.1, .bool x.2.2]) := (((((((BX.out.setO (p := ⟨tb, 0, none⟩) nBX _).setO (p := ⟨tb, 1, none⟩) nBX _).setO (p := ⟨tb, 2, none⟩) nBX _).setO (p := ⟨tb, 3, none⟩) nBX _).setO (p := ⟨tb, 4, none⟩) nBX _).setO (p := ⟨tb, 5, none⟩) nBX _).setO (p := ⟨tb, 6, none⟩) nBX _).setO (p := ⟨tb, 7, none⟩) nBX _
    have BR2 : Hid (Bx ((((((((v3.setCell ⟨tb, 0, none⟩ (.int .i64 y.t.id)).setCell ⟨tb, 1, none⟩ (.int .i64 y.t.st)).setCell ⟨tb, 2, none⟩ (.int .i64 y.t.snap)).setCell ⟨tb, 3, none⟩ (.int .i64 y.t.cs)).setCell ⟨tb, 4, none⟩ (.slice ra1 y.t.rs.length rc1)).setCell ⟨tb, 5, none⟩ (.slice wa1 (putS y.t.ws x).length wc1)).setCell ⟨tb, 6, none⟩ (.bool y.t.out)).setCell ⟨tb, 7, none⟩ (.string y.t.nm)) (w.heap.size + 1 + 1) [.slice none 0 0, .slice none 0 0, .slice none 0 0, .int .i64 0, .int .i64 0, .slice none 0 0]) := (((((((BR.out.setO (p := ⟨tb, 0, none⟩) nBR _).setO (p := ⟨tb, 1, none⟩) nBR _).setO (p := ⟨tb, 2, none⟩) nBR _).setO (p := ⟨tb, 3, none⟩) nBR _).setO (p := ⟨tb, 4, none⟩) nBR _).setO (p := ⟨tb, 5, none⟩) nBR _).setO (p := ⟨tb, 6, none⟩) nBR _).setO (p := ⟨tb, 7, none⟩) nBR _
    have BC2 : Hid (Bx ((((((((v3.setCell ⟨tb, 0, none⟩ (.int .i64 y.t.id)).setCell ⟨tb, 1, none⟩ (.int .i64 y.t.st)).setCell ⟨tb, 2, none⟩ (.int .i64 y.t.snap)).setCell ⟨tb, 3, none⟩ (.int .i64 y.t.cs)).setCell ⟨tb, 4, none⟩ (.slice ra1 y.t.rs.length rc1)).setCell ⟨tb, 5, none⟩ (.slice wa1 (putS y.t.ws x).length wc1)).setCell ⟨tb, 6, none⟩ (.bool y.t.out)).setCell ⟨tb, 7, none⟩ (.string y.t.nm)) (g) [.slice c.b.va c.b.vs.length c.b.vc, .slice c.b.pa c.b.ps.length c.b.pc, .slice c.b.qa c.b.qs.length c.b.qc, .int .i64 c.b.cs, .int .i64 c.b.nx, .slice c.oa c.os.length c.oc]) := (((((((BC.out.setO (p := ⟨tb, 0, none⟩) nBC _).setO (p := ⟨tb, 1, none⟩) nBC _).setO (p := ⟨tb, 2, none⟩) nBC _).setO (p := ⟨tb, 3, none⟩) nBC _).setO (p := ⟨tb, 4, none⟩) nBC _).setO (p := ⟨tb, 5, none⟩) nBC _).setO (p := ⟨tb, 6, none⟩) nBC _).setO (p := ⟨tb, 7, none⟩) nBC _
    have LX2 : Hid (EnLx ((((((((v3.setCell ⟨tb, 0, none⟩ (.int .i64 y.t.id)).setCell ⟨tb, 1, none⟩ (.int .i64 y.t.st)).setCell ⟨tb, 2, none⟩ (.int .i64 y.t.snap)).setCell ⟨tb, 3, none⟩ (.int .i64 y.t.cs)).setCell ⟨tb, 4, none⟩ (.slice ra1 y.t.rs.length rc1)).setCell ⟨tb, 5, none⟩ (.slice wa1 (putS y.t.ws x).length wc1)).setCell ⟨tb, 6, none⟩ (.bool y.t.out)).setCell ⟨tb, 7, none⟩ (.string y.t.nm)) w0.heap.size m g g g c) := (((((((LX.out.setr (a := ⟨tb, 0, none⟩) hgt hup9 _).setr (a := ⟨tb, 1, none⟩) hgt hup9 _).setr (a := ⟨tb, 2, none⟩) hgt hup9 _).setr (a := ⟨tb, 3, none⟩) hgt hup9 _).setr (a := ⟨tb, 4, none⟩) hgt hup9 _).setr (a := ⟨tb, 5, none⟩) hgt hup9 _).setr (a := ⟨tb, 6, none⟩) hgt hup9 _).setr (a := ⟨tb, 7, none⟩) hgt hup9 _
    have RT2 : Hid (TLie ((((((((v3.setCell ⟨tb, 0, none⟩ (.int .i64 y.t.id)).setCell ⟨tb, 1, none⟩ (.int .i64 y.t.st)).setCell ⟨tb, 2, none⟩ (.int .i64 y.t.snap)).setCell ⟨tb, 3, none⟩ (.int .i64 y.t.cs)).setCell ⟨tb, 4, none⟩ (.slice ra1 y.t.rs.length rc1)).setCell ⟨tb, 5, none⟩ (.slice wa1 (putS y.t.ws x).length wc1)).setCell ⟨tb, 6, none⟩ (.bool y.t.out)).setCell ⟨tb, 7, none⟩ (.string y.t.nm)) p0 q0 (setW y.t (putS y.t.ws x)) ra1 rc1 wa1 wc1) := (((((((RT.out.setO (a := ⟨tb, 0, none⟩) NB.out _).setO (a := ⟨tb, 1, none⟩) NB.out _).setO (a := ⟨tb, 2, none⟩) NB.out _).setO (a := ⟨tb, 3, none⟩) NB.out _).setO (a := ⟨tb, 4, none⟩) NB.out _).setO (a := ⟨tb, 5, none⟩) NB.out _).setO (a := ⟨tb, 6, none⟩) NB.out _).setO (a := ⟨tb, 7, none⟩) NB.out _
    have hwt : w.heap.size ≤ tb := by omega
    have HB2 : Hid (Below w.heap.size w ((((((((v3.setCell ⟨tb, 0, none⟩ (.int .i64 y.t.id)).setCell ⟨tb, 1, none⟩ (.int .i64 y.t.st)).setCell ⟨tb, 2, none⟩ (.int .i64 y.t.snap)).setCell ⟨tb, 3, none⟩ (.int .i64 y.t.cs)).setCell ⟨tb, 4, none⟩ (.slice ra1 y.t.rs.length rc1)).setCell ⟨tb, 5, none⟩ (.slice wa1 (putS y.t.ws x).length wc1)).setCell ⟨tb, 6, none⟩ (.bool y.t.out)).setCell ⟨tb, 7, none⟩ (.string y.t.nm))) := (((((((HB.out.setCell (p := ⟨tb, 0, none⟩) hwt _).setCell (p := ⟨tb, 1, none⟩) hwt _).setCell (p := ⟨tb, 2, none⟩) hwt _).setCell (p := ⟨tb, 3, none⟩) hwt _).setCell (p := ⟨tb, 4, none⟩) hwt _).setCell (p := ⟨tb, 5, none⟩) hwt _).setCell (p := ⟨tb, 6, none⟩) hwt _).setCell (p := ⟨tb, 7, none⟩) hwt _
    have HQ2 : Hid (q0 ≤ ((((((((v3.setCell ⟨tb, 0, none⟩ (.int .i64 y.t.id)).setCell ⟨tb, 1, none⟩ (.int .i64 y.t.st)).setCell ⟨tb, 2, none⟩ (.int .i64 y.t.snap)).setCell ⟨tb, 3, none⟩ (.int .i64 y.t.cs)).setCell ⟨tb, 4, none⟩ (.slice ra1 y.t.rs.length rc1)).setCell ⟨tb, 5, none⟩ (.slice wa1 (putS y.t.ws x).length wc1)).setCell ⟨tb, 6, none⟩ (.bool y.t.out)).setCell ⟨tb, 7, none⟩ (.string y.t.nm)).heap.size) := le_set (le_set (le_set (le_set (le_set (le_set (le_set (le_set HQ.out _ _) _ _) _ _) _ _) _ _) _ _) _ _) _ _
    clear BT BA BX BR BC LX RT HB HQ
    generalize ((((((((v3.setCell ⟨tb, 0, none⟩ (.int .i64 y.t.id)).setCell ⟨tb, 1, none⟩ (.int .i64 y.t.st)).setCell ⟨tb, 2, none⟩ (.int .i64 y.t.snap)).setCell ⟨tb, 3, none⟩ (.int .i64 y.t.cs)).setCell ⟨tb, 4, none⟩ (.slice ra1 y.t.rs.length rc1)).setCell ⟨tb, 5, none⟩ (.slice wa1 (putS y.t.ws x).length wc1)).setCell ⟨tb, 6, none⟩ (.bool y.t.out)).setCell ⟨tb, 7, none⟩ (.string y.t.nm)) = v8 at *
    refine hK.out _ _ (HS.out _ HB2.out BA2.out BX2.out) (fun hHeldS => ?_)
    clear hK K
    (refine tk 12 ?_ rfl (Or.inl ⟨by rfl, ?_⟩) ?_; rotate_left; (focus (intro w h; (try dsimp only at h); go_simp; (try with_reducible rfl))); simp only [Act.put, tA, tB, tC, tD, tE, tF])
    refine wpAnyH_done (by kernel_rfl) ?_ _
    have o0 := BT2.out.c0
    have o1 := BT2.out.c1
    have o2 := BT2.out.c2
    have o3 := BT2.out.c3
    have o4 := BT2.out.c4
    have o5 := BT2.out.c5
    have o6 := BT2.out.c6
    have o7 := BT2.out.c7
    have CR := hide (HCL.out _ LX2.out)
    have r0 := CR.out.c0
    have r1 := CR.out.c1
    have r2 := CR.out.c2
    have r3 := CR.out.c3
    have r4 := CR.out.c4
    have r5 := CR.out.c5
    have r6 := CR.out.c6
    have r7 := CR.out.c7
    have OW : Hid (GOwn encT 56 v8 m (.slice (some ⟨bc, 0, none⟩) c.os.length c.oc) c.os) := by have h := LX2.out.o.own; rw [HBC.out] at h; exact h
    have fr0 : v8.frozen? ⟨bc, k * 8, none⟩ = false := World.ownsRow.frozenAt OW.out (k * 8)
    have fr1 : v8.frozen? ⟨bc, k * 8 + 1, none⟩ = false := World.ownsRow.frozenAt OW.out (k * 8 + 1)
    have fr2 : v8.frozen? ⟨bc, k * 8 + 2, none⟩ = false := World.ownsRow.frozenAt OW.out (k * 8 + 2)
    have fr3 : v8.frozen? ⟨bc, k * 8 + 3, none⟩ = false := World.ownsRow.frozenAt OW.out (k * 8 + 3)
    have fr4 : v8.frozen? ⟨bc, k * 8 + 4, none⟩ = false := World.ownsRow.frozenAt OW.out (k * 8 + 4)
    have fr5 : v8.frozen? ⟨bc, k * 8 + 5, none⟩ = false := World.ownsRow.frozenAt OW.out (k * 8 + 5)
    have fr6 : v8.frozen? ⟨bc, k * 8 + 6, none⟩ = false := World.ownsRow.frozenAt OW.out (k * 8 + 6)
    have fr7 : v8.frozen? ⟨bc, k * 8 + 7, none⟩ = false := World.ownsRow.frozenAt OW.out (k * 8 + 7)
    have z5 := BC2.out.c5
    rw [HBC.out] at z5
    go_upto_region 11 with fail
    clear z5 o0 r0 fr0 o1 r1 fr1 o2 r2 fr2 o3 r3 fr3 o4 r4 fr4 o5 r5 fr5 o6 r6 fr6 o7 r7 fr7
    have P8 := own_put8 (W := v8) (i := k) rfl OW.out HKC.out ⟨setW y.t (putS y.t.ws x), ra1, rc1, wa1, wc1⟩
    have hq := LX2.out.put (y := ⟨setW y.t (putS y.t.ws x), ra1, rc1, wa1, wc1⟩) (k := k) (p := p0) (q := q0) (by have := HGP.out; omega) HPQ.out (RT2.out.grown P8.2 (fun b e9 => by cases e9; have := LX2.out.o.up bc (by rw [HBC.out]; rfl); have := HGP.out; left; show bc < p0; omega)) HBC.out P8.2 P8.1
    have hup : bc < g := LX2.out.o.up bc (by rw [HBC.out]; rfl)
    have hlo : m ≤ bc := (LX2.out.o.lo bc (by rw [HBC.out]; rfl)).1
    have BC3 : Hid (Bx ((((((((v8.setCell ⟨bc, k * 8, none⟩ (.int .i64 y.t.id)).setCell ⟨bc, k * 8 + 1, none⟩ (.int .i64 y.t.st)).setCell ⟨bc, k * 8 + 2, none⟩ (.int .i64 y.t.snap)).setCell ⟨bc, k * 8 + 3, none⟩ (.int .i64 y.t.cs)).setCell ⟨bc, k * 8 + 4, none⟩ (.slice ra1 y.t.rs.length rc1)).setCell ⟨bc, k * 8 + 5, none⟩ (.slice wa1 (putS y.t.ws x).length wc1)).setCell ⟨bc, k * 8 + 6, none⟩ (.bool y.t.out)).setCell ⟨bc, k * 8 + 7, none⟩ (.string y.t.nm)) g [.slice c.b.va c.b.vs.length c.b.vc, .slice c.b.pa c.b.ps.length c.b.pc, .slice c.b.qa c.b.qs.length c.b.qc, .int .i64 c.b.cs, .int .i64 c.b.nx, .slice c.oa c.os.length c.oc]) := (bx_marked BC2.out P8.2 (by intro e9; cases e9; omega))
    have BR3 : Hid (Bx ((((((((v8.setCell ⟨bc, k * 8, none⟩ (.int .i64 y.t.id)).setCell ⟨bc, k * 8 + 1, none⟩ (.int .i64 y.t.st)).setCell ⟨bc, k * 8 + 2, none⟩ (.int .i64 y.t.snap)).setCell ⟨bc, k * 8 + 3, none⟩ (.int .i64 y.t.cs)).setCell ⟨bc, k * 8 + 4, none⟩ (.slice ra1 y.t.rs.length rc1)).setCell ⟨bc, k * 8 + 5, none⟩ (.slice wa1 (putS y.t.ws x).length wc1)).setCell ⟨bc, k * 8 + 6, none⟩ (.bool y.t.out)).setCell ⟨bc, k * 8 + 7, none⟩ (.string y.t.nm)) (w.heap.size + 1 + 1) [.slice none 0 0, .slice none 0 0, .slice none 0 0, .int .i64 0, .int .i64 0, .slice none 0 0]) := (bx_marked BR2.out P8.2 (by intro e9; injection e9 with e8; omega))
    have HB3 : Hid (Below w.heap.size w ((((((((v8.setCell ⟨bc, k * 8, none⟩ (.int .i64 y.t.id)).setCell ⟨bc, k * 8 + 1, none⟩ (.int .i64 y.t.st)).setCell ⟨bc, k * 8 + 2, none⟩ (.int .i64 y.t.snap)).setCell ⟨bc, k * 8 + 3, none⟩ (.int .i64 y.t.cs)).setCell ⟨bc, k * 8 + 4, none⟩ (.slice ra1 y.t.rs.length rc1)).setCell ⟨bc, k * 8 + 5, none⟩ (.slice wa1 (putS y.t.ws x).length wc1)).setCell ⟨bc, k * 8 + 6, none⟩ (.bool y.t.out)).setCell ⟨bc, k * 8 + 7, none⟩ (.string y.t.nm))) := (HB2.out.trans ((Zn.ofGrown (lo := m) (hi := g) P8.2 (fun b e9 => by cases e9; exact ⟨hlo, hup⟩)).below (by omega) HB2.out.size))
    have HQ3 : Hid (q0 ≤ ((((((((v8.setCell ⟨bc, k * 8, none⟩ (.int .i64 y.t.id)).setCell ⟨bc, k * 8 + 1, none⟩ (.int .i64 y.t.st)).setCell ⟨bc, k * 8 + 2, none⟩ (.int .i64 y.t.snap)).setCell ⟨bc, k * 8 + 3, none⟩ (.int .i64 y.t.cs)).setCell ⟨bc, k * 8 + 4, none⟩ (.slice ra1 y.t.rs.length rc1)).setCell ⟨bc, k * 8 + 5, none⟩ (.slice wa1 (putS y.t.ws x).length wc1)).setCell ⟨bc, k * 8 + 6, none⟩ (.bool y.t.out)).setCell ⟨bc, k * 8 + 7, none⟩ (.string y.t.nm)).heap.size) := Nat.le_trans HQ2.out P8.2.size
    have HEQ : Hid (EnQ ((((((((v8.setCell ⟨bc, k * 8, none⟩ (.int .i64 y.t.id)).setCell ⟨bc, k * 8 + 1, none⟩ (.int .i64 y.t.st)).setCell ⟨bc, k * 8 + 2, none⟩ (.int .i64 y.t.snap)).setCell ⟨bc, k * 8 + 3, none⟩ (.int .i64 y.t.cs)).setCell ⟨bc, k * 8 + 4, none⟩ (.slice ra1 y.t.rs.length rc1)).setCell ⟨bc, k * 8 + 5, none⟩ (.slice wa1 (putS y.t.ws x).length wc1)).setCell ⟨bc, k * 8 + 6, none⟩ (.bool y.t.out)).setCell ⟨bc, k * 8 + 7, none⟩ (.string y.t.nm)) w0.heap.size m g p0 q0 ⟨c.b, c.os.set k ⟨setW y.t (putS y.t.ws x), ra1, rc1, wa1, wc1⟩, c.oa, c.oc⟩) := hq
    have HD : Hid (EnSame (pkE e i x) ⟨c.b, c.os.set k ⟨setW y.t (putS y.t.ws x), ra1, rc1, wa1, wc1⟩, c.oa, c.oc⟩) := by
     refine ⟨SM.out.b, ?_⟩
     rw [pkE_txs, HTX.out, HT.out]
     show txs (c.os.set k ⟨setW y.t (putS y.t.ws x), ra1, rc1, wa1, wc1⟩) = _
     have h := SM.out.o
     simp only [txs, List.map_set] at h ⊢
     rw [h]
    have HLEN : Hid ((c.os.set k ⟨setW y.t (putS y.t.ws x), ra1, rc1, wa1, wc1⟩).length = c.os.length) := List.length_set
    clear hq P8 BC2 BR2 HB2 HQ2 OW CR LX2 RT2
    generalize ((((((((v8.setCell ⟨bc, k * 8, none⟩ (.int .i64 y.t.id)).setCell ⟨bc, k * 8 + 1, none⟩ (.int .i64 y.t.st)).setCell ⟨bc, k * 8 + 2, none⟩ (.int .i64 y.t.snap)).setCell ⟨bc, k * 8 + 3, none⟩ (.int .i64 y.t.cs)).setCell ⟨bc, k * 8 + 4, none⟩ (.slice ra1 y.t.rs.length rc1)).setCell ⟨bc, k * 8 + 5, none⟩ (.slice wa1 (putS y.t.ws x).length wc1)).setCell ⟨bc, k * 8 + 6, none⟩ (.bool y.t.out)).setCell ⟨bc, k * 8 + 7, none⟩ (.string y.t.nm)) = v9 at *
    have x0 := BC3.out.c0
    have x1 := BC3.out.c1
    have x2 := BC3.out.c2
    have x3 := BC3.out.c3
    have x4 := BC3.out.c4
    have x5 := BC3.out.c5
    have q0 := BR3.out.c0
    have fq0 := BR3.out.fz 0
    have q1 := BR3.out.c1
    have fq1 := BR3.out.fz 1
    have q2 := BR3.out.c2
    have fq2 := BR3.out.fz 2
    have q3 := BR3.out.c3
    have fq3 := BR3.out.fz 3
    have q4 := BR3.out.c4
    have fq4 := BR3.out.fz 4
    have q5 := BR3.out.c5
    have fq5 := BR3.out.fz 5
    go_wp2
    refine bodyPost_ret (v := .tuple #[.agg #[.slice c.b.va c.b.vs.length c.b.vc, .slice c.b.pa c.b.ps.length c.b.pc, .slice c.b.qa c.b.qs.length c.b.qc, .int .i64 c.b.cs, .int .i64 c.b.nx, .slice c.oa c.os.length c.oc], .int .i64 0]) (by simp [results, Tryz.results16, go_sem, q0, q1, q2, q3, q4, q5]) rfl ⟨⟨c.b, c.os.set k ⟨setW y.t (putS y.t.ws x), ra1, rc1, wa1, wc1⟩, c.oa, c.oc⟩, by rw [HC.out, HLEN.out], HD.out, ?_, ?_⟩
    ·exact ((((((HEQ.out.setr (a := ⟨w.heap.size + 1 + 1, 0, none⟩) (Or.inl hrb) _).setr (a := ⟨w.heap.size + 1 + 1, 1, none⟩) (Or.inl hrb) _).setr (a := ⟨w.heap.size + 1 + 1, 2, none⟩) (Or.inl hrb) _).setr (a := ⟨w.heap.size + 1 + 1, 3, none⟩) (Or.inl hrb) _).setr (a := ⟨w.heap.size + 1 + 1, 4, none⟩) (Or.inl hrb) _).setr (a := ⟨w.heap.size + 1 + 1, 5, none⟩) (Or.inl hrb) _).lq (by omega) (le_set (le_set (le_set (le_set (le_set (le_set HQ3.out _ _) _ _) _ _) _ _) _ _) _ _)
    ·exact (((((HB3.out.setCell (p := ⟨w.heap.size + 1 + 1, 0, none⟩) hwr _).setCell (p := ⟨w.heap.size + 1 + 1, 1, none⟩) hwr _).setCell (p := ⟨w.heap.size + 1 + 1, 2, none⟩) hwr _).setCell (p := ⟨w.heap.size + 1 + 1, 3, none⟩) hwr _).setCell (p := ⟨w.heap.size + 1 + 1, 4, none⟩) hwr _).setCell (p := ⟨w.heap.size + 1 + 1, 5, none⟩) hwr _
   ·go_simp
    have hba : Below vd.heap.size vd (vd.alloc (.cells #[.int .i64 0, .int .i64 0, .int .i64 0, .int .i64 0, .slice none 0 0, .slice none 0 0, .bool false, .string ⟨#[]⟩] 56)) := (belowRefl vd).alloc (Nat.le_refl _) _
    have BT : Hid (Bx (vd.alloc (.cells #[.int .i64 0, .int .i64 0, .int .i64 0, .int .i64 0, .slice none 0 0, .slice none 0 0, .bool false, .string ⟨#[]⟩] 56)) vd.heap.size [.int .i64 0, .int .i64 0, .int .i64 0, .int .i64 0, .slice none 0 0, .slice none 0 0, .bool false, .string ⟨#[]⟩]) := Bx.new vd [.int .i64 0, .int .i64 0, .int .i64 0, .int .i64 0, .slice none 0 0, .slice none 0 0, .bool false, .string ⟨#[]⟩] 56
    have NG : Hid (g < vd.heap.size) := HGW.out
    have NB : Hid (vd.heap.size < (vd.alloc (.cells #[.int .i64 0, .int .i64 0, .int .i64 0, .int .i64 0, .slice none 0 0, .slice none 0 0, .bool false, .string ⟨#[]⟩] 56)).heap.size) := BT.out.lt
    replace BA := hide (BA.out.below hba)
    replace BX := hide (BX.out.below hba)
    replace BR := hide (BR.out.below hba)
    replace BC := hide (BC.out.below hba)
    replace LX := hide (LX.out.below hba)
    replace HB := hide (HB.out.trans (hba.mono HB.out.size))
    replace HGW := hide (Nat.lt_of_lt_of_le HGW.out hba.size)
    clear hba
    generalize vd.heap.size = tb at *
    generalize (vd.alloc (.cells #[.int .i64 0, .int .i64 0, .int .i64 0, .int .i64 0, .slice none 0 0, .slice none 0 0, .bool false, .string ⟨#[]⟩] 56)) = v2 at *
    refine hK.out _ _ (HS.out _ HB.out BA.out BX.out) (fun hHeldA => ?_)
    clear hK K
    refine wpAnyH_ready (rs := [6]) (by kernel_rfl) (by simp) ?_
    refine (AllReadyH.cons rfl (fun K hK => ?_) AllReadyH.nil)
    go_simp
    go_wp2_with fail
    refine (CK.out _ HB.out).mono ?_
    rintro ex v3 ⟨ra1, rc1, wa1, wc1, rfl, ht, hb⟩
    obtain ⟨q0, hq0⟩ : ∃ q0, q0 = v3.heap.size := ⟨_, rfl⟩
    have RT : Hid (TLie v3 v2.heap.size q0 (setW y.t (putS y.t.ws x)) ra1 rc1 wa1 wc1) := by rw [hq0]; exact ht
    have HQ : Hid (q0 ≤ v3.heap.size) := by rw [hq0]; exact Nat.le_refl _
    have HPQ : Hid (v2.heap.size ≤ q0) := by rw [hq0]; exact hb.size
    have HGP : Hid (g < v2.heap.size) := HGW.out
    replace BT := hide (BT.out.below hb)
    have NB2 : Hid (tb < v2.heap.size ∨ q0 ≤ tb) := Or.inl NB.out
    replace BA := hide (BA.out.below hb)
    replace BX := hide (BX.out.below hb)
    replace BR := hide (BR.out.below hb)
    replace BC := hide (BC.out.below hb)
    replace LX := hide (LX.out.below hb)
    replace HB := hide (HB.out.trans (hb.mono HB.out.size))
    replace HGW := hide (Nat.lt_of_lt_of_le HGW.out hb.size)
    clear ht hb CK
    generalize v2.heap.size = p0 at *
    clear hq0
    go_wp2_with fail
    refine hK.out _ _ (HS.out _ HB.out BA.out BX.out) (fun hHeldK => ?_)
    clear hK K
    (refine tk 7 ?_ rfl (Or.inl ⟨by rfl, ?_⟩) ?_; rotate_left; (focus (intro w h; (try dsimp only at h); go_simp; (try with_reducible rfl))); simp only [Act.put, tA, tB, tC, tD, tE, tF])
    (refine tk 8 ?_ rfl (Or.inl ⟨by rfl, ?_⟩) ?_; rotate_left; (focus (intro w h; (try dsimp only at h); go_simp; (try with_reducible rfl))); simp only [Act.put, tA, tB, tC, tD, tE, tF])
    (refine tk 9 ?_ rfl (Or.inl ⟨by rfl, ?_⟩) ?_; rotate_left; (focus (intro w h; (try dsimp only at h); go_simp; (try with_reducible rfl))); simp only [Act.put, tA, tB, tC, tD, tE, tF])
    refine wpAnyH_ready (rs := [11]) (by kernel_rfl) (by simp) ?_
    refine (AllReadyH.cons rfl (fun K hK => ?_) AllReadyH.nil)
    have o0 := BT.out.c0
    have fo0 := BT.out.fz 0
    have o1 := BT.out.c1
    have fo1 := BT.out.fz 1
    have o2 := BT.out.c2
    have fo2 := BT.out.fz 2
    have o3 := BT.out.c3
    have fo3 := BT.out.fz 3
    have o4 := BT.out.c4
    have fo4 := BT.out.fz 4
    have o5 := BT.out.c5
    have fo5 := BT.out.fz 5
    have o6 := BT.out.c6
    have fo6 := BT.out.fz 6
    have o7 := BT.out.c7
    have fo7 := BT.out.fz 7
    go_simp
    clear o0 fo0 o1 fo1 o2 fo2 o3 fo3 o4 fo4 o5 fo5 o6 fo6 o7 fo7
    have ng := NG.out
    have nBA : tb ≠ w.heap.size := by omega
    have nBX : tb ≠ w.heap.size + 1 := by omega
    have nBR : tb ≠ w.heap.size + 1 + 1 := by omega
    have nBC : tb ≠ g := by omega
    have hgt : g ≤ tb := by omega
    have hup9 : ∀ b, (Value.slice c.oa c.os.length c.oc).ownBlock = some b → b ≠ tb := fun b e9 => by have := LX.out.o.up b e9; omega
    have BT2 : Hid (Bx ((((((((v3.setCell ⟨tb, 0, none⟩ (.int .i64 y.t.id)).setCell ⟨tb, 1, none⟩ (.int .i64 y.t.st)).setCell ⟨tb, 2, none⟩ (.int .i64 y.t.snap)).setCell ⟨tb, 3, none⟩ (.int .i64 y.t.cs)).setCell ⟨tb, 4, none⟩ (.slice ra1 y.t.rs.length rc1)).setCell ⟨tb, 5, none⟩ (.slice wa1 (putS y.t.ws x).length wc1)).setCell ⟨tb, 6, none⟩ (.bool y.t.out)).setCell ⟨tb, 7, none⟩ (.string y.t.nm)) tb [.int .i64 y.t.id, .int .i64 y.t.st, .int .i64 y.t.snap, .int .i64 y.t.cs, .slice ra1 y.t.rs.length rc1, .slice wa1 (putS y.t.ws x).length wc1, .bool y.t.out, .string y.t.nm]) := (((((((BT.out.set 0 _).set 1 _).set 2 _).set 3 _).set 4 _).set 5 _).set 6 _).set 7 _
    have BA2 : Hid (Bx ((((((((v3.setCell ⟨tb, 0, none⟩ (.int .i64 y.t.id)).setCell ⟨tb, 1, none⟩ (.int .i64 y.t.st)).setCell ⟨tb, 2, none⟩ (.int .i64 y.t.snap)).setCell ⟨tb, 3, none⟩ (.int .i64 y.t.cs)).setCell ⟨tb, 4, none⟩ (.slice ra1 y.t.rs.length rc1)).setCell ⟨tb, 5, none⟩ (.slice wa1 (putS y.t.ws x).length wc1)).setCell ⟨tb, 6, none⟩ (.bool y.t.out)).setCell ⟨tb, 7, none⟩ (.string y.t.nm)) (w.heap.size) [.slice e.b.va e.b.vs.length e.b.vc, .slice e.b.pa e.b.ps.length e.b.pc, .slice e.b.qa e.b.qs.length e.b.qc, .int .i64 e.b.cs, .int .i64 e.b.nx, .slice e.oa e.os.length e.oc]) := (((((((BA.out.setO (p := ⟨tb, 0, none⟩) nBA _).setO (p := ⟨tb, 1, none⟩) nBA _).setO (p := ⟨tb, 2, none⟩) nBA _).setO (p := ⟨tb, 3, none⟩) nBA _).setO (p := ⟨tb, 4, none⟩) nBA _).setO (p := ⟨tb, 5, none⟩) nBA _).setO (p := ⟨tb, 6, none⟩) nBA _).setO (p := ⟨tb, 7, none⟩) nBA _
    have BX2 : Hid (Bx ((((((((v3.setCell ⟨tb, 0, none⟩ (.int .i64 y.t.id)).setCell ⟨tb, 1, none⟩ (.int .i64 y.t.st)).setCell ⟨tb, 2, none⟩ (.int .i64 y.t.snap)).setCell ⟨tb, 3, none⟩ (.int .i64 y.t.cs)).setCell ⟨tb, 4, none⟩ (.slice ra1 y.t.rs.length rc1)).setCell ⟨tb, 5, none⟩ (.slice wa1 (putS y.t.ws x).length wc1)).setCell ⟨tb, 6, none⟩ (.bool y.t.out)).setCell ⟨tb, 7, none⟩ (.string y.t.nm)) (w.heap.size + 1) [.string x.1, .string x.2.1, .bool x.2.2]) := (((((((BX.out.setO (p := ⟨tb, 0, none⟩) nBX _).setO (p := ⟨tb, 1, none⟩) nBX _).setO (p := ⟨tb, 2, none⟩) nBX _).setO (p := ⟨tb, 3, none⟩) nBX _).setO (p := ⟨tb, 4, none⟩) nBX _).setO (p := ⟨tb, 5, none⟩) nBX _).setO (p := ⟨tb, 6, none⟩) nBX _).setO (p := ⟨tb, 7, none⟩) nBX _
    have BR2 : Hid (Bx ((((((((v3.setCell ⟨tb, 0, none⟩ (.int .i64 y.t.id)).setCell ⟨tb, 1, none⟩ (.int .i64 y.t.st)).setCell ⟨tb, 2, none⟩ (.int .i64 y.t.snap)).setCell ⟨tb, 3, none⟩ (.int .i64 y.t.cs)).setCell ⟨tb, 4, none⟩ (.slice ra1 y.t.rs.length rc1)).setCell ⟨tb, 5, none⟩ (.slice wa1 (putS y.t.ws x).length wc1)).setCell ⟨tb, 6, none⟩ (.bool y.t.out)).setCell ⟨tb, 7, none⟩ (.string y.t.nm)) (w.heap.size + 1 + 1) [.slice none 0 0, .slice none 0 0, .slice none 0 0, .int .i64 0, .int .i64 0, .slice none 0 0]) := (((((((BR.out.setO (p := ⟨tb, 0, none⟩) nBR _).setO (p := ⟨tb, 1, none⟩) nBR _).setO (p := ⟨tb, 2, none⟩) nBR _).setO (p := ⟨tb, 3, none⟩) nBR _).setO (p := ⟨tb, 4, none⟩) nBR _).setO (p := ⟨tb, 5, none⟩) nBR _).setO (p := ⟨tb, 6, none⟩) nBR _).setO (p := ⟨tb, 7, none⟩) nBR _
    have BC2 : Hid (Bx ((((((((v3.setCell ⟨tb, 0, none⟩ (.int .i64 y.t.id)).setCell ⟨tb, 1, none⟩ (.int .i64 y.t.st)).setCell ⟨tb, 2, none⟩ (.int .i64 y.t.snap)).setCell ⟨tb, 3, none⟩ (.int .i64 y.t.cs)).setCell ⟨tb, 4, none⟩ (.slice ra1 y.t.rs.length rc1)).setCell ⟨tb, 5, none⟩ (.slice wa1 (putS y.t.ws x).length wc1)).setCell ⟨tb, 6, none⟩ (.bool y.t.out)).setCell ⟨tb, 7, none⟩ (.string y.t.nm)) (g) [.slice c.b.va c.b.vs.length c.b.vc, .slice c.b.pa c.b.ps.length c.b.pc, .slice c.b.qa c.b.qs.length c.b.qc, .int .i64 c.b.cs, .int .i64 c.b.nx, .slice c.oa c.os.length c.oc]) := (((((((BC.out.setO (p := ⟨tb, 0, none⟩) nBC _).setO (p := ⟨tb, 1, none⟩) nBC _).setO (p := ⟨tb, 2, none⟩) nBC _).setO (p := ⟨tb, 3, none⟩) nBC _).setO (p := ⟨tb, 4, none⟩) nBC _).setO (p := ⟨tb, 5, none⟩) nBC _).setO (p := ⟨tb, 6, none⟩) nBC _).setO (p := ⟨tb, 7, none⟩) nBC _
    have LX2 : Hid (EnLx ((((((((v3.setCell ⟨tb, 0, none⟩ (.int .i64 y.t.id)).setCell ⟨tb, 1, none⟩ (.int .i64 y.t.st)).setCell ⟨tb, 2, none⟩ (.int .i64 y.t.snap)).setCell ⟨tb, 3, none⟩ (.int .i64 y.t.cs)).setCell ⟨tb, 4, none⟩ (.slice ra1 y.t.rs.length rc1)).setCell ⟨tb, 5, none⟩ (.slice wa1 (putS y.t.ws x).length wc1)).setCell ⟨tb, 6, none⟩ (.bool y.t.out)).setCell ⟨tb, 7, none⟩ (.string y.t.nm)) w0.heap.size m g g g c) := (((((((LX.out.setr (a := ⟨tb, 0, none⟩) hgt hup9 _).setr (a := ⟨tb, 1, none⟩) hgt hup9 _).setr (a := ⟨tb, 2, none⟩) hgt hup9 _).setr (a := ⟨tb, 3, none⟩) hgt hup9 _).setr (a := ⟨tb, 4, none⟩) hgt hup9 _).setr (a := ⟨tb, 5, none⟩) hgt hup9 _).setr (a := ⟨tb, 6, none⟩) hgt hup9 _).setr (a := ⟨tb, 7, none⟩) hgt hup9 _
    have RT2 : Hid (TLie ((((((((v3.setCell ⟨tb, 0, none⟩ (.int .i64 y.t.id)).setCell ⟨tb, 1, none⟩ (.int .i64 y.t.st)).setCell ⟨tb, 2, none⟩ (.int .i64 y.t.snap)).setCell ⟨tb, 3, none⟩ (.int .i64 y.t.cs)).setCell ⟨tb, 4, none⟩ (.slice ra1 y.t.rs.length rc1)).setCell ⟨tb, 5, none⟩ (.slice wa1 (putS y.t.ws x).length wc1)).setCell ⟨tb, 6, none⟩ (.bool y.t.out)).setCell ⟨tb, 7, none⟩ (.string y.t.nm)) p0 q0 (setW y.t (putS y.t.ws x)) ra1 rc1 wa1 wc1) := (((((((RT.out.setO (a := ⟨tb, 0, none⟩) NB2.out _).setO (a := ⟨tb, 1, none⟩) NB2.out _).setO (a := ⟨tb, 2, none⟩) NB2.out _).setO (a := ⟨tb, 3, none⟩) NB2.out _).setO (a := ⟨tb, 4, none⟩) NB2.out _).setO (a := ⟨tb, 5, none⟩) NB2.out _).setO (a := ⟨tb, 6, none⟩) NB2.out _).setO (a := ⟨tb, 7, none⟩) NB2.out _
    have hwt : w.heap.size ≤ tb := by omega
    have HB2 : Hid (Below w.heap.size w ((((((((v3.setCell ⟨tb, 0, none⟩ (.int .i64 y.t.id)).setCell ⟨tb, 1, none⟩ (.int .i64 y.t.st)).setCell ⟨tb, 2, none⟩ (.int .i64 y.t.snap)).setCell ⟨tb, 3, none⟩ (.int .i64 y.t.cs)).setCell ⟨tb, 4, none⟩ (.slice ra1 y.t.rs.length rc1)).setCell ⟨tb, 5, none⟩ (.slice wa1 (putS y.t.ws x).length wc1)).setCell ⟨tb, 6, none⟩ (.bool y.t.out)).setCell ⟨tb, 7, none⟩ (.string y.t.nm))) := (((((((HB.out.setCell (p := ⟨tb, 0, none⟩) hwt _).setCell (p := ⟨tb, 1, none⟩) hwt _).setCell (p := ⟨tb, 2, none⟩) hwt _).setCell (p := ⟨tb, 3, none⟩) hwt _).setCell (p := ⟨tb, 4, none⟩) hwt _).setCell (p := ⟨tb, 5, none⟩) hwt _).setCell (p := ⟨tb, 6, none⟩) hwt _).setCell (p := ⟨tb, 7, none⟩) hwt _
    have HQ2 : Hid (q0 ≤ ((((((((v3.setCell ⟨tb, 0, none⟩ (.int .i64 y.t.id)).setCell ⟨tb, 1, none⟩ (.int .i64 y.t.st)).setCell ⟨tb, 2, none⟩ (.int .i64 y.t.snap)).setCell ⟨tb, 3, none⟩ (.int .i64 y.t.cs)).setCell ⟨tb, 4, none⟩ (.slice ra1 y.t.rs.length rc1)).setCell ⟨tb, 5, none⟩ (.slice wa1 (putS y.t.ws x).length wc1)).setCell ⟨tb, 6, none⟩ (.bool y.t.out)).setCell ⟨tb, 7, none⟩ (.string y.t.nm)).heap.size) := le_set (le_set (le_set (le_set (le_set (le_set (le_set (le_set HQ.out _ _) _ _) _ _) _ _) _ _) _ _) _ _) _ _
    clear BT BA BX BR BC LX RT HB HQ
    generalize ((((((((v3.setCell ⟨tb, 0, none⟩ (.int .i64 y.t.id)).setCell ⟨tb, 1, none⟩ (.int .i64 y.t.st)).setCell ⟨tb, 2, none⟩ (.int .i64 y.t.snap)).setCell ⟨tb, 3, none⟩ (.int .i64 y.t.cs)).setCell ⟨tb, 4, none⟩ (.slice ra1 y.t.rs.length rc1)).setCell ⟨tb, 5, none⟩ (.slice wa1 (putS y.t.ws x).length wc1)).setCell ⟨tb, 6, none⟩ (.bool y.t.out)).setCell ⟨tb, 7, none⟩ (.string y.t.nm)) = v8 at *
    refine hK.out _ _ (HS.out _ HB2.out BA2.out BX2.out) (fun hHeldS => ?_)
    clear hK K
    (refine tk 12 ?_ rfl (Or.inl ⟨by rfl, ?_⟩) ?_; rotate_left; (focus (intro w h; (try dsimp only at h); go_simp; (try with_reducible rfl))); simp only [Act.put, tA, tB, tC, tD, tE, tF])
    refine wpAnyH_done (by kernel_rfl) ?_ _
    have o0 := BT2.out.c0
    have o1 := BT2.out.c1
    have o2 := BT2.out.c2
    have o3 := BT2.out.c3
    have o4 := BT2.out.c4
    have o5 := BT2.out.c5
    have o6 := BT2.out.c6
    have o7 := BT2.out.c7
    have CR := hide (HCL.out _ LX2.out)
    have r0 := CR.out.c0
    have r1 := CR.out.c1
    have r2 := CR.out.c2
    have r3 := CR.out.c3
    have r4 := CR.out.c4
    have r5 := CR.out.c5
    have r6 := CR.out.c6
    have r7 := CR.out.c7
    have OW : Hid (GOwn encT 56 v8 m (.slice (some ⟨bc, 0, none⟩) c.os.length c.oc) c.os) := by have h := LX2.out.o.own; rw [HBC.out] at h; exact h
    have fr0 : v8.frozen? ⟨bc, k * 8, none⟩ = false := World.ownsRow.frozenAt OW.out (k * 8)
    have fr1 : v8.frozen? ⟨bc, k * 8 + 1, none⟩ = false := World.ownsRow.frozenAt OW.out (k * 8 + 1)
    have fr2 : v8.frozen? ⟨bc, k * 8 + 2, none⟩ = false := World.ownsRow.frozenAt OW.out (k * 8 + 2)
    have fr3 : v8.frozen? ⟨bc, k * 8 + 3, none⟩ = false := World.ownsRow.frozenAt OW.out (k * 8 + 3)
    have fr4 : v8.frozen? ⟨bc, k * 8 + 4, none⟩ = false := World.ownsRow.frozenAt OW.out (k * 8 + 4)
    have fr5 : v8.frozen? ⟨bc, k * 8 + 5, none⟩ = false := World.ownsRow.frozenAt OW.out (k * 8 + 5)
    have fr6 : v8.frozen? ⟨bc, k * 8 + 6, none⟩ = false := World.ownsRow.frozenAt OW.out (k * 8 + 6)
    have fr7 : v8.frozen? ⟨bc, k * 8 + 7, none⟩ = false := World.ownsRow.frozenAt OW.out (k * 8 + 7)
    have z5 := BC2.out.c5
    rw [HBC.out] at z5
    go_upto_region 11 with fail
    clear z5 o0 r0 fr0 o1 r1 fr1 o2 r2 fr2 o3 r3 fr3 o4 r4 fr4 o5 r5 fr5 o6 r6 fr6 o7 r7 fr7
    have P8 := own_put8 (W := v8) (i := k) rfl OW.out HKC.out ⟨setW y.t (putS y.t.ws x), ra1, rc1, wa1, wc1⟩
    have hq := LX2.out.put (y := ⟨setW y.t (putS y.t.ws x), ra1, rc1, wa1, wc1⟩) (k := k) (p := p0) (q := q0) (by have := HGP.out; omega) HPQ.out (RT2.out.grown P8.2 (fun b e9 => by cases e9; have := LX2.out.o.up bc (by rw [HBC.out]; rfl); have := HGP.out; left; show bc < p0; omega)) HBC.out P8.2 P8.1
    have hup : bc < g := LX2.out.o.up bc (by rw [HBC.out]; rfl)
    have hlo : m ≤ bc := (LX2.out.o.lo bc (by rw [HBC.out]; rfl)).1
    have BC3 : Hid (Bx ((((((((v8.setCell ⟨bc, k * 8, none⟩ (.int .i64 y.t.id)).setCell ⟨bc, k * 8 + 1, none⟩ (.int .i64 y.t.st)).setCell ⟨bc, k * 8 + 2, none⟩ (.int .i64 y.t.snap)).setCell ⟨bc, k * 8 + 3, none⟩ (.int .i64 y.t.cs)).setCell ⟨bc, k * 8 + 4, none⟩ (.slice ra1 y.t.rs.length rc1)).setCell ⟨bc, k * 8 + 5, none⟩ (.slice wa1 (putS y.t.ws x).length wc1)).setCell ⟨bc, k * 8 + 6, none⟩ (.bool y.t.out)).setCell ⟨bc, k * 8 + 7, none⟩ (.string y.t.nm)) g [.slice c.b.va c.b.vs.length c.b.vc, .slice c.b.pa c.b.ps.length c.b.pc, .slice c.b.qa c.b.qs.length c.b.qc, .int .i64 c.b.cs, .int .i64 c.b.nx, .slice c.oa c.os.length c.oc]) := (bx_marked BC2.out P8.2 (by intro e9; cases e9; omega))
    have BR3 : Hid (Bx ((((((((v8.setCell ⟨bc, k * 8, none⟩ (.int .i64 y.t.id)).setCell ⟨bc, k * 8 + 1, none⟩ (.int .i64 y.t.st)).setCell ⟨bc, k * 8 + 2, none⟩ (.int .i64 y.t.snap)).setCell ⟨bc, k * 8 + 3, none⟩ (.int .i64 y.t.cs)).setCell ⟨bc, k * 8 + 4, none⟩ (.slice ra1 y.t.rs.length rc1)).setCell ⟨bc, k * 8 + 5, none⟩ (.slice wa1 (putS y.t.ws x).length wc1)).setCell ⟨bc, k * 8 + 6, none⟩ (.bool y.t.out)).setCell ⟨bc, k * 8 + 7, none⟩ (.string y.t.nm)) (w.heap.size + 1 + 1) [.slice none 0 0, .slice none 0 0, .slice none 0 0, .int .i64 0, .int .i64 0, .slice none 0 0]) := (bx_marked BR2.out P8.2 (by intro e9; injection e9 with e8; omega))
    have HB3 : Hid (Below w.heap.size w ((((((((v8.setCell ⟨bc, k * 8, none⟩ (.int .i64 y.t.id)).setCell ⟨bc, k * 8 + 1, none⟩ (.int .i64 y.t.st)).setCell ⟨bc, k * 8 + 2, none⟩ (.int .i64 y.t.snap)).setCell ⟨bc, k * 8 + 3, none⟩ (.int .i64 y.t.cs)).setCell ⟨bc, k * 8 + 4, none⟩ (.slice ra1 y.t.rs.length rc1)).setCell ⟨bc, k * 8 + 5, none⟩ (.slice wa1 (putS y.t.ws x).length wc1)).setCell ⟨bc, k * 8 + 6, none⟩ (.bool y.t.out)).setCell ⟨bc, k * 8 + 7, none⟩ (.string y.t.nm))) := (HB2.out.trans ((Zn.ofGrown (lo := m) (hi := g) P8.2 (fun b e9 => by cases e9; exact ⟨hlo, hup⟩)).below (by omega) HB2.out.size))
    have HQ3 : Hid (q0 ≤ ((((((((v8.setCell ⟨bc, k * 8, none⟩ (.int .i64 y.t.id)).setCell ⟨bc, k * 8 + 1, none⟩ (.int .i64 y.t.st)).setCell ⟨bc, k * 8 + 2, none⟩ (.int .i64 y.t.snap)).setCell ⟨bc, k * 8 + 3, none⟩ (.int .i64 y.t.cs)).setCell ⟨bc, k * 8 + 4, none⟩ (.slice ra1 y.t.rs.length rc1)).setCell ⟨bc, k * 8 + 5, none⟩ (.slice wa1 (putS y.t.ws x).length wc1)).setCell ⟨bc, k * 8 + 6, none⟩ (.bool y.t.out)).setCell ⟨bc, k * 8 + 7, none⟩ (.string y.t.nm)).heap.size) := Nat.le_trans HQ2.out P8.2.size
    have HEQ : Hid (EnQ ((((((((v8.setCell ⟨bc, k * 8, none⟩ (.int .i64 y.t.id)).setCell ⟨bc, k * 8 + 1, none⟩ (.int .i64 y.t.st)).setCell ⟨bc, k * 8 + 2, none⟩ (.int .i64 y.t.snap)).setCell ⟨bc, k * 8 + 3, none⟩ (.int .i64 y.t.cs)).setCell ⟨bc, k * 8 + 4, none⟩ (.slice ra1 y.t.rs.length rc1)).setCell ⟨bc, k * 8 + 5, none⟩ (.slice wa1 (putS y.t.ws x).length wc1)).setCell ⟨bc, k * 8 + 6, none⟩ (.bool y.t.out)).setCell ⟨bc, k * 8 + 7, none⟩ (.string y.t.nm)) w0.heap.size m g p0 q0 ⟨c.b, c.os.set k ⟨setW y.t (putS y.t.ws x), ra1, rc1, wa1, wc1⟩, c.oa, c.oc⟩) := hq
    have HD : Hid (EnSame (pkE e i x) ⟨c.b, c.os.set k ⟨setW y.t (putS y.t.ws x), ra1, rc1, wa1, wc1⟩, c.oa, c.oc⟩) := by
     refine ⟨SM.out.b, ?_⟩
     rw [pkE_txs, HTX.out, HT.out]
     show txs (c.os.set k ⟨setW y.t (putS y.t.ws x), ra1, rc1, wa1, wc1⟩) = _
     have h := SM.out.o
     simp only [txs, List.map_set] at h ⊢
     rw [h]
    have HLEN : Hid ((c.os.set k ⟨setW y.t (putS y.t.ws x), ra1, rc1, wa1, wc1⟩).length = c.os.length) := List.length_set
    clear hq P8 BC2 BR2 HB2 HQ2 OW CR LX2 RT2
    generalize ((((((((v8.setCell ⟨bc, k * 8, none⟩ (.int .i64 y.t.id)).setCell ⟨bc, k * 8 + 1, none⟩ (.int .i64 y.t.st)).setCell ⟨bc, k * 8 + 2, none⟩ (.int .i64 y.t.snap)).setCell ⟨bc, k * 8 + 3, none⟩ (.int .i64 y.t.cs)).setCell ⟨bc, k * 8 + 4, none⟩ (.slice ra1 y.t.rs.length rc1)).setCell ⟨bc, k * 8 + 5, none⟩ (.slice wa1 (putS y.t.ws x).length wc1)).setCell ⟨bc, k * 8 + 6, none⟩ (.bool y.t.out)).setCell ⟨bc, k * 8 + 7, none⟩ (.string y.t.nm)) = v9 at *
    have x0 := BC3.out.c0
    have x1 := BC3.out.c1
    have x2 := BC3.out.c2
    have x3 := BC3.out.c3
    have x4 := BC3.out.c4
    have x5 := BC3.out.c5
    have q0 := BR3.out.c0
    have fq0 := BR3.out.fz 0
    have q1 := BR3.out.c1
    have fq1 := BR3.out.fz 1
    have q2 := BR3.out.c2
    have fq2 := BR3.out.fz 2
    have q3 := BR3.out.c3
    have fq3 := BR3.out.fz 3
    have q4 := BR3.out.c4
    have fq4 := BR3.out.fz 4
    have q5 := BR3.out.c5
    have fq5 := BR3.out.fz 5
    go_wp2
    refine bodyPost_ret (v := .tuple #[.agg #[.slice c.b.va c.b.vs.length c.b.vc, .slice c.b.pa c.b.ps.length c.b.pc, .slice c.b.qa c.b.qs.length c.b.qc, .int .i64 c.b.cs, .int .i64 c.b.nx, .slice c.oa c.os.length c.oc], .int .i64 0]) (by simp [results, Tryz.results16, go_sem, q0, q1, q2, q3, q4, q5]) rfl ⟨⟨c.b, c.os.set k ⟨setW y.t (putS y.t.ws x), ra1, rc1, wa1, wc1⟩, c.oa, c.oc⟩, by rw [HC.out, HLEN.out], HD.out, ?_, ?_⟩
    ·exact ((((((HEQ.out.setr (a := ⟨w.heap.size + 1 + 1, 0, none⟩) (Or.inl hrb) _).setr (a := ⟨w.heap.size + 1 + 1, 1, none⟩) (Or.inl hrb) _).setr (a := ⟨w.heap.size + 1 + 1, 2, none⟩) (Or.inl hrb) _).setr (a := ⟨w.heap.size + 1 + 1, 3, none⟩) (Or.inl hrb) _).setr (a := ⟨w.heap.size + 1 + 1, 4, none⟩) (Or.inl hrb) _).setr (a := ⟨w.heap.size + 1 + 1, 5, none⟩) (Or.inl hrb) _).lq (by omega) (le_set (le_set (le_set (le_set (le_set (le_set HQ3.out _ _) _ _) _ _) _ _) _ _) _ _)
    ·exact (((((HB3.out.setCell (p := ⟨w.heap.size + 1 + 1, 0, none⟩) hwr _).setCell (p := ⟨w.heap.size + 1 + 1, 1, none⟩) hwr _).setCell (p := ⟨w.heap.size + 1 + 1, 2, none⟩) hwr _).setCell (p := ⟨w.heap.size + 1 + 1, 3, none⟩) hwr _).setCell (p := ⟨w.heap.size + 1 + 1, 4, none⟩) hwr _).setCell (p := ⟨w.heap.size + 1 + 1, 5, none⟩) hwr _

end Go.Proofs.YtjeicgibddfifaaGreat

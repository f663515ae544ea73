/- impl.Through, whatever stands there. -/
import Derived.Test.YtmijppfppigjcaaGreatPd01
import Derived.Test.YtmijppfppigjcaaGreatPd23
import Derived.Test.YtmijppfppigjcaaGreatPd24
import Derived.Deep.RegionHeld3
import Derived.Deep.Cut
import Derived.Deep.CutRange
import Derived.Laws.EntriesVeiled
namespace Go.Proofs.YtmijppfppigjcaaGreat
open Go.RowKit
open KM
open VM
attribute [local go_sem ↓] Go.wp_at_zero Go.wp_at_succ

def dnT (t : Tx) (n : Int) (o : Bool) : Tx := outT (doneT t n) (t.out || o)
theorem fit_dn {t : Tx} {n : Int} {o : Bool} (h : TFit t) : TFit (dnT t n o) := ⟨h.1, h.2.1, h.2.2.1, h.2.2.2.1, by show (⟨#[]⟩ : ByteArray).size ≤ _; decide⟩
def nxW (nx id : Int) : Int := if id < nx then nx else IntKind.i64.wrap (id + 1)
def ThrA (b : Bb) (t : Tx) (d : Bb) : Prop := d.vs.length ≤ b.vs.length + t.ws.length ∧ VFit d.vs ∧ (d.ps.length = b.ps.length + 1 ∧ ∀ x ∈ d.ps, TFit x.t) ∧ (d.qs.length ≤ b.qs.length ∧ ∀ x ∈ d.qs, TFit x.t)
set_option maxRecDepth 100000 in
set_option maxHeartbeats 2000000 in
theorem inextW (nx id : Int) (w : World) : Calls Tryz.prog 100 #[.int .i64 nx, .int .i64 id] w fun e w' => e = .returned (.int .i64 (nxW nx id)) ∧ Below w.heap.size w w' := by
 by_cases hlt : id < nx
 ·have hv : Hid (nxW nx id = nx) := by show _ = _; unfold nxW; rw [if_pos hlt]
  rw [hv.out]
  go_enter Tryz.func100, Tryz.ntmps100
  go_wp2
  go_ret
  exact ⟨rfl, belowRefl w⟩
 ·obtain ⟨k, hk⟩ : ∃ k, IntKind.i64.wrap (id + 1) = k := ⟨_, rfl⟩
  have hv : Hid (nxW nx id = k) := by show _ = _; unfold nxW; rw [if_neg hlt, hk]
  rw [hv.out]
  go_enter Tryz.func100, Tryz.ntmps100
  go_wp2
  go_ret
  exact ⟨rfl, belowRefl w⟩

set_option maxRecDepth 100000 in
set_option maxHeartbeats 6000000 in
theorem ithroughA (b : Bb) (t : Tx) (ra wa : Option Addr) (rc wc : Nat) (hf : BFit b) (ht : TFit t) (w : World) (hp : BRows w b) (hr : TRow w t ra wa) :
  Calls Tryz.prog 66 #[.agg #[.slice b.va b.vs.length b.vc, .slice b.pa b.ps.length b.pc, .slice b.qa b.qs.length b.qc, .int .i64 b.cs, .int .i64 b.nx], .agg #[.int .i64 t.id, .int .i64 t.st, .int .i64 t.snap, .int .i64 t.cs, .slice ra t.rs.length rc, .slice wa t.ws.length wc, .bool t.out, .string t.nm]] w fun e w' => ∃ d : Bb, e = .returned (.agg #[.slice d.va d.vs.length d.vc, .slice d.pa d.ps.length d.pc, .slice d.qa d.qs.length d.qc, .int .i64 d.cs, .int .i64 d.nx]) ∧ ThrA b t d ∧ Bo w' w.heap.size w'.heap.size d ∧ Below w.heap.size w w' := by
 have BA : Hid (Bx ((((w.alloc (.cells #[.slice b.va b.vs.length b.vc, .slice b.pa b.ps.length b.pc, .slice b.qa b.qs.length b.qc, .int .i64 b.cs, .int .i64 b.nx] 42)).alloc (.cells #[.int .i64 t.id, .int .i64 t.st, .int .i64 t.snap, .int .i64 t.cs, .slice ra t.rs.length rc, .slice wa t.ws.length wc, .bool t.out, .string t.nm] 62)).alloc (.cells #[.slice none 0 0, .slice none 0 0, .slice none 0 0, .int .i64 0, .int .i64 0] 42))) w.heap.size [.slice b.va b.vs.length b.vc, .slice b.pa b.ps.length b.pc, .slice b.qa b.qs.length b.qc, .int .i64 b.cs, .int .i64 b.nx]) := by
  have h := Bx.new w [.slice b.va b.vs.length b.vc, .slice b.pa b.ps.length b.pc, .slice b.qa b.qs.length b.qc, .int .i64 b.cs, .int .i64 b.nx] 42
  exact ((h.alloc _).alloc _)
 have BT : Hid (Bx ((((w.alloc (.cells #[.slice b.va b.vs.length b.vc, .slice b.pa b.ps.length b.pc, .slice b.qa b.qs.length b.qc, .int .i64 b.cs, .int .i64 b.nx] 42)).alloc (.cells #[.int .i64 t.id, .int .i64 t.st, .int .i64 t.snap, .int .i64 t.cs, .slice ra t.rs.length rc, .slice wa t.ws.length wc, .bool t.out, .string t.nm] 62)).alloc (.cells #[.slice none 0 0, .slice none 0 0, .slice none 0 0, .int .i64 0, .int .i64 0] 42))) (w.heap.size + 1) [.int .i64 t.id, .int .i64 t.st, .int .i64 t.snap, .int .i64 t.cs, .slice ra t.rs.length rc, .slice wa t.ws.length wc, .bool t.out, .string t.nm]) := by
  have h := Bx.new (w.alloc (.cells #[.slice b.va b.vs.length b.vc, .slice b.pa b.ps.length b.pc, .slice b.qa b.qs.length b.qc, .int .i64 b.cs, .int .i64 b.nx] 42)) [.int .i64 t.id, .int .i64 t.st, .int .i64 t.snap, .int .i64 t.cs, .slice ra t.rs.length rc, .slice wa t.ws.length wc, .bool t.out, .string t.nm] 62
  rw [World.size_alloc] at h
  exact (h.alloc _)
 have BR : Hid (Bx ((((w.alloc (.cells #[.slice b.va b.vs.length b.vc, .slice b.pa b.ps.length b.pc, .slice b.qa b.qs.length b.qc, .int .i64 b.cs, .int .i64 b.nx] 42)).alloc (.cells #[.int .i64 t.id, .int .i64 t.st, .int .i64 t.snap, .int .i64 t.cs, .slice ra t.rs.length rc, .slice wa t.ws.length wc, .bool t.out, .string t.nm] 62)).alloc (.cells #[.slice none 0 0, .slice none 0 0, .slice none 0 0, .int .i64 0, .int .i64 0] 42))) (w.heap.size + 1 + 1) [.slice none 0 0, .slice none 0 0, .slice none 0 0, .int .i64 0, .int .i64 0]) := by
  have h := Bx.new ((w.alloc (.cells #[.slice b.va b.vs.length b.vc, .slice b.pa b.ps.length b.pc, .slice b.qa b.qs.length b.qc, .int .i64 b.cs, .int .i64 b.nx] 42)).alloc (.cells #[.int .i64 t.id, .int .i64 t.st, .int .i64 t.snap, .int .i64 t.cs, .slice ra t.rs.length rc, .slice wa t.ws.length wc, .bool t.out, .string t.nm] 62)) [.slice none 0 0, .slice none 0 0, .slice none 0 0, .int .i64 0, .int .i64 0] 42
  rw [World.size_alloc, World.size_alloc] at h
  exact h
 have HB : Hid (Below w.heap.size w ((((w.alloc (.cells #[.slice b.va b.vs.length b.vc, .slice b.pa b.ps.length b.pc, .slice b.qa b.qs.length b.qc, .int .i64 b.cs, .int .i64 b.nx] 42)).alloc (.cells #[.int .i64 t.id, .int .i64 t.st, .int .i64 t.snap, .int .i64 t.cs, .slice ra t.rs.length rc, .slice wa t.ws.length wc, .bool t.out, .string t.nm] 62)).alloc (.cells #[.slice none 0 0, .slice none 0 0, .slice none 0 0, .int .i64 0, .int .i64 0] 42)))) := ((((belowRefl w).alloc (by exact Nat.le_refl _) _).alloc (by rw [World.size_alloc]; omega) _).alloc (by rw [World.size_alloc, World.size_alloc]; omega) _)
 have HS0 : Hid ((((w.alloc (.cells #[.slice b.va b.vs.length b.vc, .slice b.pa b.ps.length b.pc, .slice b.qa b.qs.length b.qc, .int .i64 b.cs, .int .i64 b.nx] 42)).alloc (.cells #[.int .i64 t.id, .int .i64 t.st, .int .i64 t.snap, .int .i64 t.cs, .slice ra t.rs.length rc, .slice wa t.ws.length wc, .bool t.out, .string t.nm] 62)).alloc (.cells #[.slice none 0 0, .slice none 0 0, .slice none 0 0, .int .i64 0, .int .i64 0] 42)).heap.size = w.heap.size + 1 + 1 + 1) := by show _ = _; rw [World.size_alloc, World.size_alloc, World.size_alloc]
 have HF : Hid (BFit b) := hf
 have HFT : Hid (TFit t) := ht
 have HP : Hid (BRows w b) := hp
 have HT : Hid (TRow w t ra wa) := hr
 obtain ⟨N1, hu⟩ : ∃ N1, IntKind.i64.wrap (b.cs + 1) = N1 := ⟨_, rfl⟩
 have HWL : Hid (t.ws.length ≤ 2000000) := Nat.le_trans ht.2.2.1 (by omega)
 have HVL : Hid (b.vs.length ≤ 2000000) := Nat.le_trans hf.vl (by omega)
 have HPL : Hid (b.ps.length ≤ 10000000) := Nat.le_trans hf.pl (by omega)
 have HQL : Hid (b.qs.length ≤ 1500000) := Nat.le_trans hf.ql (by omega)
 have CB := hide (fun (W : World) (h : Below w.heap.size w W) => copyB b HF.out W (HP.out.below h))
 have CT := hide (fun (W : World) (h : Below w.heap.size w W) => icopyT t ra wa rc wc HFT.out W (HT.out.below h))
 have CO : Hid (∀ (W : World) (ra1 wa1 : Option Addr) (rc1 wc1 : Nat), Below w.heap.size w W → TRow W t ra1 wa1 → Calls Tryz.prog 95 #[.agg #[.int .i64 t.id, .int .i64 3, .int .i64 t.snap, .int .i64 N1, .slice ra1 t.rs.length rc1, .slice wa1 t.ws.length wc1, .bool t.out, .string ⟨#[]⟩], .slice b.pa b.ps.length b.pc] W fun e w' => e = .returned (.bool (outB (doneT t N1) (txs b.ps))) ∧ Below W.heap.size W w') := fun W ra1 wa1 rc1 wc1 h h2 => ioutof (doneT t N1) ra1 wa1 rc1 wc1 b.ps b.pa b.pc b.ps.length rfl HPL.out (fit_done HFT.out) HF.out.p W ⟨h2.r, h2.w⟩ (HP.out.below h).p
 obtain ⟨o, ho⟩ : ∃ o, outB (doneT t N1) (txs b.ps) = o := ⟨_, rfl⟩
 rw [ho] at CO
 have HOE := hide ho
 clear hf hp ht hr ho
 go_enter Tryz.func66, Tryz.ntmps66
 go_upto_region 1 with fail
 generalize (((w.alloc (.cells #[.slice b.va b.vs.length b.vc, .slice b.pa b.ps.length b.pc, .slice b.qa b.qs.length b.qc, .int .i64 b.cs, .int .i64 b.nx] 42)).alloc (.cells #[.int .i64 t.id, .int .i64 t.st, .int .i64 t.snap, .int .i64 t.cs, .slice ra t.rs.length rc, .slice wa t.ws.length wc, .bool t.out, .string t.nm] 62)).alloc (.cells #[.slice none 0 0, .slice none 0 0, .slice none 0 0, .int .i64 0, .int .i64 0] 42)) = w0 at *
 have zs0 := HS0.out
 clear HS0
 have x0 := BA.out.c0
 have x1 := BA.out.c1
 have x2 := BA.out.c2
 have x3 := BA.out.c3
 have x4 := BA.out.c4
 go_wp2_with fail
 refine (CB.out _ HB.out).mono ?_
 rintro e w1 ⟨c, rfl, hs, hl, hb1⟩
 have z1 : w0.heap.size ≤ w1.heap.size := hb1.size
 have HSM : Hid (BSame b c) := hs
 obtain ⟨m1, m2, km1, km2, km3, hv, hpz, hqz⟩ := hl.ex
 have HQz : Hid (LLie w1 m2 w1.heap.size (.slice c.qa c.qs.length c.qc) c.qs) := hqz
 have HPz : Hid (LLie w1 m1 m2 (.slice c.pa c.ps.length c.pc) c.ps) := hpz
 have km4 : m2 ≤ w1.heap.size := km3
 clear hs hl hv hpz hqz km3
 replace BA : Hid (Bx w1 w.heap.size [.slice b.va b.vs.length b.vc, .slice b.pa b.ps.length b.pc, .slice b.qa b.qs.length b.qc, .int .i64 b.cs, .int .i64 b.nx]) := BA.out.below hb1
 replace BT : Hid (Bx w1 (w.heap.size + 1) [.int .i64 t.id, .int .i64 t.st, .int .i64 t.snap, .int .i64 t.cs, .slice ra t.rs.length rc, .slice wa t.ws.length wc, .bool t.out, .string t.nm]) := BT.out.below hb1
 replace BR : Hid (Bx w1 (w.heap.size + 1 + 1) [.slice none 0 0, .slice none 0 0, .slice none 0 0, .int .i64 0, .int .i64 0]) := BR.out.below hb1
 replace HB : Hid (Below w.heap.size w w1) := HB.out.trans (hb1.mono HB.out.size)
 clear hb1 x0 x1 x2 x3 x4
 go_upto_region 2 with fail
 have hba : Below w1.heap.size w1 (w1.alloc (.cells #[.slice c.va c.vs.length c.vc, .slice c.pa c.ps.length c.pc, .slice c.qa c.qs.length c.qc, .int .i64 c.cs, .int .i64 c.nx] 42)) := (belowRefl w1).alloc (Nat.le_refl _) _
 have zq : (w1.alloc (.cells #[.slice c.va c.vs.length c.vc, .slice c.pa c.ps.length c.pc, .slice c.qa c.qs.length c.qc, .int .i64 c.cs, .int .i64 c.nx] 42)).heap.size = w1.heap.size + 1 := World.size_alloc _ _
 replace BA : Hid (Bx ((w1.alloc (.cells #[.slice c.va c.vs.length c.vc, .slice c.pa c.ps.length c.pc, .slice c.qa c.qs.length c.qc, .int .i64 c.cs, .int .i64 c.nx] 42))) w.heap.size [.slice b.va b.vs.length b.vc, .slice b.pa b.ps.length b.pc, .slice b.qa b.qs.length b.qc, .int .i64 b.cs, .int .i64 b.nx]) := BA.out.below hba
 replace BT : Hid (Bx ((w1.alloc (.cells #[.slice c.va c.vs.length c.vc, .slice c.pa c.ps.length c.pc, .slice c.qa c.qs.length c.qc, .int .i64 c.cs, .int .i64 c.nx] 42))) (w.heap.size + 1) [.int .i64 t.id, .int .i64 t.st, .int .i64 t.snap, .int .i64 t.cs, .slice ra t.rs.length rc, .slice wa t.ws.length wc, .bool t.out, .string t.nm]) := BT.out.below hba
 replace BR : Hid (Bx ((w1.alloc (.cells #[.slice c.va c.vs.length c.vc, .slice c.pa c.ps.length c.pc, .slice c.qa c.qs.length c.qc, .int .i64 c.cs, .int .i64 c.nx] 42))) (w.heap.size + 1 + 1) [.slice none 0 0, .slice none 0 0, .slice none 0 0, .int .i64 0, .int .i64 0]) := BR.out.below hba
 replace HB : Hid (Below w.heap.size w ((w1.alloc (.cells #[.slice c.va c.vs.length c.vc, .slice c.pa c.ps.length c.pc, .slice c.qa c.qs.length c.qc, .int .i64 c.cs, .int .i64 c.nx] 42)))) := HB.out.trans (hba.mono HB.out.size)
 replace HPz : Hid (LLie ((w1.alloc (.cells #[.slice c.va c.vs.length c.vc, .slice c.pa c.ps.length c.pc, .slice c.qa c.qs.length c.qc, .int .i64 c.cs, .int .i64 c.nx] 42))) m1 m2 (.slice c.pa c.ps.length c.pc) c.ps) := HPz.out.below hba
 replace HQz : Hid (LLie ((w1.alloc (.cells #[.slice c.va c.vs.length c.vc, .slice c.pa c.ps.length c.pc, .slice c.qa c.qs.length c.qc, .int .i64 c.cs, .int .i64 c.nx] 42))) m2 w1.heap.size (.slice c.qa c.qs.length c.qc) c.qs) := HQz.out.below hba
 have BO : Hid (Bx ((w1.alloc (.cells #[.slice c.va c.vs.length c.vc, .slice c.pa c.ps.length c.pc, .slice c.qa c.qs.length c.qc, .int .i64 c.cs, .int .i64 c.nx] 42))) w1.heap.size [.slice c.va c.vs.length c.vc, .slice c.pa c.ps.length c.pc, .slice c.qa c.qs.length c.qc, .int .i64 c.cs, .int .i64 c.nx]) := Bx.new w1 [.slice c.va c.vs.length c.vc, .slice c.pa c.ps.length c.pc, .slice c.qa c.qs.length c.qc, .int .i64 c.cs, .int .i64 c.nx] 42
 clear hba
 generalize (w1.alloc (.cells #[.slice c.va c.vs.length c.vc, .slice c.pa c.ps.length c.pc, .slice c.qa c.qs.length c.qc, .int .i64 c.cs, .int .i64 c.nx] 42)) = w2 at *
 have z2 : w1.heap.size + 1 ≤ w2.heap.size := Nat.le_of_eq zq.symm
 clear zq
 have x3 := BA.out.c3
 have o3 := BO.out.c3
 have of3 := BO.out.fz 3
 go_upto_region 3 with fail
 clear x3 o3 of3
 have zq : (w2.setCell ⟨w1.heap.size, 3, none⟩ (.int .i64 N1)).heap.size = w2.heap.size := by simp [World.setCell]
 have hk : Kn [w1.heap.size] w2 (w2.setCell ⟨w1.heap.size, 3, none⟩ (.int .i64 N1)) := Kn.set w2 (w1.heap.size) 3 (.int .i64 N1)
 replace BA : Hid (Bx ((w2.setCell ⟨w1.heap.size, 3, none⟩ (.int .i64 N1))) w.heap.size [.slice b.va b.vs.length b.vc, .slice b.pa b.ps.length b.pc, .slice b.qa b.qs.length b.qc, .int .i64 b.cs, .int .i64 b.nx]) := BA.out.kn (hk) (by intro hm; simp only [List.mem_cons, List.not_mem_nil, or_false] at hm; omega)
 replace BT : Hid (Bx ((w2.setCell ⟨w1.heap.size, 3, none⟩ (.int .i64 N1))) (w.heap.size + 1) [.int .i64 t.id, .int .i64 t.st, .int .i64 t.snap, .int .i64 t.cs, .slice ra t.rs.length rc, .slice wa t.ws.length wc, .bool t.out, .string t.nm]) := BT.out.kn (hk) (by intro hm; simp only [List.mem_cons, List.not_mem_nil, or_false] at hm; omega)
 replace BR : Hid (Bx ((w2.setCell ⟨w1.heap.size, 3, none⟩ (.int .i64 N1))) (w.heap.size + 1 + 1) [.slice none 0 0, .slice none 0 0, .slice none 0 0, .int .i64 0, .int .i64 0]) := BR.out.kn (hk) (by intro hm; simp only [List.mem_cons, List.not_mem_nil, or_false] at hm; omega)
 replace HB : Hid (Below w.heap.size w ((w2.setCell ⟨w1.heap.size, 3, none⟩ (.int .i64 N1)))) := HB.out.trans ((hk).below (by have := HB.out.size; omega) (by intro x hx; simp only [List.mem_cons, List.not_mem_nil, or_false] at hx; omega))
 replace HPz : Hid (LLie ((w2.setCell ⟨w1.heap.size, 3, none⟩ (.int .i64 N1))) m1 m2 (.slice c.pa c.ps.length c.pc) c.ps) := HPz.out.kn (hk) (by intro x hx; simp only [List.mem_cons, List.not_mem_nil, or_false] at hx; omega)
 replace HQz : Hid (LLie ((w2.setCell ⟨w1.heap.size, 3, none⟩ (.int .i64 N1))) m2 w1.heap.size (.slice c.qa c.qs.length c.qc) c.qs) := HQz.out.kn (hk) (by intro x hx; simp only [List.mem_cons, List.not_mem_nil, or_false] at hx; omega)
 replace BO : Hid (Bx ((w2.setCell ⟨w1.heap.size, 3, none⟩ (.int .i64 N1))) w1.heap.size [.slice c.va c.vs.length c.vc, .slice c.pa c.ps.length c.pc, .slice c.qa c.qs.length c.qc, .int .i64 N1, .int .i64 c.nx]) := BO.out.set 3 (.int .i64 N1)
 clear hk
 generalize (w2.setCell ⟨w1.heap.size, 3, none⟩ (.int .i64 N1)) = w3 at *
 have z3 : w2.heap.size ≤ w3.heap.size := Nat.le_of_eq zq.symm
 have y3 : w3.heap.size ≤ w2.heap.size := Nat.le_of_eq zq
 clear zq
 have x0 := BT.out.c0
 have x1 := BT.out.c1
 have x2 := BT.out.c2
 have x3 := BT.out.c3
 have x4 := BT.out.c4
 have x5 := BT.out.c5
 have x6 := BT.out.c6
 have x7 := BT.out.c7
 go_wp2_with fail
 refine (CT.out _ HB.out).mono ?_
 rintro e w4 ⟨ra1, rc1, wa1, wc1, rfl, hl, hb4⟩
 have z4 : w3.heap.size ≤ w4.heap.size := hb4.size
 have HL1 : Hid (TLie w4 w3.heap.size w4.heap.size t ra1 rc1 wa1 wc1) := hl
 clear hl
 replace BA : Hid (Bx w4 w.heap.size [.slice b.va b.vs.length b.vc, .slice b.pa b.ps.length b.pc, .slice b.qa b.qs.length b.qc, .int .i64 b.cs, .int .i64 b.nx]) := BA.out.below hb4
 replace BT : Hid (Bx w4 (w.heap.size + 1) [.int .i64 t.id, .int .i64 t.st, .int .i64 t.snap, .int .i64 t.cs, .slice ra t.rs.length rc, .slice wa t.ws.length wc, .bool t.out, .string t.nm]) := BT.out.below hb4
 replace BR : Hid (Bx w4 (w.heap.size + 1 + 1) [.slice none 0 0, .slice none 0 0, .slice none 0 0, .int .i64 0, .int .i64 0]) := BR.out.below hb4
 replace HB : Hid (Below w.heap.size w w4) := HB.out.trans (hb4.mono HB.out.size)
 replace HPz : Hid (LLie w4 m1 m2 (.slice c.pa c.ps.length c.pc) c.ps) := HPz.out.below hb4
 replace HQz : Hid (LLie w4 m2 w1.heap.size (.slice c.qa c.qs.length c.qc) c.qs) := HQz.out.below hb4
 replace BO : Hid (Bx w4 w1.heap.size [.slice c.va c.vs.length c.vc, .slice c.pa c.ps.length c.pc, .slice c.qa c.qs.length c.qc, .int .i64 N1, .int .i64 c.nx]) := BO.out.below hb4
 clear hb4 x0 x1 x2 x3 x4 x5 x6 x7
 go_upto_region 4 with fail
 have hba : Below w4.heap.size w4 (w4.alloc (.cells #[.int .i64 t.id, .int .i64 t.st, .int .i64 t.snap, .int .i64 t.cs, .slice ra1 t.rs.length rc1, .slice wa1 t.ws.length wc1, .bool t.out, .string t.nm] 62)) := (belowRefl w4).alloc (Nat.le_refl _) _
 have zq : (w4.alloc (.cells #[.int .i64 t.id, .int .i64 t.st, .int .i64 t.snap, .int .i64 t.cs, .slice ra1 t.rs.length rc1, .slice wa1 t.ws.length wc1, .bool t.out, .string t.nm] 62)).heap.size = w4.heap.size + 1 := World.size_alloc _ _
 replace BA : Hid (Bx ((w4.alloc (.cells #[.int .i64 t.id, .int .i64 t.st, .int .i64 t.snap, .int .i64 t.cs, .slice ra1 t.rs.length rc1, .slice wa1 t.ws.length wc1, .bool t.out, .string t.nm] 62))) w.heap.size [.slice b.va b.vs.length b.vc, .slice b.pa b.ps.length b.pc, .slice b.qa b.qs.length b.qc, .int .i64 b.cs, .int .i64 b.nx]) := BA.out.below hba
 replace BT : Hid (Bx ((w4.alloc (.cells #[.int .i64 t.id, .int .i64 t.st, .int .i64 t.snap, .int .i64 t.cs, .slice ra1 t.rs.length rc1, .slice wa1 t.ws.length wc1, .bool t.out, .string t.nm] 62))) (w.heap.size + 1) [.int .i64 t.id, .int .i64 t.st, .int .i64 t.snap, .int .i64 t.cs, .slice ra t.rs.length rc, .slice wa t.ws.length wc, .bool t.out, .string t.nm]) := BT.out.below hba
 replace BR : Hid (Bx ((w4.alloc (.cells #[.int .i64 t.id, .int .i64 t.st, .int .i64 t.snap, .int .i64 t.cs, .slice ra1 t.rs.length rc1, .slice wa1 t.ws.length wc1, .bool t.out, .string t.nm] 62))) (w.heap.size + 1 + 1) [.slice none 0 0, .slice none 0 0, .slice none 0 0, .int .i64 0, .int .i64 0]) := BR.out.below hba
 replace HB : Hid (Below w.heap.size w ((w4.alloc (.cells #[.int .i64 t.id, .int .i64 t.st, .int .i64 t.snap, .int .i64 t.cs, .slice ra1 t.rs.length rc1, .slice wa1 t.ws.length wc1, .bool t.out, .string t.nm] 62)))) := HB.out.trans (hba.mono HB.out.size)
 replace HPz : Hid (LLie ((w4.alloc (.cells #[.int .i64 t.id, .int .i64 t.st, .int .i64 t.snap, .int .i64 t.cs, .slice ra1 t.rs.length rc1, .slice wa1 t.ws.length wc1, .bool t.out, .string t.nm] 62))) m1 m2 (.slice c.pa c.ps.length c.pc) c.ps) := HPz.out.below hba
 replace HQz : Hid (LLie ((w4.alloc (.cells #[.int .i64 t.id, .int .i64 t.st, .int .i64 t.snap, .int .i64 t.cs, .slice ra1 t.rs.length rc1, .slice wa1 t.ws.length wc1, .bool t.out, .string t.nm] 62))) m2 w1.heap.size (.slice c.qa c.qs.length c.qc) c.qs) := HQz.out.below hba
 replace BO : Hid (Bx ((w4.alloc (.cells #[.int .i64 t.id, .int .i64 t.st, .int .i64 t.snap, .int .i64 t.cs, .slice ra1 t.rs.length rc1, .slice wa1 t.ws.length wc1, .bool t.out, .string t.nm] 62))) w1.heap.size [.slice c.va c.vs.length c.vc, .slice c.pa c.ps.length c.pc, .slice c.qa c.qs.length c.qc, .int .i64 N1, .int .i64 c.nx]) := BO.out.below hba
 replace HL1 : Hid (TLie ((w4.alloc (.cells #[.int .i64 t.id, .int .i64 t.st, .int .i64 t.snap, .int .i64 t.cs, .slice ra1 t.rs.length rc1, .slice wa1 t.ws.length wc1, .bool t.out, .string t.nm] 62))) w3.heap.size w4.heap.size t ra1 rc1 wa1 wc1) := HL1.out.below hba
 have BD : Hid (Bx ((w4.alloc (.cells #[.int .i64 t.id, .int .i64 t.st, .int .i64 t.snap, .int .i64 t.cs, .slice ra1 t.rs.length rc1, .slice wa1 t.ws.length wc1, .bool t.out, .string t.nm] 62))) w4.heap.size [.int .i64 t.id, .int .i64 t.st, .int .i64 t.snap, .int .i64 t.cs, .slice ra1 t.rs.length rc1, .slice wa1 t.ws.length wc1, .bool t.out, .string t.nm]) := Bx.new w4 [.int .i64 t.id, .int .i64 t.st, .int .i64 t.snap, .int .i64 t.cs, .slice ra1 t.rs.length rc1, .slice wa1 t.ws.length wc1, .bool t.out, .string t.nm] 62
 clear hba
 generalize (w4.alloc (.cells #[.int .i64 t.id, .int .i64 t.st, .int .i64 t.snap, .int .i64 t.cs, .slice ra1 t.rs.length rc1, .slice wa1 t.ws.length wc1, .bool t.out, .string t.nm] 62)) = w5 at *
 have z5 : w4.heap.size + 1 ≤ w5.heap.size := Nat.le_of_eq zq.symm
 clear zq
 go_cut [19] from 15 to 20 (fun _ wx => Hid (Bx wx w4.heap.size [.int .i64 t.id, .int .i64 3, .int .i64 t.snap, .int .i64 N1, .slice ra1 t.rs.length rc1, .slice wa1 t.ws.length wc1, .bool t.out, .string ⟨#[]⟩]) ∧ Hid (Kn [w4.heap.size] w5 wx))
 case first =>
  have BDd : Hid (Bx w5.drew w4.heap.size [.int .i64 t.id, .int .i64 t.st, .int .i64 t.snap, .int .i64 t.cs, .slice ra1 t.rs.length rc1, .slice wa1 t.ws.length wc1, .bool t.out, .string t.nm]) := BD.out.drew
  have BOd : Hid (Bx w5.drew w1.heap.size [.slice c.va c.vs.length c.vc, .slice c.pa c.ps.length c.pc, .slice c.qa c.qs.length c.qc, .int .i64 N1, .int .i64 c.nx]) := BO.out.drew
  go_wp2
  refine wp_region_held_drew (S := fun w' => w'.cell? ⟨w1.heap.size, 3, none⟩ = some (.int .i64 N1)) (by kernel_rfl) BOd.out.c3 (fun hHeld => ?_)
  (refine ti 0 ?_; simp only [Act.put, tA, tB, tD, tE, tF])
  (refine ti 1 ?_; simp only [Act.put, tA, tB, tC, tD, tE, tF])
  (refine ti 2 ?_; simp only [Act.put, tA, tB, tC, tD, tE, tF])
  have hkd : Kn [w4.heap.size] w5 w5.drew := Kn.ofBelow ((belowRefl w5).drew)
  generalize w5.drew = vd at *
  refine wpAnyH_ready (rs := [3]) (by kernel_rfl) (by simp) ?_
  refine AllReadyH.cons rfl (fun K hK => ?_) AllReadyH.nil
  have y := BDd.out.c1
  have fy := BDd.out.fz 1
  go_simp
  have BDd3 : Hid (Bx (vd.setCell ⟨w4.heap.size, 1, none⟩ (.int .i64 3)) w4.heap.size [.int .i64 t.id, .int .i64 3, .int .i64 t.snap, .int .i64 t.cs, .slice ra1 t.rs.length rc1, .slice wa1 t.ws.length wc1, .bool t.out, .string t.nm]) := BDd.out.set 1 (.int .i64 3)
  have BOd3 : Hid (Bx (vd.setCell ⟨w4.heap.size, 1, none⟩ (.int .i64 3)) w1.heap.size [.slice c.va c.vs.length c.vc, .slice c.pa c.ps.length c.pc, .slice c.qa c.qs.length c.qc, .int .i64 N1, .int .i64 c.nx]) := BOd.out.setO (p := ⟨w4.heap.size, 1, none⟩) (by show w4.heap.size ≠ w1.heap.size; omega) (.int .i64 3)
  clear y fy
  refine hK.out _ _ BOd3.out.c3 (fun hHeldd3 => ?_)
  clear hK K
  (refine ti 4 ?_; simp only [Act.put, tA, tB, tC, tD, tE, tF])
  refine wpAnyH_ready (rs := [5]) (by kernel_rfl) (by simp) ?_
  refine AllReadyH.cons rfl (fun K hK => ?_) AllReadyH.nil
  have y := BDd3.out.c3
  have fy := BDd3.out.fz 3
  go_simp
  have BDd35 : Hid (Bx ((vd.setCell ⟨w4.heap.size, 1, none⟩ (.int .i64 3)).setCell ⟨w4.heap.size, 3, none⟩ (.int .i64 N1)) w4.heap.size [.int .i64 t.id, .int .i64 3, .int .i64 t.snap, .int .i64 N1, .slice ra1 t.rs.length rc1, .slice wa1 t.ws.length wc1, .bool t.out, .string t.nm]) := BDd3.out.set 3 (.int .i64 N1)
  have BOd35 : Hid (Bx ((vd.setCell ⟨w4.heap.size, 1, none⟩ (.int .i64 3)).setCell ⟨w4.heap.size, 3, none⟩ (.int .i64 N1)) w1.heap.size [.slice c.va c.vs.length c.vc, .slice c.pa c.ps.length c.pc, .slice c.qa c.qs.length c.qc, .int .i64 N1, .int .i64 c.nx]) := BOd3.out.setO (p := ⟨w4.heap.size, 3, none⟩) (by show w4.heap.size ≠ w1.heap.size; omega) (.int .i64 N1)
  clear y fy
  refine hK.out _ _ BOd35.out.c3 (fun hHeldd35 => ?_)
  clear hK K
  (refine ti 6 ?_; simp only [Act.put, tA, tB, tC, tD, tE, tF])
  refine wpAnyH_ready (rs := [7]) (by kernel_rfl) (by simp) ?_
  refine AllReadyH.cons rfl (fun K hK => ?_) AllReadyH.nil
  have y := BDd35.out.c7
  have fy := BDd35.out.fz 7
  go_simp
  have BDd357 : Hid (Bx (((vd.setCell ⟨w4.heap.size, 1, none⟩ (.int .i64 3)).setCell ⟨w4.heap.size, 3, none⟩ (.int .i64 N1)).setCell ⟨w4.heap.size, 7, none⟩ (.string ⟨#[]⟩)) w4.heap.size [.int .i64 t.id, .int .i64 3, .int .i64 t.snap, .int .i64 N1, .slice ra1 t.rs.length rc1, .slice wa1 t.ws.length wc1, .bool t.out, .string ⟨#[]⟩]) := BDd35.out.set 7 (.string ⟨#[]⟩)
  have BOd357 : Hid (Bx (((vd.setCell ⟨w4.heap.size, 1, none⟩ (.int .i64 3)).setCell ⟨w4.heap.size, 3, none⟩ (.int .i64 N1)).setCell ⟨w4.heap.size, 7, none⟩ (.string ⟨#[]⟩)) w1.heap.size [.slice c.va c.vs.length c.vc, .slice c.pa c.ps.length c.pc, .slice c.qa c.qs.length c.qc, .int .i64 N1, .int .i64 c.nx]) := BOd35.out.setO (p := ⟨w4.heap.size, 7, none⟩) (by show w4.heap.size ≠ w1.heap.size; omega) (.string ⟨#[]⟩)
  clear y fy
  refine hK.out _ _ BOd357.out.c3 (fun hHeldd357 => ?_)
  clear hK K
  refine wpAnyH_done (by kernel_rfl) ?_ _
  go_wp2
  go_meet
  exact ⟨BDd357, (((hkd).trans (Kn.set vd (w4.heap.size) 1 (.int .i64 3))).trans (Kn.set (vd.setCell ⟨w4.heap.size, 1, none⟩ (.int .i64 3)) (w4.heap.size) 3 (.int .i64 N1))).trans (Kn.set ((vd.setCell ⟨w4.heap.size, 1, none⟩ (.int .i64 3)).setCell ⟨w4.heap.size, 3, none⟩ (.int .i64 N1)) (w4.heap.size) 7 (.string ⟨#[]⟩))⟩
 case rest =>
 obtain ⟨bd, hk⟩ := hcut
 obtain ⟨w6, hwz⟩ : ∃ w6, w6 = wc := ⟨_, rfl⟩
 subst hwz
 have z6 : w5.heap.size ≤ w6.heap.size := hk.out.size
 replace BA : Hid (Bx w6 w.heap.size [.slice b.va b.vs.length b.vc, .slice b.pa b.ps.length b.pc, .slice b.qa b.qs.length b.qc, .int .i64 b.cs, .int .i64 b.nx]) := BA.out.kn (hk.out) (by intro hm; simp only [List.mem_cons, List.not_mem_nil, or_false] at hm; omega)
 replace BT : Hid (Bx w6 (w.heap.size + 1) [.int .i64 t.id, .int .i64 t.st, .int .i64 t.snap, .int .i64 t.cs, .slice ra t.rs.length rc, .slice wa t.ws.length wc, .bool t.out, .string t.nm]) := BT.out.kn (hk.out) (by intro hm; simp only [List.mem_cons, List.not_mem_nil, or_false] at hm; omega)
 replace BR : Hid (Bx w6 (w.heap.size + 1 + 1) [.slice none 0 0, .slice none 0 0, .slice none 0 0, .int .i64 0, .int .i64 0]) := BR.out.kn (hk.out) (by intro hm; simp only [List.mem_cons, List.not_mem_nil, or_false] at hm; omega)
 replace HB : Hid (Below w.heap.size w w6) := HB.out.trans ((hk.out).below (by have := HB.out.size; omega) (by intro x hx; simp only [List.mem_cons, List.not_mem_nil, or_false] at hx; omega))
 replace HPz : Hid (LLie w6 m1 m2 (.slice c.pa c.ps.length c.pc) c.ps) := HPz.out.kn (hk.out) (by intro x hx; simp only [List.mem_cons, List.not_mem_nil, or_false] at hx; omega)
 replace HQz : Hid (LLie w6 m2 w1.heap.size (.slice c.qa c.qs.length c.qc) c.qs) := HQz.out.kn (hk.out) (by intro x hx; simp only [List.mem_cons, List.not_mem_nil, or_false] at hx; omega)
 replace BO : Hid (Bx w6 w1.heap.size [.slice c.va c.vs.length c.vc, .slice c.pa c.ps.length c.pc, .slice c.qa c.qs.length c.qc, .int .i64 N1, .int .i64 c.nx]) := BO.out.kn (hk.out) (by intro hm; simp only [List.mem_cons, List.not_mem_nil, or_false] at hm; omega)
 replace HL1 : Hid (TLie w6 w3.heap.size w4.heap.size t ra1 rc1 wa1 wc1) := HL1.out.kn (hk.out) (by intro x hx; simp only [List.mem_cons, List.not_mem_nil, or_false] at hx; omega)
 replace BD : Hid (Bx w6 w4.heap.size [.int .i64 t.id, .int .i64 3, .int .i64 t.snap, .int .i64 N1, .slice ra1 t.rs.length rc1, .slice wa1 t.ws.length wc1, .bool t.out, .string ⟨#[]⟩]) := bd.out
 clear hk bd
 go_upto_region 5 with fail
 go_cut [28] from 20 to 29 (fun _ wx => Hid (Bx wx w4.heap.size [.int .i64 t.id, .int .i64 3, .int .i64 t.snap, .int .i64 N1, .slice ra1 t.rs.length rc1, .slice wa1 t.ws.length wc1, .bool (t.out || o), .string ⟨#[]⟩]) ∧ Hid (Kn [w4.heap.size] w6 wx))
 case first =>
  have x6 := BT.out.c6
  have hto : t.out = false ∨ t.out = true := by cases t.out <;> simp
  rcases hto with hto | hto
  ·rw [hto] at x6
   have HTO := hide hto
   clear hto
   have y0 := BD.out.c0
   have y1 := BD.out.c1
   have y2 := BD.out.c2
   have y3 := BD.out.c3
   have y4 := BD.out.c4
   have y5 := BD.out.c5
   have y6 := BD.out.c6
   have y7 := BD.out.c7
   have x1 := BA.out.c1
   go_wp2_with fail
   refine (CO.out w6 ra1 wa1 rc1 wc1 HB.out HL1.out.row).mono ?_
   rintro e w7 ⟨rfl, hb⟩
   have bd7 : Hid (Bx w7 w4.heap.size [.int .i64 t.id, .int .i64 3, .int .i64 t.snap, .int .i64 N1, .slice ra1 t.rs.length rc1, .slice wa1 t.ws.length wc1, .bool t.out, .string ⟨#[]⟩]) := BD.out.below hb
   have z7 := bd7.out.c6
   have zf7 := bd7.out.fz 6
   have e6 : Hid ((t.out || o) = o) := by show _ = _; rw [HTO.out]; rfl
   go_wp2
   go_meet
   refine ⟨?_, (Kn.ofBelow hb).trans (Kn.set w7 (w4.heap.size) 6 (.bool o))⟩
   rw [e6.out]
   exact bd7.out.set 6 (.bool o)
  ·rw [hto] at x6
   have HTO := hide hto
   clear hto
   have y6 := BD.out.c6
   have yf6 := BD.out.fz 6
   have e6 : Hid ((t.out || o) = true) := by show _ = _; rw [HTO.out]; rfl
   go_wp2
   go_meet
   refine ⟨?_, Kn.set w6 (w4.heap.size) 6 (.bool true)⟩
   rw [e6.out]
   exact BD.out.set 6 (.bool true)
 case rest =>
 obtain ⟨bd, hk⟩ := hcut
 obtain ⟨w7, hwz⟩ : ∃ w7, w7 = wc := ⟨_, rfl⟩
 subst hwz
 have z7 : w6.heap.size ≤ w7.heap.size := hk.out.size
 replace BA : Hid (Bx w7 w.heap.size [.slice b.va b.vs.length b.vc, .slice b.pa b.ps.length b.pc, .slice b.qa b.qs.length b.qc, .int .i64 b.cs, .int .i64 b.nx]) := BA.out.kn (hk.out) (by intro hm; simp only [List.mem_cons, List.not_mem_nil, or_false] at hm; omega)
 replace BT : Hid (Bx w7 (w.heap.size + 1) [.int .i64 t.id, .int .i64 t.st, .int .i64 t.snap, .int .i64 t.cs, .slice ra t.rs.length rc, .slice wa t.ws.length wc, .bool t.out, .string t.nm]) := BT.out.kn (hk.out) (by intro hm; simp only [List.mem_cons, List.not_mem_nil, or_false] at hm; omega)
 replace BR : Hid (Bx w7 (w.heap.size + 1 + 1) [.slice none 0 0, .slice none 0 0, .slice none 0 0, .int .i64 0, .int .i64 0]) := BR.out.kn (hk.out) (by intro hm; simp only [List.mem_cons, List.not_mem_nil, or_false] at hm; omega)
 replace HB : Hid (Below w.heap.size w w7) := HB.out.trans ((hk.out).below (by have := HB.out.size; omega) (by intro x hx; simp only [List.mem_cons, List.not_mem_nil, or_false] at hx; omega))
 replace HPz : Hid (LLie w7 m1 m2 (.slice c.pa c.ps.length c.pc) c.ps) := HPz.out.kn (hk.out) (by intro x hx; simp only [List.mem_cons, List.not_mem_nil, or_false] at hx; omega)
 replace HQz : Hid (LLie w7 m2 w1.heap.size (.slice c.qa c.qs.length c.qc) c.qs) := HQz.out.kn (hk.out) (by intro x hx; simp only [List.mem_cons, List.not_mem_nil, or_false] at hx; omega)
 replace BO : Hid (Bx w7 w1.heap.size [.slice c.va c.vs.length c.vc, .slice c.pa c.ps.length c.pc, .slice c.qa c.qs.length c.qc, .int .i64 N1, .int .i64 c.nx]) := BO.out.kn (hk.out) (by intro hm; simp only [List.mem_cons, List.not_mem_nil, or_false] at hm; omega)
 replace HL1 : Hid (TLie w7 w3.heap.size w4.heap.size t ra1 rc1 wa1 wc1) := HL1.out.kn (hk.out) (by intro x hx; simp only [List.mem_cons, List.not_mem_nil, or_false] at hx; omega)
 replace BD : Hid (Bx w7 w4.heap.size [.int .i64 t.id, .int .i64 3, .int .i64 t.snap, .int .i64 N1, .slice ra1 t.rs.length rc1, .slice wa1 t.ws.length wc1, .bool (t.out || o), .string ⟨#[]⟩]) := bd.out
 clear hk bd
 have x0 := BA.out.c0
 have y5 := BT.out.c5
 have o3 := BO.out.c3
 go_wp2_with fail
 refine (iputA b.vs t.ws b.va wa b.vc wc N1 HVL.out HWL.out HF.out.vf HFT.out.2.2.2.1 _ (HP.out.below HB.out).v (HT.out.below HB.out).w).mono ?_
 rintro e w8 ⟨zs, a3, c3, rfl, ho, hzz, hb8⟩
 have HZZ := hide hzz
 clear hzz
 have z8 : w7.heap.size ≤ w8.heap.size := hb8.size
 have HV : Hid (Lies encV 150 w8 w7.heap.size w8.heap.size (.slice a3 zs.length c3) zs) := Lies.of ho
 clear ho
 replace BA : Hid (Bx w8 w.heap.size [.slice b.va b.vs.length b.vc, .slice b.pa b.ps.length b.pc, .slice b.qa b.qs.length b.qc, .int .i64 b.cs, .int .i64 b.nx]) := BA.out.below hb8
 replace BT : Hid (Bx w8 (w.heap.size + 1) [.int .i64 t.id, .int .i64 t.st, .int .i64 t.snap, .int .i64 t.cs, .slice ra t.rs.length rc, .slice wa t.ws.length wc, .bool t.out, .string t.nm]) := BT.out.below hb8
 replace BR : Hid (Bx w8 (w.heap.size + 1 + 1) [.slice none 0 0, .slice none 0 0, .slice none 0 0, .int .i64 0, .int .i64 0]) := BR.out.below hb8
 replace HB : Hid (Below w.heap.size w w8) := HB.out.trans (hb8.mono HB.out.size)
 replace HPz : Hid (LLie w8 m1 m2 (.slice c.pa c.ps.length c.pc) c.ps) := HPz.out.below hb8
 replace HQz : Hid (LLie w8 m2 w1.heap.size (.slice c.qa c.qs.length c.qc) c.qs) := HQz.out.below hb8
 replace BO : Hid (Bx w8 w1.heap.size [.slice c.va c.vs.length c.vc, .slice c.pa c.ps.length c.pc, .slice c.qa c.qs.length c.qc, .int .i64 N1, .int .i64 c.nx]) := BO.out.below hb8
 replace HL1 : Hid (TLie w8 w3.heap.size w4.heap.size t ra1 rc1 wa1 wc1) := HL1.out.below hb8
 replace BD : Hid (Bx w8 w4.heap.size [.int .i64 t.id, .int .i64 3, .int .i64 t.snap, .int .i64 N1, .slice ra1 t.rs.length rc1, .slice wa1 t.ws.length wc1, .bool (t.out || o), .string ⟨#[]⟩]) := BD.out.below hb8
 clear hb8 x0 y5 o3
 have o0 := BO.out.c0
 have of0 := BO.out.fz 0
 go_upto_region 7 with fail
 clear o0 of0
 have zq : (w8.setCell ⟨w1.heap.size, 0, none⟩ (.slice a3 zs.length c3)).heap.size = w8.heap.size := by simp [World.setCell]
 have hk : Kn [w1.heap.size] w8 (w8.setCell ⟨w1.heap.size, 0, none⟩ (.slice a3 zs.length c3)) := Kn.set w8 (w1.heap.size) 0 (.slice a3 zs.length c3)
 replace BA : Hid (Bx ((w8.setCell ⟨w1.heap.size, 0, none⟩ (.slice a3 zs.length c3))) w.heap.size [.slice b.va b.vs.length b.vc, .slice b.pa b.ps.length b.pc, .slice b.qa b.qs.length b.qc, .int .i64 b.cs, .int .i64 b.nx]) := BA.out.kn (hk) (by intro hm; simp only [List.mem_cons, List.not_mem_nil, or_false] at hm; omega)
 replace BT : Hid (Bx ((w8.setCell ⟨w1.heap.size, 0, none⟩ (.slice a3 zs.length c3))) (w.heap.size + 1) [.int .i64 t.id, .int .i64 t.st, .int .i64 t.snap, .int .i64 t.cs, .slice ra t.rs.length rc, .slice wa t.ws.length wc, .bool t.out, .string t.nm]) := BT.out.kn (hk) (by intro hm; simp only [List.mem_cons, List.not_mem_nil, or_false] at hm; omega)
 replace BR : Hid (Bx ((w8.setCell ⟨w1.heap.size, 0, none⟩ (.slice a3 zs.length c3))) (w.heap.size + 1 + 1) [.slice none 0 0, .slice none 0 0, .slice none 0 0, .int .i64 0, .int .i64 0]) := BR.out.kn (hk) (by intro hm; simp only [List.mem_cons, List.not_mem_nil, or_false] at hm; omega)
 replace HB : Hid (Below w.heap.size w ((w8.setCell ⟨w1.heap.size, 0, none⟩ (.slice a3 zs.length c3)))) := HB.out.trans ((hk).below (by have := HB.out.size; omega) (by intro x hx; simp only [List.mem_cons, List.not_mem_nil, or_false] at hx; omega))
 replace HPz : Hid (LLie ((w8.setCell ⟨w1.heap.size, 0, none⟩ (.slice a3 zs.length c3))) m1 m2 (.slice c.pa c.ps.length c.pc) c.ps) := HPz.out.kn (hk) (by intro x hx; simp only [List.mem_cons, List.not_mem_nil, or_false] at hx; omega)
 replace HQz : Hid (LLie ((w8.setCell ⟨w1.heap.size, 0, none⟩ (.slice a3 zs.length c3))) m2 w1.heap.size (.slice c.qa c.qs.length c.qc) c.qs) := HQz.out.kn (hk) (by intro x hx; simp only [List.mem_cons, List.not_mem_nil, or_false] at hx; omega)
 replace BO : Hid (Bx ((w8.setCell ⟨w1.heap.size, 0, none⟩ (.slice a3 zs.length c3))) w1.heap.size [.slice a3 zs.length c3, .slice c.pa c.ps.length c.pc, .slice c.qa c.qs.length c.qc, .int .i64 N1, .int .i64 c.nx]) := BO.out.set 0 (.slice a3 zs.length c3)
 replace HL1 : Hid (TLie ((w8.setCell ⟨w1.heap.size, 0, none⟩ (.slice a3 zs.length c3))) w3.heap.size w4.heap.size t ra1 rc1 wa1 wc1) := HL1.out.kn (hk) (by intro x hx; simp only [List.mem_cons, List.not_mem_nil, or_false] at hx; omega)
 replace BD : Hid (Bx ((w8.setCell ⟨w1.heap.size, 0, none⟩ (.slice a3 zs.length c3))) w4.heap.size [.int .i64 t.id, .int .i64 3, .int .i64 t.snap, .int .i64 N1, .slice ra1 t.rs.length rc1, .slice wa1 t.ws.length wc1, .bool (t.out || o), .string ⟨#[]⟩]) := BD.out.kn (hk) (by intro hm; simp only [List.mem_cons, List.not_mem_nil, or_false] at hm; omega)
 replace HV : Hid (Lies encV 150 ((w8.setCell ⟨w1.heap.size, 0, none⟩ (.slice a3 zs.length c3))) w7.heap.size w8.heap.size (.slice a3 zs.length c3) zs) := HV.out.kn (hk) (by intro x hx; simp only [List.mem_cons, List.not_mem_nil, or_false] at hx; omega)
 clear hk
 generalize (w8.setCell ⟨w1.heap.size, 0, none⟩ (.slice a3 zs.length c3)) = w9 at *
 have z9 : w8.heap.size ≤ w9.heap.size := Nat.le_of_eq zq.symm
 have y9 : w9.heap.size ≤ w8.heap.size := Nat.le_of_eq zq
 clear zq
 have hcl : c.ps.length ≤ 100000000 := by have := HSM.out.pl; have := HPL.out; omega
 have o1 := BO.out.c1
 have y0 := BD.out.c0
 have y1 := BD.out.c1
 have y2 := BD.out.c2
 have y3 := BD.out.c3
 have y4 := BD.out.c4
 have y5 := BD.out.c5
 have y6 := BD.out.c6
 have y7 := BD.out.c7
 have HBK : Hid ((w9.alloc (.cells #[.int .i64 t.id, .int .i64 3, .int .i64 t.snap, .int .i64 N1, .slice ra1 t.rs.length rc1, .slice wa1 t.ws.length wc1, .bool (t.out || o), .string ⟨#[]⟩] 62)).heap[w9.heap.size]? = some (.cells (encT.enc (⟨(dnT t N1 o), ra1, rc1, wa1, wc1⟩ : Ta)).toArray 62 (0, 0))) := heap_alloc_new w9 _
 have hba : Below w9.heap.size w9 (w9.alloc (.cells #[.int .i64 t.id, .int .i64 3, .int .i64 t.snap, .int .i64 N1, .slice ra1 t.rs.length rc1, .slice wa1 t.ws.length wc1, .bool (t.out || o), .string ⟨#[]⟩] 62)) := (belowRefl w9).alloc (Nat.le_refl _) _
 have zq : (w9.alloc (.cells #[.int .i64 t.id, .int .i64 3, .int .i64 t.snap, .int .i64 N1, .slice ra1 t.rs.length rc1, .slice wa1 t.ws.length wc1, .bool (t.out || o), .string ⟨#[]⟩] 62)).heap.size = w9.heap.size + 1 := World.size_alloc _ _
 replace BA : Hid (Bx ((w9.alloc (.cells #[.int .i64 t.id, .int .i64 3, .int .i64 t.snap, .int .i64 N1, .slice ra1 t.rs.length rc1, .slice wa1 t.ws.length wc1, .bool (t.out || o), .string ⟨#[]⟩] 62))) w.heap.size [.slice b.va b.vs.length b.vc, .slice b.pa b.ps.length b.pc, .slice b.qa b.qs.length b.qc, .int .i64 b.cs, .int .i64 b.nx]) := BA.out.below hba
 replace BT : Hid (Bx ((w9.alloc (.cells #[.int .i64 t.id, .int .i64 3, .int .i64 t.snap, .int .i64 N1, .slice ra1 t.rs.length rc1, .slice wa1 t.ws.length wc1, .bool (t.out || o), .string ⟨#[]⟩] 62))) (w.heap.size + 1) [.int .i64 t.id, .int .i64 t.st, .int .i64 t.snap, .int .i64 t.cs, .slice ra t.rs.length rc, .slice wa t.ws.length wc, .bool t.out, .string t.nm]) := BT.out.below hba
 replace BR : Hid (Bx ((w9.alloc (.cells #[.int .i64 t.id, .int .i64 3, .int .i64 t.snap, .int .i64 N1, .slice ra1 t.rs.length rc1, .slice wa1 t.ws.length wc1, .bool (t.out || o), .string ⟨#[]⟩] 62))) (w.heap.size + 1 + 1) [.slice none 0 0, .slice none 0 0, .slice none 0 0, .int .i64 0, .int .i64 0]) := BR.out.below hba
 replace HB : Hid (Below w.heap.size w ((w9.alloc (.cells #[.int .i64 t.id, .int .i64 3, .int .i64 t.snap, .int .i64 N1, .slice ra1 t.rs.length rc1, .slice wa1 t.ws.length wc1, .bool (t.out || o), .string ⟨#[]⟩] 62)))) := HB.out.trans (hba.mono HB.out.size)
 replace HPz : Hid (LLie ((w9.alloc (.cells #[.int .i64 t.id, .int .i64 3, .int .i64 t.snap, .int .i64 N1, .slice ra1 t.rs.length rc1, .slice wa1 t.ws.length wc1, .bool (t.out || o), .string ⟨#[]⟩] 62))) m1 m2 (.slice c.pa c.ps.length c.pc) c.ps) := HPz.out.below hba
 replace HQz : Hid (LLie ((w9.alloc (.cells #[.int .i64 t.id, .int .i64 3, .int .i64 t.snap, .int .i64 N1, .slice ra1 t.rs.length rc1, .slice wa1 t.ws.length wc1, .bool (t.out || o), .string ⟨#[]⟩] 62))) m2 w1.heap.size (.slice c.qa c.qs.length c.qc) c.qs) := HQz.out.below hba
 replace BO : Hid (Bx ((w9.alloc (.cells #[.int .i64 t.id, .int .i64 3, .int .i64 t.snap, .int .i64 N1, .slice ra1 t.rs.length rc1, .slice wa1 t.ws.length wc1, .bool (t.out || o), .string ⟨#[]⟩] 62))) w1.heap.size [.slice a3 zs.length c3, .slice c.pa c.ps.length c.pc, .slice c.qa c.qs.length c.qc, .int .i64 N1, .int .i64 c.nx]) := BO.out.below hba
 replace HL1 : Hid (TLie ((w9.alloc (.cells #[.int .i64 t.id, .int .i64 3, .int .i64 t.snap, .int .i64 N1, .slice ra1 t.rs.length rc1, .slice wa1 t.ws.length wc1, .bool (t.out || o), .string ⟨#[]⟩] 62))) w3.heap.size w4.heap.size t ra1 rc1 wa1 wc1) := HL1.out.below hba
 replace BD : Hid (Bx ((w9.alloc (.cells #[.int .i64 t.id, .int .i64 3, .int .i64 t.snap, .int .i64 N1, .slice ra1 t.rs.length rc1, .slice wa1 t.ws.length wc1, .bool (t.out || o), .string ⟨#[]⟩] 62))) w4.heap.size [.int .i64 t.id, .int .i64 3, .int .i64 t.snap, .int .i64 N1, .slice ra1 t.rs.length rc1, .slice wa1 t.ws.length wc1, .bool (t.out || o), .string ⟨#[]⟩]) := BD.out.below hba
 replace HV : Hid (Lies encV 150 ((w9.alloc (.cells #[.int .i64 t.id, .int .i64 3, .int .i64 t.snap, .int .i64 N1, .slice ra1 t.rs.length rc1, .slice wa1 t.ws.length wc1, .bool (t.out || o), .string ⟨#[]⟩] 62))) w7.heap.size w8.heap.size (.slice a3 zs.length c3) zs) := HV.out.below hba
 clear hba
 go_wp2_with (at_builtin; refine wpAppK (E := encT) 40 62 104 _ Tryz.underlying40 Tryz.info62 rfl (by omega) rfl _ _ rfl (⟨(dnT t N1 o), ra1, rc1, wa1, wc1⟩ : Ta) tone rfl HPz.out.own.own rfl HBK.out hcl (by omega) ?_)
 intro g' cap w10 ho hg hg2 hlt10
 have hz : Zn m1 m2 (w9.alloc (.cells #[.int .i64 t.id, .int .i64 3, .int .i64 t.snap, .int .i64 N1, .slice ra1 t.rs.length rc1, .slice wa1 t.ws.length wc1, .bool (t.out || o), .string ⟨#[]⟩] 62)) w10 := Zn.ofGrown hg (fun g h => HPz.out.own.lo g h)
 have z10 : w9.heap.size + 1 ≤ w10.heap.size := by have := hz.size; omega
 have zp : m1 ≤ m2 := HPz.out.zs.le
 have hgu : g' < w10.heap.size := hlt10
 have hgz : m1 ≤ g' ∧ (g' < m2 ∨ w9.heap.size + 1 ≤ g') := by
  rcases hg2 with h | h
  ·have := HPz.out.own.lo g' h; omega
  ·omega
 have HPw : Hid (GOwn encT 62 w10 m1 (.slice (some ⟨g', 0, none⟩) (c.ps.length + 1) cap) (c.ps ++ [(⟨(dnT t N1 o), ra1, rc1, wa1, wc1⟩ : Ta)])) := ho
 have HPe : Hid (Ea w10 m1 m2 c.ps) := HPz.out.lo.ea.part HPz.out.own.own hg
 clear hg hg2 hlt10 ho HBK o1 y0 y1 y2 y3 y4 y5 y6 y7
 clear HPz
 replace BA : Hid (Bx w10 w.heap.size [.slice b.va b.vs.length b.vc, .slice b.pa b.ps.length b.pc, .slice b.qa b.qs.length b.qc, .int .i64 b.cs, .int .i64 b.nx]) := BA.out.zn hz (by omega)
 replace BT : Hid (Bx w10 (w.heap.size + 1) [.int .i64 t.id, .int .i64 t.st, .int .i64 t.snap, .int .i64 t.cs, .slice ra t.rs.length rc, .slice wa t.ws.length wc, .bool t.out, .string t.nm]) := BT.out.zn hz (by omega)
 replace BR : Hid (Bx w10 (w.heap.size + 1 + 1) [.slice none 0 0, .slice none 0 0, .slice none 0 0, .int .i64 0, .int .i64 0]) := BR.out.zn hz (by omega)
 replace HB : Hid (Below w.heap.size w w10) := HB.out.trans (hz.below (by have := HB.out.size; omega) (by have := HB.out.size; omega))
 replace HQz : Hid (LLie w10 m2 w1.heap.size (.slice c.qa c.qs.length c.qc) c.qs) := HQz.out.zn hz (by omega)
 replace BO : Hid (Bx w10 w1.heap.size [.slice a3 zs.length c3, .slice c.pa c.ps.length c.pc, .slice c.qa c.qs.length c.qc, .int .i64 N1, .int .i64 c.nx]) := BO.out.zn hz (by omega)
 replace HL1 : Hid (TLie w10 w3.heap.size w4.heap.size t ra1 rc1 wa1 wc1) := HL1.out.zn hz (by omega)
 replace BD : Hid (Bx w10 w4.heap.size [.int .i64 t.id, .int .i64 3, .int .i64 t.snap, .int .i64 N1, .slice ra1 t.rs.length rc1, .slice wa1 t.ws.length wc1, .bool (t.out || o), .string ⟨#[]⟩]) := BD.out.zn hz (by omega)
 replace HV : Hid (Lies encV 150 w10 w7.heap.size w8.heap.size (.slice a3 zs.length c3) zs) := HV.out.zn hz (by omega)
 clear hz zq hcl
 have o1 := BO.out.c1
 have of1 := BO.out.fz 1
 go_upto_region 8 with fail
 clear o1 of1
 have zq : (w10.setCell ⟨w1.heap.size, 1, none⟩ (.slice (some ⟨g', 0, none⟩) (c.ps.length + 1) cap)).heap.size = w10.heap.size := by simp [World.setCell]
 have hk : Kn [w1.heap.size] w10 (w10.setCell ⟨w1.heap.size, 1, none⟩ (.slice (some ⟨g', 0, none⟩) (c.ps.length + 1) cap)) := Kn.set w10 (w1.heap.size) 1 (.slice (some ⟨g', 0, none⟩) (c.ps.length + 1) cap)
 replace BA : Hid (Bx ((w10.setCell ⟨w1.heap.size, 1, none⟩ (.slice (some ⟨g', 0, none⟩) (c.ps.length + 1) cap))) w.heap.size [.slice b.va b.vs.length b.vc, .slice b.pa b.ps.length b.pc, .slice b.qa b.qs.length b.qc, .int .i64 b.cs, .int .i64 b.nx]) := BA.out.kn (hk) (by intro hm; simp only [List.mem_cons, List.not_mem_nil, or_false] at hm; omega)
 replace BT : Hid (Bx ((w10.setCell ⟨w1.heap.size, 1, none⟩ (.slice (some ⟨g', 0, none⟩) (c.ps.length + 1) cap))) (w.heap.size + 1) [.int .i64 t.id, .int .i64 t.st, .int .i64 t.snap, .int .i64 t.cs, .slice ra t.rs.length rc, .slice wa t.ws.length wc, .bool t.out, .string t.nm]) := BT.out.kn (hk) (by intro hm; simp only [List.mem_cons, List.not_mem_nil, or_false] at hm; omega)
 replace BR : Hid (Bx ((w10.setCell ⟨w1.heap.size, 1, none⟩ (.slice (some ⟨g', 0, none⟩) (c.ps.length + 1) cap))) (w.heap.size + 1 + 1) [.slice none 0 0, .slice none 0 0, .slice none 0 0, .int .i64 0, .int .i64 0]) := BR.out.kn (hk) (by intro hm; simp only [List.mem_cons, List.not_mem_nil, or_false] at hm; omega)
 replace HB : Hid (Below w.heap.size w ((w10.setCell ⟨w1.heap.size, 1, none⟩ (.slice (some ⟨g', 0, none⟩) (c.ps.length + 1) cap)))) := HB.out.trans ((hk).below (by have := HB.out.size; omega) (by intro x hx; simp only [List.mem_cons, List.not_mem_nil, or_false] at hx; omega))
 replace HQz : Hid (LLie ((w10.setCell ⟨w1.heap.size, 1, none⟩ (.slice (some ⟨g', 0, none⟩) (c.ps.length + 1) cap))) m2 w1.heap.size (.slice c.qa c.qs.length c.qc) c.qs) := HQz.out.kn (hk) (by intro x hx; simp only [List.mem_cons, List.not_mem_nil, or_false] at hx; omega)
 replace BO : Hid (Bx ((w10.setCell ⟨w1.heap.size, 1, none⟩ (.slice (some ⟨g', 0, none⟩) (c.ps.length + 1) cap))) w1.heap.size [.slice a3 zs.length c3, (.slice (some ⟨g', 0, none⟩) (c.ps.length + 1) cap), .slice c.qa c.qs.length c.qc, .int .i64 N1, .int .i64 c.nx]) := BO.out.set 1 (.slice (some ⟨g', 0, none⟩) (c.ps.length + 1) cap)
 replace HL1 : Hid (TLie ((w10.setCell ⟨w1.heap.size, 1, none⟩ (.slice (some ⟨g', 0, none⟩) (c.ps.length + 1) cap))) w3.heap.size w4.heap.size t ra1 rc1 wa1 wc1) := HL1.out.kn (hk) (by intro x hx; simp only [List.mem_cons, List.not_mem_nil, or_false] at hx; omega)
 replace BD : Hid (Bx ((w10.setCell ⟨w1.heap.size, 1, none⟩ (.slice (some ⟨g', 0, none⟩) (c.ps.length + 1) cap))) w4.heap.size [.int .i64 t.id, .int .i64 3, .int .i64 t.snap, .int .i64 N1, .slice ra1 t.rs.length rc1, .slice wa1 t.ws.length wc1, .bool (t.out || o), .string ⟨#[]⟩]) := BD.out.kn (hk) (by intro hm; simp only [List.mem_cons, List.not_mem_nil, or_false] at hm; omega)
 replace HV : Hid (Lies encV 150 ((w10.setCell ⟨w1.heap.size, 1, none⟩ (.slice (some ⟨g', 0, none⟩) (c.ps.length + 1) cap))) w7.heap.size w8.heap.size (.slice a3 zs.length c3) zs) := HV.out.kn (hk) (by intro x hx; simp only [List.mem_cons, List.not_mem_nil, or_false] at hx; omega)
 replace HPw : Hid (GOwn encT 62 ((w10.setCell ⟨w1.heap.size, 1, none⟩ (.slice (some ⟨g', 0, none⟩) (c.ps.length + 1) cap))) m1 (.slice (some ⟨g', 0, none⟩) (c.ps.length + 1) cap) (c.ps ++ [(⟨(dnT t N1 o), ra1, rc1, wa1, wc1⟩ : Ta)])) := own_kn HPw.out (hk) (fun g e hm => by have e' : g' = g := Option.some.inj e; simp only [List.mem_cons, List.not_mem_nil, or_false] at hm; omega)
 replace HPe : Hid (Ea ((w10.setCell ⟨w1.heap.size, 1, none⟩ (.slice (some ⟨g', 0, none⟩) (c.ps.length + 1) cap))) m1 m2 c.ps) := HPe.out.kn (hk) (by intro x hx; simp only [List.mem_cons, List.not_mem_nil, or_false] at hx; omega)
 clear hk
 generalize (w10.setCell ⟨w1.heap.size, 1, none⟩ (.slice (some ⟨g', 0, none⟩) (c.ps.length + 1) cap)) = w11 at *
 have z11 : w10.heap.size ≤ w11.heap.size := Nat.le_of_eq zq.symm
 have y11 : w11.heap.size ≤ w10.heap.size := Nat.le_of_eq zq
 clear zq
 have hql2 : c.qs.length ≤ 10000000 := by have := HSM.out.ql; have := HQL.out; omega
 go_wp2
 refine wp_region_held_drew (S := fun w' => w'.cell? ⟨w.heap.size + 1, 0, none⟩ = some (.int .i64 t.id) ∧ w'.cell? ⟨w4.heap.size, 0, none⟩ = some (.int .i64 t.id) ∧ w'.cell? ⟨w4.heap.size, 1, none⟩ = some (.int .i64 3) ∧ w'.cell? ⟨w4.heap.size, 2, none⟩ = some (.int .i64 t.snap) ∧ w'.cell? ⟨w4.heap.size, 3, none⟩ = some (.int .i64 N1) ∧ w'.cell? ⟨w4.heap.size, 4, none⟩ = some (.slice ra1 t.rs.length rc1) ∧ w'.cell? ⟨w4.heap.size, 5, none⟩ = some (.slice wa1 t.ws.length wc1) ∧ w'.cell? ⟨w4.heap.size, 6, none⟩ = some (.bool (t.out || o)) ∧ w'.cell? ⟨w4.heap.size, 7, none⟩ = some (.string ⟨#[]⟩) ) (by kernel_rfl) ⟨BT.out.drew.c0, BD.out.drew.c0, BD.out.drew.c1, BD.out.drew.c2, BD.out.drew.c3, BD.out.drew.c4, BD.out.drew.c5, BD.out.drew.c6, BD.out.drew.c7⟩ (fun hHeld => ?_)
 (refine ti 0 ?_; simp only [Act.put, tA, tB, tD, tE, tF])
 (refine ti 3 ?_; simp only [Act.put, tA, tB, tC, tD, tE, tF])
 (refine ti 4 ?_; simp only [Act.put, tA, tB, tC, tD, tE, tF])
 (refine ti 6 ?_; simp only [Act.put, tA, tB, tC, tD, tE, tF])
 refine wpAnyH_ready (rs := [1]) (by kernel_rfl) (by simp) ?_
 refine AllReadyH.cons rfl (fun K hK => ?_) AllReadyH.nil
 have y2 := BO.out.drew.c2
 go_simp
 refine hK.out _ _ ⟨BT.out.drew.c0, BD.out.drew.c0, BD.out.drew.c1, BD.out.drew.c2, BD.out.drew.c3, BD.out.drew.c4, BD.out.drew.c5, BD.out.drew.c6, BD.out.drew.c7⟩ (fun hHeld1 => ?_)
 clear hK K y2
 refine wpAnyH_ready (rs := [2]) (by kernel_rfl) (by simp) ?_
 refine AllReadyH.cons rfl (fun K hK => ?_) AllReadyH.nil
 go_simp
 go_wp2_with fail
 refine (by42 c.qa c.qc c.qs.length _).mono ?_
 rintro e w12 ⟨rfl, hb12⟩
 have hbu := undrew hb12
 have z12 : w11.heap.size ≤ w12.heap.size := hbu.size
 replace BA : Hid (Bx w12 w.heap.size [.slice b.va b.vs.length b.vc, .slice b.pa b.ps.length b.pc, .slice b.qa b.qs.length b.qc, .int .i64 b.cs, .int .i64 b.nx]) := BA.out.below hbu
 replace BT : Hid (Bx w12 (w.heap.size + 1) [.int .i64 t.id, .int .i64 t.st, .int .i64 t.snap, .int .i64 t.cs, .slice ra t.rs.length rc, .slice wa t.ws.length wc, .bool t.out, .string t.nm]) := BT.out.below hbu
 replace BR : Hid (Bx w12 (w.heap.size + 1 + 1) [.slice none 0 0, .slice none 0 0, .slice none 0 0, .int .i64 0, .int .i64 0]) := BR.out.below hbu
 replace HB : Hid (Below w.heap.size w w12) := HB.out.trans (hbu.mono HB.out.size)
 replace HQz : Hid (LLie w12 m2 w1.heap.size (.slice c.qa c.qs.length c.qc) c.qs) := HQz.out.below hbu
 replace BO : Hid (Bx w12 w1.heap.size [.slice a3 zs.length c3, .slice (some ⟨g', 0, none⟩) (c.ps.length + 1) cap, .slice c.qa c.qs.length c.qc, .int .i64 N1, .int .i64 c.nx]) := BO.out.below hbu
 replace HL1 : Hid (TLie w12 w3.heap.size w4.heap.size t ra1 rc1 wa1 wc1) := HL1.out.below hbu
 replace BD : Hid (Bx w12 w4.heap.size [.int .i64 t.id, .int .i64 3, .int .i64 t.snap, .int .i64 N1, .slice ra1 t.rs.length rc1, .slice wa1 t.ws.length wc1, .bool (t.out || o), .string ⟨#[]⟩]) := BD.out.below hbu
 replace HV : Hid (Lies encV 150 w12 w7.heap.size w8.heap.size (.slice a3 zs.length c3) zs) := HV.out.below hbu
 replace HPw : Hid (GOwn encT 62 w12 m1 (.slice (some ⟨g', 0, none⟩) (c.ps.length + 1) cap) (c.ps ++ [(⟨(dnT t N1 o), ra1, rc1, wa1, wc1⟩ : Ta)])) := HPw.out.below hbu
 replace HPe : Hid (Ea w12 m1 m2 c.ps) := HPe.out.below hbu
 go_wp2_with fail
 refine hK.out _ _ ⟨BT.out.c0, BD.out.c0, BD.out.c1, BD.out.c2, BD.out.c3, BD.out.c4, BD.out.c5, BD.out.c6, BD.out.c7⟩ (fun hHeld12 => ?_)
 clear hK K hb12 hbu
 refine wpAnyH_ready (rs := [5]) (by kernel_rfl) (by simp) ?_
 refine AllReadyH.cons rfl (fun K hK => ?_) AllReadyH.nil
 go_simp
 go_wp2_with fail
 refine (withoutI c.qs c.qa c.qc c.qs.length rfl hql2 t.id _ HQz.out.rows).mono ?_
 rintro e w13 ⟨a5, c5, n5, rfl, hn5, ho, hb13⟩
 have z13 : w12.heap.size ≤ w13.heap.size := hb13.size
 have HN5 := hide hn5
 have HE5 : Hid (Ea w13 m2 w1.heap.size (c.qs.filter (otherA t.id))) := (HQz.out.below hb13).lo.ea.sub (fun y hy => (List.mem_filter.1 hy).1)
 have HO5 : Hid (GOwn encT 62 w13 w12.heap.size (.slice a5 n5 c5) (c.qs.filter (otherA t.id))) := ho
 clear ho hn5
 replace BA : Hid (Bx w13 w.heap.size [.slice b.va b.vs.length b.vc, .slice b.pa b.ps.length b.pc, .slice b.qa b.qs.length b.qc, .int .i64 b.cs, .int .i64 b.nx]) := BA.out.below hb13
 replace BT : Hid (Bx w13 (w.heap.size + 1) [.int .i64 t.id, .int .i64 t.st, .int .i64 t.snap, .int .i64 t.cs, .slice ra t.rs.length rc, .slice wa t.ws.length wc, .bool t.out, .string t.nm]) := BT.out.below hb13
 replace BR : Hid (Bx w13 (w.heap.size + 1 + 1) [.slice none 0 0, .slice none 0 0, .slice none 0 0, .int .i64 0, .int .i64 0]) := BR.out.below hb13
 replace HB : Hid (Below w.heap.size w w13) := HB.out.trans (hb13.mono HB.out.size)
 replace HQz : Hid (LLie w13 m2 w1.heap.size (.slice c.qa c.qs.length c.qc) c.qs) := HQz.out.below hb13
 replace BO : Hid (Bx w13 w1.heap.size [.slice a3 zs.length c3, .slice (some ⟨g', 0, none⟩) (c.ps.length + 1) cap, .slice c.qa c.qs.length c.qc, .int .i64 N1, .int .i64 c.nx]) := BO.out.below hb13
 replace HL1 : Hid (TLie w13 w3.heap.size w4.heap.size t ra1 rc1 wa1 wc1) := HL1.out.below hb13
 replace BD : Hid (Bx w13 w4.heap.size [.int .i64 t.id, .int .i64 3, .int .i64 t.snap, .int .i64 N1, .slice ra1 t.rs.length rc1, .slice wa1 t.ws.length wc1, .bool (t.out || o), .string ⟨#[]⟩]) := BD.out.below hb13
 replace HV : Hid (Lies encV 150 w13 w7.heap.size w8.heap.size (.slice a3 zs.length c3) zs) := HV.out.below hb13
 replace HPw : Hid (GOwn encT 62 w13 m1 (.slice (some ⟨g', 0, none⟩) (c.ps.length + 1) cap) (c.ps ++ [(⟨(dnT t N1 o), ra1, rc1, wa1, wc1⟩ : Ta)])) := HPw.out.below hb13
 replace HPe : Hid (Ea w13 m1 m2 c.ps) := HPe.out.below hb13
 go_wp2_with fail
 refine hK.out _ _ ⟨BT.out.c0, BD.out.c0, BD.out.c1, BD.out.c2, BD.out.c3, BD.out.c4, BD.out.c5, BD.out.c6, BD.out.c7⟩ (fun hHeld13 => ?_)
 clear hK K hb13
 have hn5 : n5 ≤ 2000000 := by have h1 := HN5.out; have h2 : (c.qs.filter (otherA t.id)).length ≤ c.qs.length := List.length_filter_le _ _; have := HSM.out.ql; have := HQL.out; omega
 have CM : Hid (Calls Tryz.prog 97 #[.slice a5 n5 c5, .agg #[.int .i64 t.id, .int .i64 3, .int .i64 t.snap, .int .i64 N1, .slice ra1 t.rs.length rc1, .slice wa1 t.ws.length wc1, .bool (t.out || o), .string ⟨#[]⟩]] w13 fun e w' => e = .returned (.slice a5 n5 c5) ∧ GOwn encT 62 w' w12.heap.size (.slice a5 n5 c5) ((c.qs.filter (otherA t.id)).map (mkA (dnT t N1 o))) ∧ w13.grownBy w' (Value.slice a5 n5 c5).ownBlock) := imark (c.qs.filter (otherA t.id)) a5 c5 n5 (dnT t N1 o) ra1 wa1 rc1 wc1 w3.heap.size w4.heap.size m2 w1.heap.size w12.heap.size HN5.out hn5 ⟨Nat.le_trans (by rw [txs_len]; exact List.length_filter_le _ _) (by have := (HSM.out.fit HF.out).ql; exact this), fun y hy => (HSM.out.fit HF.out).q.2 y (by obtain ⟨z, hz, rfl⟩ := List.mem_map.1 hy; exact List.mem_map.2 ⟨z, (List.mem_filter.1 hz).1, rfl⟩)⟩ ⟨HFT.out.1, HFT.out.2.1, HFT.out.2.2.1, HFT.out.2.2.2.1, by show (⟨#[]⟩ : ByteArray).size ≤ _; decide⟩ w13 HO5.out HE5.out (HL1.out.as (u := (dnT t N1 o)) rfl rfl)
 refine wpAnyH_ready (rs := [7]) (by kernel_rfl) (by simp) ?_
 refine AllReadyH.cons rfl (fun K hK => ?_) AllReadyH.nil
 go_simp
 go_wp2_with fail
 refine CM.out.mono ?_
 rintro e w14 ⟨rfl, ho, hg⟩
 have hz : Zn w12.heap.size w13.heap.size w13 w14 := Zn.ofGrown hg (fun g h => (World.ownsRow.lt HO5.out g h))
 have z14 : w13.heap.size ≤ w14.heap.size := hz.size
 have HQw : Hid (Lies encT 62 w14 w12.heap.size w14.heap.size (.slice a5 n5 c5) ((c.qs.filter (otherA t.id)).map (mkA (dnT t N1 o)))) := Lies.of ho
 have HQe : Hid (Ea w14 m2 w1.heap.size ((c.qs.filter (otherA t.id)).map (mkA (dnT t N1 o)))) := (HE5.out.zn hz (by omega)).mk (dnT t N1 o)
 clear ho hg CM HO5 hn5
 clear HE5
 replace BA : Hid (Bx w14 w.heap.size [.slice b.va b.vs.length b.vc, .slice b.pa b.ps.length b.pc, .slice b.qa b.qs.length b.qc, .int .i64 b.cs, .int .i64 b.nx]) := BA.out.zn hz (by omega)
 replace BT : Hid (Bx w14 (w.heap.size + 1) [.int .i64 t.id, .int .i64 t.st, .int .i64 t.snap, .int .i64 t.cs, .slice ra t.rs.length rc, .slice wa t.ws.length wc, .bool t.out, .string t.nm]) := BT.out.zn hz (by omega)
 replace BR : Hid (Bx w14 (w.heap.size + 1 + 1) [.slice none 0 0, .slice none 0 0, .slice none 0 0, .int .i64 0, .int .i64 0]) := BR.out.zn hz (by omega)
 replace HB : Hid (Below w.heap.size w w14) := HB.out.trans (hz.below (by have := HB.out.size; omega) (by have := HB.out.size; omega))
 replace HQz : Hid (LLie w14 m2 w1.heap.size (.slice c.qa c.qs.length c.qc) c.qs) := HQz.out.zn hz (by omega)
 replace BO : Hid (Bx w14 w1.heap.size [.slice a3 zs.length c3, .slice (some ⟨g', 0, none⟩) (c.ps.length + 1) cap, .slice c.qa c.qs.length c.qc, .int .i64 N1, .int .i64 c.nx]) := BO.out.zn hz (by omega)
 replace HL1 : Hid (TLie w14 w3.heap.size w4.heap.size t ra1 rc1 wa1 wc1) := HL1.out.zn hz (by omega)
 replace BD : Hid (Bx w14 w4.heap.size [.int .i64 t.id, .int .i64 3, .int .i64 t.snap, .int .i64 N1, .slice ra1 t.rs.length rc1, .slice wa1 t.ws.length wc1, .bool (t.out || o), .string ⟨#[]⟩]) := BD.out.zn hz (by omega)
 replace HV : Hid (Lies encV 150 w14 w7.heap.size w8.heap.size (.slice a3 zs.length c3) zs) := HV.out.zn hz (by omega)
 replace HPw : Hid (GOwn encT 62 w14 m1 (.slice (some ⟨g', 0, none⟩) (c.ps.length + 1) cap) (c.ps ++ [(⟨(dnT t N1 o), ra1, rc1, wa1, wc1⟩ : Ta)])) := ownsZn HPw.out hz (fun g e => by have e' : g' = g := Option.some.inj e; omega)
 replace HPe : Hid (Ea w14 m1 m2 c.ps) := HPe.out.zn hz (by omega)
 clear hz
 go_wp2_with fail
 refine hK.out _ _ ⟨BT.out.c0, BD.out.c0, BD.out.c1, BD.out.c2, BD.out.c3, BD.out.c4, BD.out.c5, BD.out.c6, BD.out.c7⟩ (fun hHeld14 => ?_)
 clear hK K
 (refine ti 8 ?_; simp only [Act.put, tA, tB, tC, tD, tE, tF])
 refine wpAnyH_ready (rs := [9]) (by kernel_rfl) (by simp) ?_
 refine AllReadyH.cons rfl (fun K hK => ?_) AllReadyH.nil
 have y2 := BO.out.c2
 have fy2 := BO.out.fz 2
 go_simp
 clear y2 fy2
 have zq : (w14.setCell ⟨w1.heap.size, 2, none⟩ (.slice a5 n5 c5)).heap.size = w14.heap.size := by simp [World.setCell]
 have hk : Kn [w1.heap.size] w14 (w14.setCell ⟨w1.heap.size, 2, none⟩ (.slice a5 n5 c5)) := Kn.set w14 (w1.heap.size) 2 (.slice a5 n5 c5)
 replace BA : Hid (Bx ((w14.setCell ⟨w1.heap.size, 2, none⟩ (.slice a5 n5 c5))) w.heap.size [.slice b.va b.vs.length b.vc, .slice b.pa b.ps.length b.pc, .slice b.qa b.qs.length b.qc, .int .i64 b.cs, .int .i64 b.nx]) := BA.out.kn (hk) (by intro hm; simp only [List.mem_cons, List.not_mem_nil, or_false] at hm; omega)
 replace BT : Hid (Bx ((w14.setCell ⟨w1.heap.size, 2, none⟩ (.slice a5 n5 c5))) (w.heap.size + 1) [.int .i64 t.id, .int .i64 t.st, .int .i64 t.snap, .int .i64 t.cs, .slice ra t.rs.length rc, .slice wa t.ws.length wc, .bool t.out, .string t.nm]) := BT.out.kn (hk) (by intro hm; simp only [List.mem_cons, List.not_mem_nil, or_false] at hm; omega)
 replace BR : Hid (Bx ((w14.setCell ⟨w1.heap.size, 2, none⟩ (.slice a5 n5 c5))) (w.heap.size + 1 + 1) [.slice none 0 0, .slice none 0 0, .slice none 0 0, .int .i64 0, .int .i64 0]) := BR.out.kn (hk) (by intro hm; simp only [List.mem_cons, List.not_mem_nil, or_false] at hm; omega)
 replace HB : Hid (Below w.heap.size w ((w14.setCell ⟨w1.heap.size, 2, none⟩ (.slice a5 n5 c5)))) := HB.out.trans ((hk).below (by have := HB.out.size; omega) (by intro x hx; simp only [List.mem_cons, List.not_mem_nil, or_false] at hx; omega))
 replace HQz : Hid (LLie ((w14.setCell ⟨w1.heap.size, 2, none⟩ (.slice a5 n5 c5))) m2 w1.heap.size (.slice c.qa c.qs.length c.qc) c.qs) := HQz.out.kn (hk) (by intro x hx; simp only [List.mem_cons, List.not_mem_nil, or_false] at hx; omega)
 replace BO : Hid (Bx ((w14.setCell ⟨w1.heap.size, 2, none⟩ (.slice a5 n5 c5))) w1.heap.size [.slice a3 zs.length c3, .slice (some ⟨g', 0, none⟩) (c.ps.length + 1) cap, .slice a5 n5 c5, .int .i64 N1, .int .i64 c.nx]) := BO.out.set 2 (.slice a5 n5 c5)
 replace HL1 : Hid (TLie ((w14.setCell ⟨w1.heap.size, 2, none⟩ (.slice a5 n5 c5))) w3.heap.size w4.heap.size t ra1 rc1 wa1 wc1) := HL1.out.kn (hk) (by intro x hx; simp only [List.mem_cons, List.not_mem_nil, or_false] at hx; omega)
 replace BD : Hid (Bx ((w14.setCell ⟨w1.heap.size, 2, none⟩ (.slice a5 n5 c5))) w4.heap.size [.int .i64 t.id, .int .i64 3, .int .i64 t.snap, .int .i64 N1, .slice ra1 t.rs.length rc1, .slice wa1 t.ws.length wc1, .bool (t.out || o), .string ⟨#[]⟩]) := BD.out.kn (hk) (by intro hm; simp only [List.mem_cons, List.not_mem_nil, or_false] at hm; omega)
 replace HV : Hid (Lies encV 150 ((w14.setCell ⟨w1.heap.size, 2, none⟩ (.slice a5 n5 c5))) w7.heap.size w8.heap.size (.slice a3 zs.length c3) zs) := HV.out.kn (hk) (by intro x hx; simp only [List.mem_cons, List.not_mem_nil, or_false] at hx; omega)
 replace HPw : Hid (GOwn encT 62 ((w14.setCell ⟨w1.heap.size, 2, none⟩ (.slice a5 n5 c5))) m1 (.slice (some ⟨g', 0, none⟩) (c.ps.length + 1) cap) (c.ps ++ [(⟨(dnT t N1 o), ra1, rc1, wa1, wc1⟩ : Ta)])) := own_kn HPw.out (hk) (fun g e hm => by have e' : g' = g := Option.some.inj e; simp only [List.mem_cons, List.not_mem_nil, or_false] at hm; omega)
 replace HPe : Hid (Ea ((w14.setCell ⟨w1.heap.size, 2, none⟩ (.slice a5 n5 c5))) m1 m2 c.ps) := HPe.out.kn (hk) (by intro x hx; simp only [List.mem_cons, List.not_mem_nil, or_false] at hx; omega)
 replace HQw : Hid (Lies encT 62 ((w14.setCell ⟨w1.heap.size, 2, none⟩ (.slice a5 n5 c5))) w12.heap.size w14.heap.size (.slice a5 n5 c5) ((c.qs.filter (otherA t.id)).map (mkA (dnT t N1 o)))) := HQw.out.kn (hk) (by intro x hx; simp only [List.mem_cons, List.not_mem_nil, or_false] at hx; omega)
 replace HQe : Hid (Ea ((w14.setCell ⟨w1.heap.size, 2, none⟩ (.slice a5 n5 c5))) m2 w1.heap.size ((c.qs.filter (otherA t.id)).map (mkA (dnT t N1 o)))) := HQe.out.kn (hk) (by intro x hx; simp only [List.mem_cons, List.not_mem_nil, or_false] at hx; omega)
 clear hk
 refine hK.out _ _ ?_ (fun hHeld15 => ?_)
 ·exact ⟨BT.out.c0, BD.out.c0, BD.out.c1, BD.out.c2, BD.out.c3, BD.out.c4, BD.out.c5, BD.out.c6, BD.out.c7⟩
 clear hK K
 refine wpAnyH_done (by kernel_rfl) ?_ _
 generalize (w14.setCell ⟨w1.heap.size, 2, none⟩ (.slice a5 n5 c5)) = w15 at *
 have z15 : w14.heap.size ≤ w15.heap.size := Nat.le_of_eq zq.symm
 have y15 : w15.heap.size ≤ w14.heap.size := Nat.le_of_eq zq
 clear zq hql2
 have x4 := BA.out.c4
 have y0 := BT.out.c0
 go_wp2_with fail
 refine (inextW b.nx t.id _).mono ?_
 rintro e w16 ⟨rfl, hb16⟩
 have z16 : w15.heap.size ≤ w16.heap.size := hb16.size
 replace BA : Hid (Bx w16 w.heap.size [.slice b.va b.vs.length b.vc, .slice b.pa b.ps.length b.pc, .slice b.qa b.qs.length b.qc, .int .i64 b.cs, .int .i64 b.nx]) := BA.out.below hb16
 replace BT : Hid (Bx w16 (w.heap.size + 1) [.int .i64 t.id, .int .i64 t.st, .int .i64 t.snap, .int .i64 t.cs, .slice ra t.rs.length rc, .slice wa t.ws.length wc, .bool t.out, .string t.nm]) := BT.out.below hb16
 replace BR : Hid (Bx w16 (w.heap.size + 1 + 1) [.slice none 0 0, .slice none 0 0, .slice none 0 0, .int .i64 0, .int .i64 0]) := BR.out.below hb16
 replace HB : Hid (Below w.heap.size w w16) := HB.out.trans (hb16.mono HB.out.size)
 replace HQz : Hid (LLie w16 m2 w1.heap.size (.slice c.qa c.qs.length c.qc) c.qs) := HQz.out.below hb16
 replace BO : Hid (Bx w16 w1.heap.size [.slice a3 zs.length c3, .slice (some ⟨g', 0, none⟩) (c.ps.length + 1) cap, .slice a5 n5 c5, .int .i64 N1, .int .i64 c.nx]) := BO.out.below hb16
 replace HL1 : Hid (TLie w16 w3.heap.size w4.heap.size t ra1 rc1 wa1 wc1) := HL1.out.below hb16
 replace BD : Hid (Bx w16 w4.heap.size [.int .i64 t.id, .int .i64 3, .int .i64 t.snap, .int .i64 N1, .slice ra1 t.rs.length rc1, .slice wa1 t.ws.length wc1, .bool (t.out || o), .string ⟨#[]⟩]) := BD.out.below hb16
 replace HV : Hid (Lies encV 150 w16 w7.heap.size w8.heap.size (.slice a3 zs.length c3) zs) := HV.out.below hb16
 replace HPw : Hid (GOwn encT 62 w16 m1 (.slice (some ⟨g', 0, none⟩) (c.ps.length + 1) cap) (c.ps ++ [(⟨(dnT t N1 o), ra1, rc1, wa1, wc1⟩ : Ta)])) := HPw.out.below hb16
 replace HPe : Hid (Ea w16 m1 m2 c.ps) := HPe.out.below hb16
 replace HQw : Hid (Lies encT 62 w16 w12.heap.size w14.heap.size (.slice a5 n5 c5) ((c.qs.filter (otherA t.id)).map (mkA (dnT t N1 o)))) := HQw.out.below hb16
 replace HQe : Hid (Ea w16 m2 w1.heap.size ((c.qs.filter (otherA t.id)).map (mkA (dnT t N1 o)))) := HQe.out.below hb16
 clear hb16 x4 y0
 have o4 := BO.out.c4
 have of4 := BO.out.fz 4
 go_upto_region 10 with fail
 clear o4 of4
 have zq : (w16.setCell ⟨w1.heap.size, 4, none⟩ (.int .i64 (nxW b.nx t.id))).heap.size = w16.heap.size := by simp [World.setCell]
 have hk : Kn [w1.heap.size] w16 (w16.setCell ⟨w1.heap.size, 4, none⟩ (.int .i64 (nxW b.nx t.id))) := Kn.set w16 (w1.heap.size) 4 (.int .i64 (nxW b.nx t.id))
 replace BA : Hid (Bx ((w16.setCell ⟨w1.heap.size, 4, none⟩ (.int .i64 (nxW b.nx t.id)))) w.heap.size [.slice b.va b.vs.length b.vc, .slice b.pa b.ps.length b.pc, .slice b.qa b.qs.length b.qc, .int .i64 b.cs, .int .i64 b.nx]) := BA.out.kn (hk) (by intro hm; simp only [List.mem_cons, List.not_mem_nil, or_false] at hm; omega)
 replace BT : Hid (Bx ((w16.setCell ⟨w1.heap.size, 4, none⟩ (.int .i64 (nxW b.nx t.id)))) (w.heap.size + 1) [.int .i64 t.id, .int .i64 t.st, .int .i64 t.snap, .int .i64 t.cs, .slice ra t.rs.length rc, .slice wa t.ws.length wc, .bool t.out, .string t.nm]) := BT.out.kn (hk) (by intro hm; simp only [List.mem_cons, List.not_mem_nil, or_false] at hm; omega)
 replace BR : Hid (Bx ((w16.setCell ⟨w1.heap.size, 4, none⟩ (.int .i64 (nxW b.nx t.id)))) (w.heap.size + 1 + 1) [.slice none 0 0, .slice none 0 0, .slice none 0 0, .int .i64 0, .int .i64 0]) := BR.out.kn (hk) (by intro hm; simp only [List.mem_cons, List.not_mem_nil, or_false] at hm; omega)
 replace HB : Hid (Below w.heap.size w ((w16.setCell ⟨w1.heap.size, 4, none⟩ (.int .i64 (nxW b.nx t.id))))) := HB.out.trans ((hk).below (by have := HB.out.size; omega) (by intro x hx; simp only [List.mem_cons, List.not_mem_nil, or_false] at hx; omega))
 replace HQz : Hid (LLie ((w16.setCell ⟨w1.heap.size, 4, none⟩ (.int .i64 (nxW b.nx t.id)))) m2 w1.heap.size (.slice c.qa c.qs.length c.qc) c.qs) := HQz.out.kn (hk) (by intro x hx; simp only [List.mem_cons, List.not_mem_nil, or_false] at hx; omega)
 replace BO : Hid (Bx ((w16.setCell ⟨w1.heap.size, 4, none⟩ (.int .i64 (nxW b.nx t.id)))) w1.heap.size [.slice a3 zs.length c3, .slice (some ⟨g', 0, none⟩) (c.ps.length + 1) cap, .slice a5 n5 c5, .int .i64 N1, .int .i64 (nxW b.nx t.id)]) := BO.out.set 4 (.int .i64 (nxW b.nx t.id))
 replace HL1 : Hid (TLie ((w16.setCell ⟨w1.heap.size, 4, none⟩ (.int .i64 (nxW b.nx t.id)))) w3.heap.size w4.heap.size t ra1 rc1 wa1 wc1) := HL1.out.kn (hk) (by intro x hx; simp only [List.mem_cons, List.not_mem_nil, or_false] at hx; omega)
 replace BD : Hid (Bx ((w16.setCell ⟨w1.heap.size, 4, none⟩ (.int .i64 (nxW b.nx t.id)))) w4.heap.size [.int .i64 t.id, .int .i64 3, .int .i64 t.snap, .int .i64 N1, .slice ra1 t.rs.length rc1, .slice wa1 t.ws.length wc1, .bool (t.out || o), .string ⟨#[]⟩]) := BD.out.kn (hk) (by intro hm; simp only [List.mem_cons, List.not_mem_nil, or_false] at hm; omega)
 replace HV : Hid (Lies encV 150 ((w16.setCell ⟨w1.heap.size, 4, none⟩ (.int .i64 (nxW b.nx t.id)))) w7.heap.size w8.heap.size (.slice a3 zs.length c3) zs) := HV.out.kn (hk) (by intro x hx; simp only [List.mem_cons, List.not_mem_nil, or_false] at hx; omega)
 replace HPw : Hid (GOwn encT 62 ((w16.setCell ⟨w1.heap.size, 4, none⟩ (.int .i64 (nxW b.nx t.id)))) m1 (.slice (some ⟨g', 0, none⟩) (c.ps.length + 1) cap) (c.ps ++ [(⟨(dnT t N1 o), ra1, rc1, wa1, wc1⟩ : Ta)])) := own_kn HPw.out (hk) (fun g e hm => by have e' : g' = g := Option.some.inj e; simp only [List.mem_cons, List.not_mem_nil, or_false] at hm; omega)
 replace HPe : Hid (Ea ((w16.setCell ⟨w1.heap.size, 4, none⟩ (.int .i64 (nxW b.nx t.id)))) m1 m2 c.ps) := HPe.out.kn (hk) (by intro x hx; simp only [List.mem_cons, List.not_mem_nil, or_false] at hx; omega)
 replace HQw : Hid (Lies encT 62 ((w16.setCell ⟨w1.heap.size, 4, none⟩ (.int .i64 (nxW b.nx t.id)))) w12.heap.size w14.heap.size (.slice a5 n5 c5) ((c.qs.filter (otherA t.id)).map (mkA (dnT t N1 o)))) := HQw.out.kn (hk) (by intro x hx; simp only [List.mem_cons, List.not_mem_nil, or_false] at hx; omega)
 replace HQe : Hid (Ea ((w16.setCell ⟨w1.heap.size, 4, none⟩ (.int .i64 (nxW b.nx t.id)))) m2 w1.heap.size ((c.qs.filter (otherA t.id)).map (mkA (dnT t N1 o)))) := HQe.out.kn (hk) (by intro x hx; simp only [List.mem_cons, List.not_mem_nil, or_false] at hx; omega)
 clear hk
 generalize (w16.setCell ⟨w1.heap.size, 4, none⟩ (.int .i64 (nxW b.nx t.id))) = w17 at *
 have z17 : w16.heap.size ≤ w17.heap.size := Nat.le_of_eq zq.symm
 have y17 : w17.heap.size ≤ w16.heap.size := Nat.le_of_eq zq
 clear zq
 have o0 := BO.out.c0
 have o1 := BO.out.c1
 have o2 := BO.out.c2
 have o3 := BO.out.c3
 have o4 := BO.out.c4
 have z0 := BR.out.c0
 have zf0 := BR.out.fz 0
 have z1 := BR.out.c1
 have zf1 := BR.out.fz 1
 have z2 := BR.out.c2
 have zf2 := BR.out.fz 2
 have z3 := BR.out.c3
 have zf3 := BR.out.fz 3
 have z4 := BR.out.c4
 have zf4 := BR.out.fz 4
 have hk : Kn [w.heap.size + 1 + 1] w17 (((((w17.setCell ⟨w.heap.size + 1 + 1, 0, none⟩ (.slice a3 zs.length c3)).setCell ⟨w.heap.size + 1 + 1, 1, none⟩ (.slice (some ⟨g', 0, none⟩) (c.ps.length + 1) cap)).setCell ⟨w.heap.size + 1 + 1, 2, none⟩ (.slice a5 n5 c5)).setCell ⟨w.heap.size + 1 + 1, 3, none⟩ (.int .i64 N1)).setCell ⟨w.heap.size + 1 + 1, 4, none⟩ (.int .i64 (nxW b.nx t.id))) := kn_s5 w17 (w.heap.size + 1 + 1) (.slice a3 zs.length c3) (.slice (some ⟨g', 0, none⟩) (c.ps.length + 1) cap) (.slice a5 n5 c5) (.int .i64 N1) (.int .i64 (nxW b.nx t.id))
 have zq : (((((w17.setCell ⟨w.heap.size + 1 + 1, 0, none⟩ (.slice a3 zs.length c3)).setCell ⟨w.heap.size + 1 + 1, 1, none⟩ (.slice (some ⟨g', 0, none⟩) (c.ps.length + 1) cap)).setCell ⟨w.heap.size + 1 + 1, 2, none⟩ (.slice a5 n5 c5)).setCell ⟨w.heap.size + 1 + 1, 3, none⟩ (.int .i64 N1)).setCell ⟨w.heap.size + 1 + 1, 4, none⟩ (.int .i64 (nxW b.nx t.id))).heap.size = w17.heap.size := by simp [World.setCell]
 have HBf : Hid (Below w.heap.size w (((((w17.setCell ⟨w.heap.size + 1 + 1, 0, none⟩ (.slice a3 zs.length c3)).setCell ⟨w.heap.size + 1 + 1, 1, none⟩ (.slice (some ⟨g', 0, none⟩) (c.ps.length + 1) cap)).setCell ⟨w.heap.size + 1 + 1, 2, none⟩ (.slice a5 n5 c5)).setCell ⟨w.heap.size + 1 + 1, 3, none⟩ (.int .i64 N1)).setCell ⟨w.heap.size + 1 + 1, 4, none⟩ (.int .i64 (nxW b.nx t.id)))) := HB.out.trans (hk.below HB.out.size (by intro x hx; simp only [List.mem_cons, List.not_mem_nil, or_false] at hx; omega))
 have HVf := hide (HV.out.kn hk (by intro x hx; simp only [List.mem_cons, List.not_mem_nil, or_false] at hx; omega))
 have HPf : Hid (GOwn encT 62 (((((w17.setCell ⟨w.heap.size + 1 + 1, 0, none⟩ (.slice a3 zs.length c3)).setCell ⟨w.heap.size + 1 + 1, 1, none⟩ (.slice (some ⟨g', 0, none⟩) (c.ps.length + 1) cap)).setCell ⟨w.heap.size + 1 + 1, 2, none⟩ (.slice a5 n5 c5)).setCell ⟨w.heap.size + 1 + 1, 3, none⟩ (.int .i64 N1)).setCell ⟨w.heap.size + 1 + 1, 4, none⟩ (.int .i64 (nxW b.nx t.id))) m1 (.slice (some ⟨g', 0, none⟩) (c.ps.length + 1) cap) (c.ps ++ [(⟨(dnT t N1 o), ra1, rc1, wa1, wc1⟩ : Ta)])) := own_kn HPw.out hk (fun g e hm => by have e' : g' = g := Option.some.inj e; simp only [List.mem_cons, List.not_mem_nil, or_false] at hm; omega)
 have HPg := hide (HPe.out.kn hk (by intro x hx; simp only [List.mem_cons, List.not_mem_nil, or_false] at hx; omega))
 have HLg := hide (HL1.out.kn hk (by intro x hx; simp only [List.mem_cons, List.not_mem_nil, or_false] at hx; omega))
 have HQf := hide (HQw.out.kn hk (by intro x hx; simp only [List.mem_cons, List.not_mem_nil, or_false] at hx; omega))
 have HQg := hide (HQe.out.kn hk (by intro x hx; simp only [List.mem_cons, List.not_mem_nil, or_false] at hx; omega))
 have HLN : Hid (((c.qs.filter (otherA t.id)).map (mkA (dnT t N1 o))).length = n5) := by show _ = _; rw [List.length_map]; exact HN5.out.symm
 have HD : Hid (Bo (((((w17.setCell ⟨w.heap.size + 1 + 1, 0, none⟩ (.slice a3 zs.length c3)).setCell ⟨w.heap.size + 1 + 1, 1, none⟩ (.slice (some ⟨g', 0, none⟩) (c.ps.length + 1) cap)).setCell ⟨w.heap.size + 1 + 1, 2, none⟩ (.slice a5 n5 c5)).setCell ⟨w.heap.size + 1 + 1, 3, none⟩ (.int .i64 N1)).setCell ⟨w.heap.size + 1 + 1, 4, none⟩ (.int .i64 (nxW b.nx t.id))) w.heap.size (((((w17.setCell ⟨w.heap.size + 1 + 1, 0, none⟩ (.slice a3 zs.length c3)).setCell ⟨w.heap.size + 1 + 1, 1, none⟩ (.slice (some ⟨g', 0, none⟩) (c.ps.length + 1) cap)).setCell ⟨w.heap.size + 1 + 1, 2, none⟩ (.slice a5 n5 c5)).setCell ⟨w.heap.size + 1 + 1, 3, none⟩ (.int .i64 N1)).setCell ⟨w.heap.size + 1 + 1, 4, none⟩ (.int .i64 (nxW b.nx t.id))).heap.size ⟨zs, c.ps ++ [(⟨(dnT t N1 o), ra1, rc1, wa1, wc1⟩ : Ta)], (c.qs.filter (otherA t.id)).map (mkA (dnT t N1 o)), N1, nxW b.nx t.id, a3, c3, some ⟨g', 0, none⟩, cap, a5, c5⟩) := by
  refine ⟨HVf.out.mono (by omega) (by omega), ?_, ?_⟩
  ·show Lo _ _ _ (.slice (some ⟨g', 0, none⟩) (c.ps ++ [(⟨(dnT t N1 o), ra1, rc1, wa1, wc1⟩ : Ta)]).length cap) _
   rw [List.length_append]
   exact ⟨(Lies.of HPf.out).mono (by omega) (Nat.le_refl _), (HPg.out.mono (by omega) (by omega)).snoc (by omega) (by omega) (HLg.out.as (u := (dnT t N1 o)) rfl rfl)⟩
  ·show Lo _ _ _ (.slice a5 ((c.qs.filter (otherA t.id)).map (mkA (dnT t N1 o))).length c5) _
   rw [HLN.out]
   exact ⟨HQf.out.mono (by omega) (by omega), HQg.out.mono (by omega) (by omega)⟩
 have HW : Hid (ThrA b t ⟨zs, c.ps ++ [(⟨(dnT t N1 o), ra1, rc1, wa1, wc1⟩ : Ta)], (c.qs.filter (otherA t.id)).map (mkA (dnT t N1 o)), N1, nxW b.nx t.id, a3, c3, some ⟨g', 0, none⟩, cap, a5, c5⟩) := by
  refine ⟨HZZ.out.1, HZZ.out.2, ?_, ?_⟩
  ·show (c.ps ++ [(⟨(dnT t N1 o), ra1, rc1, wa1, wc1⟩ : Ta)]).length = _ ∧ _
   rw [List.length_append, HSM.out.pl]
   refine ⟨rfl, fun x hx => ?_⟩
   rcases List.mem_append.1 hx with h | h
   ·have h2 : x.t ∈ txs b.ps := HSM.out.p ▸ List.mem_map.2 ⟨x, h, rfl⟩
    exact HF.out.p.2 _ h2
   ·rw [List.mem_singleton.1 h]
    exact fit_dn HFT.out
  ·show ((c.qs.filter (otherA t.id)).map (mkA (dnT t N1 o))).length ≤ _ ∧ _
   rw [List.length_map]
   refine ⟨Nat.le_trans (List.length_filter_le _ _) (by rw [HSM.out.ql]; exact Nat.le_refl _), fun x hx => ?_⟩
   obtain ⟨y, hy, rfl⟩ := List.mem_map.1 hx
   have h2 : y.t ∈ txs b.qs := HSM.out.q ▸ List.mem_map.2 ⟨y, (List.mem_filter.1 hy).1, rfl⟩
   have h3 : TFit y.t := HF.out.q.2 _ h2
   exact ⟨h3.1, h3.2.1, h3.2.2.1, h3.2.2.2.1, h3.2.2.2.2⟩
 have HRT : Hid (Ending.returned (.agg #[.slice a3 zs.length c3, .slice (some ⟨g', 0, none⟩) (c.ps.length + 1) cap, .slice a5 n5 c5, .int .i64 N1, .int .i64 (nxW b.nx t.id)]) = Ending.returned (.agg #[.slice a3 zs.length c3, .slice (some ⟨g', 0, none⟩) (c.ps ++ [(⟨(dnT t N1 o), ra1, rc1, wa1, wc1⟩ : Ta)]).length cap, .slice a5 ((c.qs.filter (otherA t.id)).map (mkA (dnT t N1 o))).length c5, .int .i64 N1, .int .i64 (nxW b.nx t.id)])) := by
  show _ = _
  rw [HLN.out, List.length_append]
  rfl
 clear hk zq HB HV HPw HPe HQw HQe HVf HPf HPg HLg HQf HQg HLN HN5
 go_wp2
 refine bodyPost_ret (v := .agg #[.slice a3 zs.length c3, .slice (some ⟨g', 0, none⟩) (c.ps.length + 1) cap, .slice a5 n5 c5, .int .i64 N1, .int .i64 (nxW b.nx t.id)]) (by simp [results, Tryz.results66, go_sem, z0, z1, z2, z3, z4]) rfl ⟨⟨zs, c.ps ++ [(⟨(dnT t N1 o), ra1, rc1, wa1, wc1⟩ : Ta)], (c.qs.filter (otherA t.id)).map (mkA (dnT t N1 o)), N1, nxW b.nx t.id, a3, c3, some ⟨g', 0, none⟩, cap, a5, c5⟩, HRT.out, HW.out, HD.out, HBf.out⟩

end Go.Proofs.YtmijppfppigjcaaGreat

/- spec.Through, whatever stands there. -/
import Derived.Test.YtmijppfppigjcaaGreatPd25
import Derived.Test.YtmijppfppigjcaaGreatPd28
import Derived.Test.YtmijppfppigjcaaGreatPd09
import Derived.Test.YtmijppfppigjcaaGreatPd12
import Derived.Test.YtmijppfppigjcaaGreatPd13
import Derived.Test.YtmijppfppigjcaaGreatPd11
import Derived.Laws.EntriesVeiled
import Derived.Deep.RegionHeld3
import Derived.Deep.Cut
import Derived.Deep.CutRange
namespace Go.Proofs.YtmijppfppigjcaaGreat
open Go.RowKit
open KM
open VM
attribute [local go_sem ↓] Go.wp_at_zero Go.wp_at_succ

theorem Kn.transU {bs cs : List Nat} {a b c : World} (h : Kn bs a b) (k : Kn cs b c) (hs : ∀ x ∈ cs, x ∈ bs ∨ a.heap.size ≤ x) : Kn bs a c :=
 ⟨k.os.trans h.os, k.tape.trans h.tape, k.output.trans h.output, Nat.le_trans h.size k.size, fun j hj hn => (k.block j (Nat.lt_of_lt_of_le hj h.size) (fun hm => (hs j hm).elim hn (fun h => by omega))).trans (h.block j hj hn)⟩
theorem Kn.transG {bs : List Nat} {a b c : World} {row : Option Nat} (h : Kn bs a b) (k : b.grownBy c row) (hs : ∀ g, row = some g → g ∈ bs ∨ a.heap.size ≤ g) : Kn bs a c :=
 ⟨k.os.trans h.os, k.tape.trans h.tape, k.output.trans h.output, Nat.le_trans h.size k.size, fun j hj hn => (k.block j (Nat.lt_of_lt_of_le hj h.size) (fun e => (hs j e.symm).elim hn (fun h => by omega))).trans (h.block j hj hn)⟩
theorem Kn.ofG {b c : World} {row : Option Nat} {bs : List Nat} (k : b.grownBy c row) (hs : ∀ g, row = some g → g ∈ bs) : Kn bs b c :=
 ⟨k.os, k.tape, k.output, k.size, fun j hj hn => k.block j hj (fun e => hn (hs j e.symm))⟩

set_option maxRecDepth 100000 in
set_option maxHeartbeats 8000000 in
theorem sthroughA (b : Bb) (t : Tx) (ra wa : Option Addr) (rc wc lo hi tp tq : Nat) (hf : BFit b) (ht : TFit t) (w : World) (hp : Bo w lo hi b) (hr : TLie w tp tq t ra rc wa wc) :
  Calls Tryz.prog 29 #[.agg #[.slice b.va b.vs.length b.vc, .slice b.pa b.ps.length b.pc, .slice b.qa b.qs.length b.qc, .int .i64 b.cs, .int .i64 b.nx], .agg #[.int .i64 t.id, .int .i64 t.st, .int .i64 t.snap, .int .i64 t.cs, .slice ra t.rs.length rc, .slice wa t.ws.length wc, .bool t.out, .string t.nm]] w fun e w' => ∃ d : Bb, e = .returned (.agg #[.slice d.va d.vs.length d.vc, .slice d.pa d.ps.length d.pc, .slice d.qa d.qs.length d.qc, .int .i64 d.cs, .int .i64 d.nx]) ∧ ThrA b t d ∧ Bo w' w.heap.size w'.heap.size d ∧ Below w.heap.size w w' := by
 have BA : Hid (Bx ((((w.alloc (.cells #[.slice b.va b.vs.length b.vc, .slice b.pa b.ps.length b.pc, .slice b.qa b.qs.length b.qc, .int .i64 b.cs, .int .i64 b.nx] 42)).alloc (.cells #[.int .i64 t.id, .int .i64 t.st, .int .i64 t.snap, .int .i64 t.cs, .slice ra t.rs.length rc, .slice wa t.ws.length wc, .bool t.out, .string t.nm] 62)).alloc (.cells #[.slice none 0 0, .slice none 0 0, .slice none 0 0, .int .i64 0, .int .i64 0] 42))) w.heap.size [.slice b.va b.vs.length b.vc, .slice b.pa b.ps.length b.pc, .slice b.qa b.qs.length b.qc, .int .i64 b.cs, .int .i64 b.nx]) := by
  have h := Bx.new w [.slice b.va b.vs.length b.vc, .slice b.pa b.ps.length b.pc, .slice b.qa b.qs.length b.qc, .int .i64 b.cs, .int .i64 b.nx] 42
  exact ((h.alloc _).alloc _)
 have BT : Hid (Bx ((((w.alloc (.cells #[.slice b.va b.vs.length b.vc, .slice b.pa b.ps.length b.pc, .slice b.qa b.qs.length b.qc, .int .i64 b.cs, .int .i64 b.nx] 42)).alloc (.cells #[.int .i64 t.id, .int .i64 t.st, .int .i64 t.snap, .int .i64 t.cs, .slice ra t.rs.length rc, .slice wa t.ws.length wc, .bool t.out, .string t.nm] 62)).alloc (.cells #[.slice none 0 0, .slice none 0 0, .slice none 0 0, .int .i64 0, .int .i64 0] 42))) (w.heap.size + 1) [.int .i64 t.id, .int .i64 t.st, .int .i64 t.snap, .int .i64 t.cs, .slice ra t.rs.length rc, .slice wa t.ws.length wc, .bool t.out, .string t.nm]) := by
  have h := Bx.new (w.alloc (.cells #[.slice b.va b.vs.length b.vc, .slice b.pa b.ps.length b.pc, .slice b.qa b.qs.length b.qc, .int .i64 b.cs, .int .i64 b.nx] 42)) [.int .i64 t.id, .int .i64 t.st, .int .i64 t.snap, .int .i64 t.cs, .slice ra t.rs.length rc, .slice wa t.ws.length wc, .bool t.out, .string t.nm] 62
  rw [World.size_alloc] at h
  exact (h.alloc _)
 have BR : Hid (Bx ((((w.alloc (.cells #[.slice b.va b.vs.length b.vc, .slice b.pa b.ps.length b.pc, .slice b.qa b.qs.length b.qc, .int .i64 b.cs, .int .i64 b.nx] 42)).alloc (.cells #[.int .i64 t.id, .int .i64 t.st, .int .i64 t.snap, .int .i64 t.cs, .slice ra t.rs.length rc, .slice wa t.ws.length wc, .bool t.out, .string t.nm] 62)).alloc (.cells #[.slice none 0 0, .slice none 0 0, .slice none 0 0, .int .i64 0, .int .i64 0] 42))) (w.heap.size + 1 + 1) [.slice none 0 0, .slice none 0 0, .slice none 0 0, .int .i64 0, .int .i64 0]) := by
  have h := Bx.new ((w.alloc (.cells #[.slice b.va b.vs.length b.vc, .slice b.pa b.ps.length b.pc, .slice b.qa b.qs.length b.qc, .int .i64 b.cs, .int .i64 b.nx] 42)).alloc (.cells #[.int .i64 t.id, .int .i64 t.st, .int .i64 t.snap, .int .i64 t.cs, .slice ra t.rs.length rc, .slice wa t.ws.length wc, .bool t.out, .string t.nm] 62)) [.slice none 0 0, .slice none 0 0, .slice none 0 0, .int .i64 0, .int .i64 0] 42
  rw [World.size_alloc, World.size_alloc] at h
  exact h
 have HB : Hid (Below w.heap.size w ((((w.alloc (.cells #[.slice b.va b.vs.length b.vc, .slice b.pa b.ps.length b.pc, .slice b.qa b.qs.length b.qc, .int .i64 b.cs, .int .i64 b.nx] 42)).alloc (.cells #[.int .i64 t.id, .int .i64 t.st, .int .i64 t.snap, .int .i64 t.cs, .slice ra t.rs.length rc, .slice wa t.ws.length wc, .bool t.out, .string t.nm] 62)).alloc (.cells #[.slice none 0 0, .slice none 0 0, .slice none 0 0, .int .i64 0, .int .i64 0] 42)))) := ((((belowRefl w).alloc (by exact Nat.le_refl _) _).alloc (by rw [World.size_alloc]; omega) _).alloc (by rw [World.size_alloc, World.size_alloc]; omega) _)
 have HS0 : Hid ((((w.alloc (.cells #[.slice b.va b.vs.length b.vc, .slice b.pa b.ps.length b.pc, .slice b.qa b.qs.length b.qc, .int .i64 b.cs, .int .i64 b.nx] 42)).alloc (.cells #[.int .i64 t.id, .int .i64 t.st, .int .i64 t.snap, .int .i64 t.cs, .slice ra t.rs.length rc, .slice wa t.ws.length wc, .bool t.out, .string t.nm] 62)).alloc (.cells #[.slice none 0 0, .slice none 0 0, .slice none 0 0, .int .i64 0, .int .i64 0] 42)).heap.size = w.heap.size + 1 + 1 + 1) := by show _ = _; rw [World.size_alloc, World.size_alloc, World.size_alloc]
 have HF : Hid (BFit b) := hf
 have HFT : Hid (TFit t) := ht
 have HP : Hid (Bo w lo hi b) := hp
 have HT : Hid (TLie w tp tq t ra rc wa wc) := hr
 obtain ⟨N1, hu⟩ : ∃ N1, IntKind.i64.wrap (b.cs + 1) = N1 := ⟨_, rfl⟩
 obtain ⟨N2, hu2⟩ : ∃ N2, IntKind.i64.wrap (t.id + 1) = N2 := ⟨_, rfl⟩
 have HWL : Hid (t.ws.length ≤ 2000000) := Nat.le_trans ht.2.2.1 (by omega)
 have HVL : Hid (b.vs.length ≤ 2000000) := Nat.le_trans hf.vl (by omega)
 have HPL : Hid (b.ps.length ≤ 10000000) := Nat.le_trans hf.pl (by omega)
 have HQL : Hid (b.qs.length ≤ 10000000) := Nat.le_trans hf.ql (by omega)
 have hql := HQL.out
 have CB := hide (fun (W : World) (h : Below w.heap.size w W) => scopyBo b lo hi HF.out W (HP.out.below h))
 have CT : Hid (∀ (W : World), Below w.heap.size w W → Calls Tryz.prog 51 #[.agg #[.int .i64 t.id, .int .i64 t.st, .int .i64 t.snap, .int .i64 t.cs, .slice ra t.rs.length rc, .slice wa t.ws.length wc, .bool t.out, .string t.nm]] W fun e w' => ∃ ra1 rc1 wa1 wc1, e = .returned (.agg #[.int .i64 t.id, .int .i64 t.st, .int .i64 t.snap, .int .i64 t.cs, .slice ra1 t.rs.length rc1, .slice wa1 t.ws.length wc1, .bool t.out, .string t.nm]) ∧ TLie w' W.heap.size w'.heap.size t ra1 rc1 wa1 wc1 ∧ Below W.heap.size W w') := fun W h => by
  obtain ⟨zm, _, _, h1, h2⟩ := (HT.out.below h).ex
  exact scopyT t ra wa rc wc tp zm (Nat.le_trans HFT.out.1 (by omega)) (Nat.le_trans HFT.out.2.2.1 (by omega)) W h1.own h2.own
 have CO : Hid (∀ (W : World), Below w.heap.size w W → Calls Tryz.prog 52 #[.agg #[.int .i64 t.id, .int .i64 t.st, .int .i64 t.snap, .int .i64 t.cs, .slice ra t.rs.length rc, .slice wa t.ws.length wc, .bool t.out, .string t.nm], .slice b.pa b.ps.length b.pc] W fun e w' => e = .returned (.bool (outB t (txs b.ps))) ∧ Below W.heap.size W w') := fun W h => soutof t ra wa rc wc b.ps b.pa b.pc b.ps.length rfl (Nat.le_trans HPL.out (by omega)) HFT.out HF.out.p W (HT.out.below h).row (HP.out.below h).rows.p
 obtain ⟨o, ho⟩ : ∃ o, outB t (txs b.ps) = o := ⟨_, rfl⟩
 rw [ho] at CO
 have HOE := hide ho
 clear hf hp ht hr ho
 go_enter Tryz.func29, Tryz.ntmps29
 go_upto_region 1 with fail
 generalize (((w.alloc (.cells #[.slice b.va b.vs.length b.vc, .slice b.pa b.ps.length b.pc, .slice b.qa b.qs.length b.qc, .int .i64 b.cs, .int .i64 b.nx] 42)).alloc (.cells #[.int .i64 t.id, .int .i64 t.st, .int .i64 t.snap, .int .i64 t.cs, .slice ra t.rs.length rc, .slice wa t.ws.length wc, .bool t.out, .string t.nm] 62)).alloc (.cells #[.slice none 0 0, .slice none 0 0, .slice none 0 0, .int .i64 0, .int .i64 0] 42)) = w0 at *
 have zs0 := HS0.out
 clear HS0
 have x0 := BA.out.c0
 have x1 := BA.out.c1
 have x2 := BA.out.c2
 have x3 := BA.out.c3
 have x4 := BA.out.c4
 go_wp2_with fail
 refine (CB.out _ HB.out).mono ?_
 rintro e w1 ⟨c, rfl, hs, hl, hb1⟩
 have z1 : w0.heap.size ≤ w1.heap.size := hb1.size
 have HSM : Hid (BSame b c) := hs
 obtain ⟨m1, m2, km1, km2, km3, hv, hpz, hqz⟩ := hl.ex
 have HPz : Hid (LLie w1 m1 m2 (.slice c.pa c.ps.length c.pc) c.ps) := hpz
 have km4 : m2 ≤ w1.heap.size := km3
 clear hs hl hv hpz hqz km3
 replace BA : Hid (Bx w1 w.heap.size [.slice b.va b.vs.length b.vc, .slice b.pa b.ps.length b.pc, .slice b.qa b.qs.length b.qc, .int .i64 b.cs, .int .i64 b.nx]) := BA.out.below hb1
 replace BT : Hid (Bx w1 (w.heap.size + 1) [.int .i64 t.id, .int .i64 t.st, .int .i64 t.snap, .int .i64 t.cs, .slice ra t.rs.length rc, .slice wa t.ws.length wc, .bool t.out, .string t.nm]) := BT.out.below hb1
 replace BR : Hid (Bx w1 (w.heap.size + 1 + 1) [.slice none 0 0, .slice none 0 0, .slice none 0 0, .int .i64 0, .int .i64 0]) := BR.out.below hb1
 replace HB : Hid (Below w.heap.size w w1) := HB.out.trans (hb1.mono HB.out.size)
 clear hb1 x0 x1 x2 x3 x4
 go_upto_region 2 with fail
 have hba : Below w1.heap.size w1 (w1.alloc (.cells #[.slice c.va c.vs.length c.vc, .slice c.pa c.ps.length c.pc, .slice c.qa c.qs.length c.qc, .int .i64 c.cs, .int .i64 c.nx] 42)) := (belowRefl w1).alloc (Nat.le_refl _) _
 have zq : (w1.alloc (.cells #[.slice c.va c.vs.length c.vc, .slice c.pa c.ps.length c.pc, .slice c.qa c.qs.length c.qc, .int .i64 c.cs, .int .i64 c.nx] 42)).heap.size = w1.heap.size + 1 := World.size_alloc _ _
 replace BA : Hid (Bx ((w1.alloc (.cells #[.slice c.va c.vs.length c.vc, .slice c.pa c.ps.length c.pc, .slice c.qa c.qs.length c.qc, .int .i64 c.cs, .int .i64 c.nx] 42))) w.heap.size [.slice b.va b.vs.length b.vc, .slice b.pa b.ps.length b.pc, .slice b.qa b.qs.length b.qc, .int .i64 b.cs, .int .i64 b.nx]) := BA.out.below hba
 replace BT : Hid (Bx ((w1.alloc (.cells #[.slice c.va c.vs.length c.vc, .slice c.pa c.ps.length c.pc, .slice c.qa c.qs.length c.qc, .int .i64 c.cs, .int .i64 c.nx] 42))) (w.heap.size + 1) [.int .i64 t.id, .int .i64 t.st, .int .i64 t.snap, .int .i64 t.cs, .slice ra t.rs.length rc, .slice wa t.ws.length wc, .bool t.out, .string t.nm]) := BT.out.below hba
 replace BR : Hid (Bx ((w1.alloc (.cells #[.slice c.va c.vs.length c.vc, .slice c.pa c.ps.length c.pc, .slice c.qa c.qs.length c.qc, .int .i64 c.cs, .int .i64 c.nx] 42))) (w.heap.size + 1 + 1) [.slice none 0 0, .slice none 0 0, .slice none 0 0, .int .i64 0, .int .i64 0]) := BR.out.below hba
 replace HB : Hid (Below w.heap.size w ((w1.alloc (.cells #[.slice c.va c.vs.length c.vc, .slice c.pa c.ps.length c.pc, .slice c.qa c.qs.length c.qc, .int .i64 c.cs, .int .i64 c.nx] 42)))) := HB.out.trans (hba.mono HB.out.size)
 replace HPz : Hid (LLie ((w1.alloc (.cells #[.slice c.va c.vs.length c.vc, .slice c.pa c.ps.length c.pc, .slice c.qa c.qs.length c.qc, .int .i64 c.cs, .int .i64 c.nx] 42))) m1 m2 (.slice c.pa c.ps.length c.pc) c.ps) := HPz.out.below hba
 have BO : Hid (Bx ((w1.alloc (.cells #[.slice c.va c.vs.length c.vc, .slice c.pa c.ps.length c.pc, .slice c.qa c.qs.length c.qc, .int .i64 c.cs, .int .i64 c.nx] 42))) w1.heap.size [.slice c.va c.vs.length c.vc, .slice c.pa c.ps.length c.pc, .slice c.qa c.qs.length c.qc, .int .i64 c.cs, .int .i64 c.nx]) := Bx.new w1 [.slice c.va c.vs.length c.vc, .slice c.pa c.ps.length c.pc, .slice c.qa c.qs.length c.qc, .int .i64 c.cs, .int .i64 c.nx] 42
 clear hba
 generalize (w1.alloc (.cells #[.slice c.va c.vs.length c.vc, .slice c.pa c.ps.length c.pc, .slice c.qa c.qs.length c.qc, .int .i64 c.cs, .int .i64 c.nx] 42)) = w2 at *
 have z2 : w1.heap.size + 1 ≤ w2.heap.size := Nat.le_of_eq zq.symm
 clear zq
 have x0 := BT.out.c0
 have x1 := BT.out.c1
 have x2 := BT.out.c2
 have x3 := BT.out.c3
 have x4 := BT.out.c4
 have x5 := BT.out.c5
 have x6 := BT.out.c6
 have x7 := BT.out.c7
 go_wp2_with fail
 refine (CT.out _ HB.out).mono ?_
 rintro e w3 ⟨ra1, rc1, wa1, wc1, rfl, hl, hb3⟩
 have z3 : w2.heap.size ≤ w3.heap.size := hb3.size
 have HL1 : Hid (TLie w3 w2.heap.size w3.heap.size t ra1 rc1 wa1 wc1) := hl
 clear hl
 replace BA : Hid (Bx w3 w.heap.size [.slice b.va b.vs.length b.vc, .slice b.pa b.ps.length b.pc, .slice b.qa b.qs.length b.qc, .int .i64 b.cs, .int .i64 b.nx]) := BA.out.below hb3
 replace BT : Hid (Bx w3 (w.heap.size + 1) [.int .i64 t.id, .int .i64 t.st, .int .i64 t.snap, .int .i64 t.cs, .slice ra t.rs.length rc, .slice wa t.ws.length wc, .bool t.out, .string t.nm]) := BT.out.below hb3
 replace BR : Hid (Bx w3 (w.heap.size + 1 + 1) [.slice none 0 0, .slice none 0 0, .slice none 0 0, .int .i64 0, .int .i64 0]) := BR.out.below hb3
 replace HB : Hid (Below w.heap.size w w3) := HB.out.trans (hb3.mono HB.out.size)
 replace HPz : Hid (LLie w3 m1 m2 (.slice c.pa c.ps.length c.pc) c.ps) := HPz.out.below hb3
 replace BO : Hid (Bx w3 w1.heap.size [.slice c.va c.vs.length c.vc, .slice c.pa c.ps.length c.pc, .slice c.qa c.qs.length c.qc, .int .i64 c.cs, .int .i64 c.nx]) := BO.out.below hb3
 clear hb3 x0 x1 x2 x3 x4 x5 x6 x7
 go_upto_region 3 with fail
 have hba : Below w3.heap.size w3 (w3.alloc (.cells #[.int .i64 t.id, .int .i64 t.st, .int .i64 t.snap, .int .i64 t.cs, .slice ra1 t.rs.length rc1, .slice wa1 t.ws.length wc1, .bool t.out, .string t.nm] 62)) := (belowRefl w3).alloc (Nat.le_refl _) _
 have zq : (w3.alloc (.cells #[.int .i64 t.id, .int .i64 t.st, .int .i64 t.snap, .int .i64 t.cs, .slice ra1 t.rs.length rc1, .slice wa1 t.ws.length wc1, .bool t.out, .string t.nm] 62)).heap.size = w3.heap.size + 1 := World.size_alloc _ _
 replace BA : Hid (Bx ((w3.alloc (.cells #[.int .i64 t.id, .int .i64 t.st, .int .i64 t.snap, .int .i64 t.cs, .slice ra1 t.rs.length rc1, .slice wa1 t.ws.length wc1, .bool t.out, .string t.nm] 62))) w.heap.size [.slice b.va b.vs.length b.vc, .slice b.pa b.ps.length b.pc, .slice b.qa b.qs.length b.qc, .int .i64 b.cs, .int .i64 b.nx]) := BA.out.below hba
 replace BT : Hid (Bx ((w3.alloc (.cells #[.int .i64 t.id, .int .i64 t.st, .int .i64 t.snap, .int .i64 t.cs, .slice ra1 t.rs.length rc1, .slice wa1 t.ws.length wc1, .bool t.out, .string t.nm] 62))) (w.heap.size + 1) [.int .i64 t.id, .int .i64 t.st, .int .i64 t.snap, .int .i64 t.cs, .slice ra t.rs.length rc, .slice wa t.ws.length wc, .bool t.out, .string t.nm]) := BT.out.below hba
 replace BR : Hid (Bx ((w3.alloc (.cells #[.int .i64 t.id, .int .i64 t.st, .int .i64 t.snap, .int .i64 t.cs, .slice ra1 t.rs.length rc1, .slice wa1 t.ws.length wc1, .bool t.out, .string t.nm] 62))) (w.heap.size + 1 + 1) [.slice none 0 0, .slice none 0 0, .slice none 0 0, .int .i64 0, .int .i64 0]) := BR.out.below hba
 replace HB : Hid (Below w.heap.size w ((w3.alloc (.cells #[.int .i64 t.id, .int .i64 t.st, .int .i64 t.snap, .int .i64 t.cs, .slice ra1 t.rs.length rc1, .slice wa1 t.ws.length wc1, .bool t.out, .string t.nm] 62)))) := HB.out.trans (hba.mono HB.out.size)
 replace HPz : Hid (LLie ((w3.alloc (.cells #[.int .i64 t.id, .int .i64 t.st, .int .i64 t.snap, .int .i64 t.cs, .slice ra1 t.rs.length rc1, .slice wa1 t.ws.length wc1, .bool t.out, .string t.nm] 62))) m1 m2 (.slice c.pa c.ps.length c.pc) c.ps) := HPz.out.below hba
 replace BO : Hid (Bx ((w3.alloc (.cells #[.int .i64 t.id, .int .i64 t.st, .int .i64 t.snap, .int .i64 t.cs, .slice ra1 t.rs.length rc1, .slice wa1 t.ws.length wc1, .bool t.out, .string t.nm] 62))) w1.heap.size [.slice c.va c.vs.length c.vc, .slice c.pa c.ps.length c.pc, .slice c.qa c.qs.length c.qc, .int .i64 c.cs, .int .i64 c.nx]) := BO.out.below hba
 replace HL1 : Hid (TLie ((w3.alloc (.cells #[.int .i64 t.id, .int .i64 t.st, .int .i64 t.snap, .int .i64 t.cs, .slice ra1 t.rs.length rc1, .slice wa1 t.ws.length wc1, .bool t.out, .string t.nm] 62))) w2.heap.size w3.heap.size t ra1 rc1 wa1 wc1) := HL1.out.below hba
 have BD : Hid (Bx ((w3.alloc (.cells #[.int .i64 t.id, .int .i64 t.st, .int .i64 t.snap, .int .i64 t.cs, .slice ra1 t.rs.length rc1, .slice wa1 t.ws.length wc1, .bool t.out, .string t.nm] 62))) w3.heap.size [.int .i64 t.id, .int .i64 t.st, .int .i64 t.snap, .int .i64 t.cs, .slice ra1 t.rs.length rc1, .slice wa1 t.ws.length wc1, .bool t.out, .string t.nm]) := Bx.new w3 [.int .i64 t.id, .int .i64 t.st, .int .i64 t.snap, .int .i64 t.cs, .slice ra1 t.rs.length rc1, .slice wa1 t.ws.length wc1, .bool t.out, .string t.nm] 62
 clear hba
 generalize (w3.alloc (.cells #[.int .i64 t.id, .int .i64 t.st, .int .i64 t.snap, .int .i64 t.cs, .slice ra1 t.rs.length rc1, .slice wa1 t.ws.length wc1, .bool t.out, .string t.nm] 62)) = w4 at *
 have z4 : w3.heap.size + 1 ≤ w4.heap.size := Nat.le_of_eq zq.symm
 clear zq
 go_cut [21] from 13 to 22 (fun _ wx => Hid (Bx wx (w3.heap.size) [.int .i64 t.id, .int .i64 t.st, .int .i64 t.snap, .int .i64 t.cs, .slice ra1 t.rs.length rc1, .slice wa1 t.ws.length wc1, .bool (t.out || o), .string t.nm]) ∧ Hid (Kn [w3.heap.size] w4 wx))
 case first =>
  have x6 := BT.out.c6
  have hto : t.out = false ∨ t.out = true := by cases t.out <;> simp
  rcases hto with hto | hto
  ·rw [hto] at x6
   have HTO := hide hto
   clear hto
   have x0 := BT.out.c0
   have x1 := BT.out.c1
   have x2 := BT.out.c2
   have x3 := BT.out.c3
   have x4 := BT.out.c4
   have x5 := BT.out.c5
   have x7 := BT.out.c7
   have x6b := BT.out.c6
   have y1 := BA.out.c1
   go_wp2_with fail
   have hco := CO.out w4 HB.out
   rw [HTO.out] at hco
   refine hco.mono ?_
   rintro e wz ⟨rfl, hb⟩
   have bd7 : Hid (Bx wz (w3.heap.size) [.int .i64 t.id, .int .i64 t.st, .int .i64 t.snap, .int .i64 t.cs, .slice ra1 t.rs.length rc1, .slice wa1 t.ws.length wc1, .bool t.out, .string t.nm]) := BD.out.below hb
   have z7 := bd7.out.c6
   have zf7 := bd7.out.fz 6
   have e6 : Hid ((t.out || o) = o) := by show _ = _; rw [HTO.out]; rfl
   go_wp2
   go_meet
   refine ⟨?_, (Kn.ofBelow hb).trans (Kn.set wz (w3.heap.size) 6 (.bool o))⟩
   rw [e6.out]
   exact bd7.out.set 6 (.bool o)
  ·rw [hto] at x6
   have HTO := hide hto
   clear hto
   have y6 := BD.out.c6
   have yf6 := BD.out.fz 6
   have e6 : Hid ((t.out || o) = true) := by show _ = _; rw [HTO.out]; rfl
   go_wp2
   go_meet
   refine ⟨?_, Kn.set w4 (w3.heap.size) 6 (.bool true)⟩
   rw [e6.out]
   exact BD.out.set 6 (.bool true)
 case rest =>
 obtain ⟨bd, hk⟩ := hcut
 obtain ⟨w5, hwz⟩ : ∃ w5, w5 = wc := ⟨_, rfl⟩
 subst hwz
 have z5 : w4.heap.size ≤ w5.heap.size := hk.out.size
 replace BA : Hid (Bx w5 w.heap.size [.slice b.va b.vs.length b.vc, .slice b.pa b.ps.length b.pc, .slice b.qa b.qs.length b.qc, .int .i64 b.cs, .int .i64 b.nx]) := BA.out.kn (hk.out) (by intro hm; simp only [List.mem_cons, List.not_mem_nil, or_false] at hm; omega)
 replace BT : Hid (Bx w5 (w.heap.size + 1) [.int .i64 t.id, .int .i64 t.st, .int .i64 t.snap, .int .i64 t.cs, .slice ra t.rs.length rc, .slice wa t.ws.length wc, .bool t.out, .string t.nm]) := BT.out.kn (hk.out) (by intro hm; simp only [List.mem_cons, List.not_mem_nil, or_false] at hm; omega)
 replace BR : Hid (Bx w5 (w.heap.size + 1 + 1) [.slice none 0 0, .slice none 0 0, .slice none 0 0, .int .i64 0, .int .i64 0]) := BR.out.kn (hk.out) (by intro hm; simp only [List.mem_cons, List.not_mem_nil, or_false] at hm; omega)
 replace HB : Hid (Below w.heap.size w w5) := HB.out.trans ((hk.out).below (by have := HB.out.size; omega) (by intro x hx; simp only [List.mem_cons, List.not_mem_nil, or_false] at hx; omega))
 replace HPz : Hid (LLie w5 m1 m2 (.slice c.pa c.ps.length c.pc) c.ps) := HPz.out.kn (hk.out) (by intro x hx; simp only [List.mem_cons, List.not_mem_nil, or_false] at hx; omega)
 replace BO : Hid (Bx w5 w1.heap.size [.slice c.va c.vs.length c.vc, .slice c.pa c.ps.length c.pc, .slice c.qa c.qs.length c.qc, .int .i64 c.cs, .int .i64 c.nx]) := BO.out.kn (hk.out) (by intro hm; simp only [List.mem_cons, List.not_mem_nil, or_false] at hm; omega)
 replace HL1 : Hid (TLie w5 w2.heap.size w3.heap.size t ra1 rc1 wa1 wc1) := HL1.out.kn (hk.out) (by intro x hx; simp only [List.mem_cons, List.not_mem_nil, or_false] at hx; omega)
 replace BD : Hid (Bx w5 (w3.heap.size) [.int .i64 t.id, .int .i64 t.st, .int .i64 t.snap, .int .i64 t.cs, .slice ra1 t.rs.length rc1, .slice wa1 t.ws.length wc1, .bool (t.out || o), .string t.nm]) := bd.out
 clear hk bd
 have x3 := BA.out.c3
 have o3 := BO.out.c3
 have of3 := BO.out.fz 3
 go_upto_region 5 with fail
 clear x3 o3 of3
 have zq : (w5.setCell ⟨w1.heap.size, 3, none⟩ (.int .i64 N1)).heap.size = w5.heap.size := by simp [World.setCell]
 have hk : Kn [w1.heap.size] w5 (w5.setCell ⟨w1.heap.size, 3, none⟩ (.int .i64 N1)) := Kn.set w5 (w1.heap.size) 3 (.int .i64 N1)
 replace BA : Hid (Bx ((w5.setCell ⟨w1.heap.size, 3, none⟩ (.int .i64 N1))) w.heap.size [.slice b.va b.vs.length b.vc, .slice b.pa b.ps.length b.pc, .slice b.qa b.qs.length b.qc, .int .i64 b.cs, .int .i64 b.nx]) := BA.out.kn (hk) (by intro hm; simp only [List.mem_cons, List.not_mem_nil, or_false] at hm; omega)
 replace BT : Hid (Bx ((w5.setCell ⟨w1.heap.size, 3, none⟩ (.int .i64 N1))) (w.heap.size + 1) [.int .i64 t.id, .int .i64 t.st, .int .i64 t.snap, .int .i64 t.cs, .slice ra t.rs.length rc, .slice wa t.ws.length wc, .bool t.out, .string t.nm]) := BT.out.kn (hk) (by intro hm; simp only [List.mem_cons, List.not_mem_nil, or_false] at hm; omega)
 replace BR : Hid (Bx ((w5.setCell ⟨w1.heap.size, 3, none⟩ (.int .i64 N1))) (w.heap.size + 1 + 1) [.slice none 0 0, .slice none 0 0, .slice none 0 0, .int .i64 0, .int .i64 0]) := BR.out.kn (hk) (by intro hm; simp only [List.mem_cons, List.not_mem_nil, or_false] at hm; omega)
 replace HB : Hid (Below w.heap.size w ((w5.setCell ⟨w1.heap.size, 3, none⟩ (.int .i64 N1)))) := HB.out.trans ((hk).below (by have := HB.out.size; omega) (by intro x hx; simp only [List.mem_cons, List.not_mem_nil, or_false] at hx; omega))
 replace HPz : Hid (LLie ((w5.setCell ⟨w1.heap.size, 3, none⟩ (.int .i64 N1))) m1 m2 (.slice c.pa c.ps.length c.pc) c.ps) := HPz.out.kn (hk) (by intro x hx; simp only [List.mem_cons, List.not_mem_nil, or_false] at hx; omega)
 replace BO : Hid (Bx ((w5.setCell ⟨w1.heap.size, 3, none⟩ (.int .i64 N1))) w1.heap.size [.slice c.va c.vs.length c.vc, .slice c.pa c.ps.length c.pc, .slice c.qa c.qs.length c.qc, .int .i64 N1, .int .i64 c.nx]) := BO.out.set 3 (.int .i64 N1)
 replace HL1 : Hid (TLie ((w5.setCell ⟨w1.heap.size, 3, none⟩ (.int .i64 N1))) w2.heap.size w3.heap.size t ra1 rc1 wa1 wc1) := HL1.out.kn (hk) (by intro x hx; simp only [List.mem_cons, List.not_mem_nil, or_false] at hx; omega)
 replace BD : Hid (Bx ((w5.setCell ⟨w1.heap.size, 3, none⟩ (.int .i64 N1))) (w3.heap.size) [.int .i64 t.id, .int .i64 t.st, .int .i64 t.snap, .int .i64 t.cs, .slice ra1 t.rs.length rc1, .slice wa1 t.ws.length wc1, .bool (t.out || o), .string t.nm]) := BD.out.kn (hk) (by intro hm; simp only [List.mem_cons, List.not_mem_nil, or_false] at hm; omega)
 clear hk
 generalize (w5.setCell ⟨w1.heap.size, 3, none⟩ (.int .i64 N1)) = w6 at *
 have z6 : w5.heap.size ≤ w6.heap.size := Nat.le_of_eq zq.symm
 have y6 : w6.heap.size ≤ w5.heap.size := Nat.le_of_eq zq
 clear zq
 have o3 := BO.out.c3
 have y3 := BD.out.c3
 have yf3 := BD.out.fz 3
 go_upto_region 6 with fail
 clear o3 y3 yf3
 have zq : (w6.setCell ⟨w3.heap.size, 3, none⟩ (.int .i64 N1)).heap.size = w6.heap.size := by simp [World.setCell]
 have hk : Kn [w3.heap.size] w6 (w6.setCell ⟨w3.heap.size, 3, none⟩ (.int .i64 N1)) := Kn.set w6 (w3.heap.size) 3 (.int .i64 N1)
 replace BA : Hid (Bx ((w6.setCell ⟨w3.heap.size, 3, none⟩ (.int .i64 N1))) w.heap.size [.slice b.va b.vs.length b.vc, .slice b.pa b.ps.length b.pc, .slice b.qa b.qs.length b.qc, .int .i64 b.cs, .int .i64 b.nx]) := BA.out.kn (hk) (by intro hm; simp only [List.mem_cons, List.not_mem_nil, or_false] at hm; omega)
 replace BT : Hid (Bx ((w6.setCell ⟨w3.heap.size, 3, none⟩ (.int .i64 N1))) (w.heap.size + 1) [.int .i64 t.id, .int .i64 t.st, .int .i64 t.snap, .int .i64 t.cs, .slice ra t.rs.length rc, .slice wa t.ws.length wc, .bool t.out, .string t.nm]) := BT.out.kn (hk) (by intro hm; simp only [List.mem_cons, List.not_mem_nil, or_false] at hm; omega)
 replace BR : Hid (Bx ((w6.setCell ⟨w3.heap.size, 3, none⟩ (.int .i64 N1))) (w.heap.size + 1 + 1) [.slice none 0 0, .slice none 0 0, .slice none 0 0, .int .i64 0, .int .i64 0]) := BR.out.kn (hk) (by intro hm; simp only [List.mem_cons, List.not_mem_nil, or_false] at hm; omega)
 replace HB : Hid (Below w.heap.size w ((w6.setCell ⟨w3.heap.size, 3, none⟩ (.int .i64 N1)))) := HB.out.trans ((hk).below (by have := HB.out.size; omega) (by intro x hx; simp only [List.mem_cons, List.not_mem_nil, or_false] at hx; omega))
 replace HPz : Hid (LLie ((w6.setCell ⟨w3.heap.size, 3, none⟩ (.int .i64 N1))) m1 m2 (.slice c.pa c.ps.length c.pc) c.ps) := HPz.out.kn (hk) (by intro x hx; simp only [List.mem_cons, List.not_mem_nil, or_false] at hx; omega)
 replace BO : Hid (Bx ((w6.setCell ⟨w3.heap.size, 3, none⟩ (.int .i64 N1))) w1.heap.size [.slice c.va c.vs.length c.vc, .slice c.pa c.ps.length c.pc, .slice c.qa c.qs.length c.qc, .int .i64 N1, .int .i64 c.nx]) := BO.out.kn (hk) (by intro hm; simp only [List.mem_cons, List.not_mem_nil, or_false] at hm; omega)
 replace HL1 : Hid (TLie ((w6.setCell ⟨w3.heap.size, 3, none⟩ (.int .i64 N1))) w2.heap.size w3.heap.size t ra1 rc1 wa1 wc1) := HL1.out.kn (hk) (by intro x hx; simp only [List.mem_cons, List.not_mem_nil, or_false] at hx; omega)
 replace BD : Hid (Bx ((w6.setCell ⟨w3.heap.size, 3, none⟩ (.int .i64 N1))) w3.heap.size [.int .i64 t.id, .int .i64 t.st, .int .i64 t.snap, .int .i64 N1, .slice ra1 t.rs.length rc1, .slice wa1 t.ws.length wc1, .bool (t.out || o), .string t.nm]) := BD.out.set 3 (.int .i64 N1)
 clear hk
 generalize (w6.setCell ⟨w3.heap.size, 3, none⟩ (.int .i64 N1)) = w7 at *
 have z7 : w6.heap.size ≤ w7.heap.size := Nat.le_of_eq zq.symm
 have y7 : w7.heap.size ≤ w6.heap.size := Nat.le_of_eq zq
 clear zq
 have y1 := BD.out.c1
 have yf1 := BD.out.fz 1
 go_upto_region 7 with fail
 clear y1 yf1
 have zq : (w7.setCell ⟨w3.heap.size, 1, none⟩ (.int .i64 3)).heap.size = w7.heap.size := by simp [World.setCell]
 have hk : Kn [w3.heap.size] w7 (w7.setCell ⟨w3.heap.size, 1, none⟩ (.int .i64 3)) := Kn.set w7 (w3.heap.size) 1 (.int .i64 3)
 replace BA : Hid (Bx ((w7.setCell ⟨w3.heap.size, 1, none⟩ (.int .i64 3))) w.heap.size [.slice b.va b.vs.length b.vc, .slice b.pa b.ps.length b.pc, .slice b.qa b.qs.length b.qc, .int .i64 b.cs, .int .i64 b.nx]) := BA.out.kn (hk) (by intro hm; simp only [List.mem_cons, List.not_mem_nil, or_false] at hm; omega)
 replace BT : Hid (Bx ((w7.setCell ⟨w3.heap.size, 1, none⟩ (.int .i64 3))) (w.heap.size + 1) [.int .i64 t.id, .int .i64 t.st, .int .i64 t.snap, .int .i64 t.cs, .slice ra t.rs.length rc, .slice wa t.ws.length wc, .bool t.out, .string t.nm]) := BT.out.kn (hk) (by intro hm; simp only [List.mem_cons, List.not_mem_nil, or_false] at hm; omega)
 replace BR : Hid (Bx ((w7.setCell ⟨w3.heap.size, 1, none⟩ (.int .i64 3))) (w.heap.size + 1 + 1) [.slice none 0 0, .slice none 0 0, .slice none 0 0, .int .i64 0, .int .i64 0]) := BR.out.kn (hk) (by intro hm; simp only [List.mem_cons, List.not_mem_nil, or_false] at hm; omega)
 replace HB : Hid (Below w.heap.size w ((w7.setCell ⟨w3.heap.size, 1, none⟩ (.int .i64 3)))) := HB.out.trans ((hk).below (by have := HB.out.size; omega) (by intro x hx; simp only [List.mem_cons, List.not_mem_nil, or_false] at hx; omega))
 replace HPz : Hid (LLie ((w7.setCell ⟨w3.heap.size, 1, none⟩ (.int .i64 3))) m1 m2 (.slice c.pa c.ps.length c.pc) c.ps) := HPz.out.kn (hk) (by intro x hx; simp only [List.mem_cons, List.not_mem_nil, or_false] at hx; omega)
 replace BO : Hid (Bx ((w7.setCell ⟨w3.heap.size, 1, none⟩ (.int .i64 3))) w1.heap.size [.slice c.va c.vs.length c.vc, .slice c.pa c.ps.length c.pc, .slice c.qa c.qs.length c.qc, .int .i64 N1, .int .i64 c.nx]) := BO.out.kn (hk) (by intro hm; simp only [List.mem_cons, List.not_mem_nil, or_false] at hm; omega)
 replace HL1 : Hid (TLie ((w7.setCell ⟨w3.heap.size, 1, none⟩ (.int .i64 3))) w2.heap.size w3.heap.size t ra1 rc1 wa1 wc1) := HL1.out.kn (hk) (by intro x hx; simp only [List.mem_cons, List.not_mem_nil, or_false] at hx; omega)
 replace BD : Hid (Bx ((w7.setCell ⟨w3.heap.size, 1, none⟩ (.int .i64 3))) w3.heap.size [.int .i64 t.id, .int .i64 3, .int .i64 t.snap, .int .i64 N1, .slice ra1 t.rs.length rc1, .slice wa1 t.ws.length wc1, .bool (t.out || o), .string t.nm]) := BD.out.set 1 (.int .i64 3)
 clear hk
 generalize (w7.setCell ⟨w3.heap.size, 1, none⟩ (.int .i64 3)) = w8 at *
 have z8 : w7.heap.size ≤ w8.heap.size := Nat.le_of_eq zq.symm
 have y8 : w8.heap.size ≤ w7.heap.size := Nat.le_of_eq zq
 clear zq
 have y7 := BD.out.c7
 have yf7 := BD.out.fz 7
 go_upto_region 8 with fail
 clear y7 yf7
 have zq : (w8.setCell ⟨w3.heap.size, 7, none⟩ (.string ⟨#[]⟩)).heap.size = w8.heap.size := by simp [World.setCell]
 have hk : Kn [w3.heap.size] w8 (w8.setCell ⟨w3.heap.size, 7, none⟩ (.string ⟨#[]⟩)) := Kn.set w8 (w3.heap.size) 7 (.string ⟨#[]⟩)
 replace BA : Hid (Bx ((w8.setCell ⟨w3.heap.size, 7, none⟩ (.string ⟨#[]⟩))) w.heap.size [.slice b.va b.vs.length b.vc, .slice b.pa b.ps.length b.pc, .slice b.qa b.qs.length b.qc, .int .i64 b.cs, .int .i64 b.nx]) := BA.out.kn (hk) (by intro hm; simp only [List.mem_cons, List.not_mem_nil, or_false] at hm; omega)
 replace BT : Hid (Bx ((w8.setCell ⟨w3.heap.size, 7, none⟩ (.string ⟨#[]⟩))) (w.heap.size + 1) [.int .i64 t.id, .int .i64 t.st, .int .i64 t.snap, .int .i64 t.cs, .slice ra t.rs.length rc, .slice wa t.ws.length wc, .bool t.out, .string t.nm]) := BT.out.kn (hk) (by intro hm; simp only [List.mem_cons, List.not_mem_nil, or_false] at hm; omega)
 replace BR : Hid (Bx ((w8.setCell ⟨w3.heap.size, 7, none⟩ (.string ⟨#[]⟩))) (w.heap.size + 1 + 1) [.slice none 0 0, .slice none 0 0, .slice none 0 0, .int .i64 0, .int .i64 0]) := BR.out.kn (hk) (by intro hm; simp only [List.mem_cons, List.not_mem_nil, or_false] at hm; omega)
 replace HB : Hid (Below w.heap.size w ((w8.setCell ⟨w3.heap.size, 7, none⟩ (.string ⟨#[]⟩)))) := HB.out.trans ((hk).below (by have := HB.out.size; omega) (by intro x hx; simp only [List.mem_cons, List.not_mem_nil, or_false] at hx; omega))
 replace HPz : Hid (LLie ((w8.setCell ⟨w3.heap.size, 7, none⟩ (.string ⟨#[]⟩))) m1 m2 (.slice c.pa c.ps.length c.pc) c.ps) := HPz.out.kn (hk) (by intro x hx; simp only [List.mem_cons, List.not_mem_nil, or_false] at hx; omega)
 replace BO : Hid (Bx ((w8.setCell ⟨w3.heap.size, 7, none⟩ (.string ⟨#[]⟩))) w1.heap.size [.slice c.va c.vs.length c.vc, .slice c.pa c.ps.length c.pc, .slice c.qa c.qs.length c.qc, .int .i64 N1, .int .i64 c.nx]) := BO.out.kn (hk) (by intro hm; simp only [List.mem_cons, List.not_mem_nil, or_false] at hm; omega)
 replace HL1 : Hid (TLie ((w8.setCell ⟨w3.heap.size, 7, none⟩ (.string ⟨#[]⟩))) w2.heap.size w3.heap.size t ra1 rc1 wa1 wc1) := HL1.out.kn (hk) (by intro x hx; simp only [List.mem_cons, List.not_mem_nil, or_false] at hx; omega)
 replace BD : Hid (Bx ((w8.setCell ⟨w3.heap.size, 7, none⟩ (.string ⟨#[]⟩))) w3.heap.size [.int .i64 t.id, .int .i64 3, .int .i64 t.snap, .int .i64 N1, .slice ra1 t.rs.length rc1, .slice wa1 t.ws.length wc1, .bool (t.out || o), .string ⟨#[]⟩]) := BD.out.set 7 (.string ⟨#[]⟩)
 clear hk
 generalize (w8.setCell ⟨w3.heap.size, 7, none⟩ (.string ⟨#[]⟩)) = w9 at *
 have z9 : w8.heap.size ≤ w9.heap.size := Nat.le_of_eq zq.symm
 have y9 : w9.heap.size ≤ w8.heap.size := Nat.le_of_eq zq
 clear zq
 have x0 := BA.out.c0
 have y3 := BD.out.c3
 have y5 := BD.out.c5
 go_wp2_with fail
 refine (sputv b.vs t.ws (.slice b.va b.vs.length b.vc) wa1 wc1 N1 lo HVL.out HWL.out _ (HP.out.below HB.out).v.own HL1.out.row.w).mono ?_
 rintro e w10 ⟨a3, c3, rfl, ho, hb10⟩
 have z10 : w9.heap.size ≤ w10.heap.size := hb10.size
 have HV : Hid (Lies encV 150 w10 w9.heap.size w10.heap.size (.slice a3 (putV b.vs t.ws N1).length c3) (putV b.vs t.ws N1)) := Lies.of ho
 clear ho
 replace BA : Hid (Bx w10 w.heap.size [.slice b.va b.vs.length b.vc, .slice b.pa b.ps.length b.pc, .slice b.qa b.qs.length b.qc, .int .i64 b.cs, .int .i64 b.nx]) := BA.out.below hb10
 replace BT : Hid (Bx w10 (w.heap.size + 1) [.int .i64 t.id, .int .i64 t.st, .int .i64 t.snap, .int .i64 t.cs, .slice ra t.rs.length rc, .slice wa t.ws.length wc, .bool t.out, .string t.nm]) := BT.out.below hb10
 replace BR : Hid (Bx w10 (w.heap.size + 1 + 1) [.slice none 0 0, .slice none 0 0, .slice none 0 0, .int .i64 0, .int .i64 0]) := BR.out.below hb10
 replace HB : Hid (Below w.heap.size w w10) := HB.out.trans (hb10.mono HB.out.size)
 replace HPz : Hid (LLie w10 m1 m2 (.slice c.pa c.ps.length c.pc) c.ps) := HPz.out.below hb10
 replace BO : Hid (Bx w10 w1.heap.size [.slice c.va c.vs.length c.vc, .slice c.pa c.ps.length c.pc, .slice c.qa c.qs.length c.qc, .int .i64 N1, .int .i64 c.nx]) := BO.out.below hb10
 replace HL1 : Hid (TLie w10 w2.heap.size w3.heap.size t ra1 rc1 wa1 wc1) := HL1.out.below hb10
 replace BD : Hid (Bx w10 w3.heap.size [.int .i64 t.id, .int .i64 3, .int .i64 t.snap, .int .i64 N1, .slice ra1 t.rs.length rc1, .slice wa1 t.ws.length wc1, .bool (t.out || o), .string ⟨#[]⟩]) := BD.out.below hb10
 clear hb10 x0 y3 y5
 have o0 := BO.out.c0
 have of0 := BO.out.fz 0
 go_upto_region 9 with fail
 clear o0 of0
 have zq : (w10.setCell ⟨w1.heap.size, 0, none⟩ (.slice a3 (putV b.vs t.ws N1).length c3)).heap.size = w10.heap.size := by simp [World.setCell]
 have hk : Kn [w1.heap.size] w10 (w10.setCell ⟨w1.heap.size, 0, none⟩ (.slice a3 (putV b.vs t.ws N1).length c3)) := Kn.set w10 (w1.heap.size) 0 (.slice a3 (putV b.vs t.ws N1).length c3)
 replace BA : Hid (Bx ((w10.setCell ⟨w1.heap.size, 0, none⟩ (.slice a3 (putV b.vs t.ws N1).length c3))) w.heap.size [.slice b.va b.vs.length b.vc, .slice b.pa b.ps.length b.pc, .slice b.qa b.qs.length b.qc, .int .i64 b.cs, .int .i64 b.nx]) := BA.out.kn (hk) (by intro hm; simp only [List.mem_cons, List.not_mem_nil, or_false] at hm; omega)
 replace BT : Hid (Bx ((w10.setCell ⟨w1.heap.size, 0, none⟩ (.slice a3 (putV b.vs t.ws N1).length c3))) (w.heap.size + 1) [.int .i64 t.id, .int .i64 t.st, .int .i64 t.snap, .int .i64 t.cs, .slice ra t.rs.length rc, .slice wa t.ws.length wc, .bool t.out, .string t.nm]) := BT.out.kn (hk) (by intro hm; simp only [List.mem_cons, List.not_mem_nil, or_false] at hm; omega)
 replace BR : Hid (Bx ((w10.setCell ⟨w1.heap.size, 0, none⟩ (.slice a3 (putV b.vs t.ws N1).length c3))) (w.heap.size + 1 + 1) [.slice none 0 0, .slice none 0 0, .slice none 0 0, .int .i64 0, .int .i64 0]) := BR.out.kn (hk) (by intro hm; simp only [List.mem_cons, List.not_mem_nil, or_false] at hm; omega)
 replace HB : Hid (Below w.heap.size w ((w10.setCell ⟨w1.heap.size, 0, none⟩ (.slice a3 (putV b.vs t.ws N1).length c3)))) := HB.out.trans ((hk).below (by have := HB.out.size; omega) (by intro x hx; simp only [List.mem_cons, List.not_mem_nil, or_false] at hx; omega))
 replace HPz : Hid (LLie ((w10.setCell ⟨w1.heap.size, 0, none⟩ (.slice a3 (putV b.vs t.ws N1).length c3))) m1 m2 (.slice c.pa c.ps.length c.pc) c.ps) := HPz.out.kn (hk) (by intro x hx; simp only [List.mem_cons, List.not_mem_nil, or_false] at hx; omega)
 replace BO : Hid (Bx ((w10.setCell ⟨w1.heap.size, 0, none⟩ (.slice a3 (putV b.vs t.ws N1).length c3))) w1.heap.size [.slice a3 (putV b.vs t.ws N1).length c3, .slice c.pa c.ps.length c.pc, .slice c.qa c.qs.length c.qc, .int .i64 N1, .int .i64 c.nx]) := BO.out.set 0 (.slice a3 (putV b.vs t.ws N1).length c3)
 replace HL1 : Hid (TLie ((w10.setCell ⟨w1.heap.size, 0, none⟩ (.slice a3 (putV b.vs t.ws N1).length c3))) w2.heap.size w3.heap.size t ra1 rc1 wa1 wc1) := HL1.out.kn (hk) (by intro x hx; simp only [List.mem_cons, List.not_mem_nil, or_false] at hx; omega)
 replace BD : Hid (Bx ((w10.setCell ⟨w1.heap.size, 0, none⟩ (.slice a3 (putV b.vs t.ws N1).length c3))) w3.heap.size [.int .i64 t.id, .int .i64 3, .int .i64 t.snap, .int .i64 N1, .slice ra1 t.rs.length rc1, .slice wa1 t.ws.length wc1, .bool (t.out || o), .string ⟨#[]⟩]) := BD.out.kn (hk) (by intro hm; simp only [List.mem_cons, List.not_mem_nil, or_false] at hm; omega)
 replace HV : Hid (Lies encV 150 ((w10.setCell ⟨w1.heap.size, 0, none⟩ (.slice a3 (putV b.vs t.ws N1).length c3))) w9.heap.size w10.heap.size (.slice a3 (putV b.vs t.ws N1).length c3) (putV b.vs t.ws N1)) := HV.out.kn (hk) (by intro x hx; simp only [List.mem_cons, List.not_mem_nil, or_false] at hx; omega)
 clear hk
 generalize (w10.setCell ⟨w1.heap.size, 0, none⟩ (.slice a3 (putV b.vs t.ws N1).length c3)) = w11 at *
 have z11 : w10.heap.size ≤ w11.heap.size := Nat.le_of_eq zq.symm
 have y11 : w11.heap.size ≤ w10.heap.size := Nat.le_of_eq zq
 clear zq
 have hcl : c.ps.length ≤ 100000000 := by have := HSM.out.pl; have := HPL.out; omega
 have o1 := BO.out.c1
 have y0 := BD.out.c0
 have y1 := BD.out.c1
 have y2 := BD.out.c2
 have y3 := BD.out.c3
 have y4 := BD.out.c4
 have y5 := BD.out.c5
 have y6 := BD.out.c6
 have y7 := BD.out.c7
 have HBK : Hid ((w11.alloc (.cells #[.int .i64 t.id, .int .i64 3, .int .i64 t.snap, .int .i64 N1, .slice ra1 t.rs.length rc1, .slice wa1 t.ws.length wc1, .bool (t.out || o), .string ⟨#[]⟩] 62)).heap[w11.heap.size]? = some (.cells (encT.enc (⟨(dnT t N1 o), ra1, rc1, wa1, wc1⟩ : Ta)).toArray 62 (0, 0))) := heap_alloc_new w11 _
 have hba : Below w11.heap.size w11 (w11.alloc (.cells #[.int .i64 t.id, .int .i64 3, .int .i64 t.snap, .int .i64 N1, .slice ra1 t.rs.length rc1, .slice wa1 t.ws.length wc1, .bool (t.out || o), .string ⟨#[]⟩] 62)) := (belowRefl w11).alloc (Nat.le_refl _) _
 have zq : (w11.alloc (.cells #[.int .i64 t.id, .int .i64 3, .int .i64 t.snap, .int .i64 N1, .slice ra1 t.rs.length rc1, .slice wa1 t.ws.length wc1, .bool (t.out || o), .string ⟨#[]⟩] 62)).heap.size = w11.heap.size + 1 := World.size_alloc _ _
 replace BA : Hid (Bx ((w11.alloc (.cells #[.int .i64 t.id, .int .i64 3, .int .i64 t.snap, .int .i64 N1, .slice ra1 t.rs.length rc1, .slice wa1 t.ws.length wc1, .bool (t.out || o), .string ⟨#[]⟩] 62))) w.heap.size [.slice b.va b.vs.length b.vc, .slice b.pa b.ps.length b.pc, .slice b.qa b.qs.length b.qc, .int .i64 b.cs, .int .i64 b.nx]) := BA.out.below hba
 replace BT : Hid (Bx ((w11.alloc (.cells #[.int .i64 t.id, .int .i64 3, .int .i64 t.snap, .int .i64 N1, .slice ra1 t.rs.length rc1, .slice wa1 t.ws.length wc1, .bool (t.out || o), .string ⟨#[]⟩] 62))) (w.heap.size + 1) [.int .i64 t.id, .int .i64 t.st, .int .i64 t.snap, .int .i64 t.cs, .slice ra t.rs.length rc, .slice wa t.ws.length wc, .bool t.out, .string t.nm]) := BT.out.below hba
 replace BR : Hid (Bx ((w11.alloc (.cells #[.int .i64 t.id, .int .i64 3, .int .i64 t.snap, .int .i64 N1, .slice ra1 t.rs.length rc1, .slice wa1 t.ws.length wc1, .bool (t.out || o), .string ⟨#[]⟩] 62))) (w.heap.size + 1 + 1) [.slice none 0 0, .slice none 0 0, .slice none 0 0, .int .i64 0, .int .i64 0]) := BR.out.below hba
 replace HB : Hid (Below w.heap.size w ((w11.alloc (.cells #[.int .i64 t.id, .int .i64 3, .int .i64 t.snap, .int .i64 N1, .slice ra1 t.rs.length rc1, .slice wa1 t.ws.length wc1, .bool (t.out || o), .string ⟨#[]⟩] 62)))) := HB.out.trans (hba.mono HB.out.size)
 replace HPz : Hid (LLie ((w11.alloc (.cells #[.int .i64 t.id, .int .i64 3, .int .i64 t.snap, .int .i64 N1, .slice ra1 t.rs.length rc1, .slice wa1 t.ws.length wc1, .bool (t.out || o), .string ⟨#[]⟩] 62))) m1 m2 (.slice c.pa c.ps.length c.pc) c.ps) := HPz.out.below hba
 replace BO : Hid (Bx ((w11.alloc (.cells #[.int .i64 t.id, .int .i64 3, .int .i64 t.snap, .int .i64 N1, .slice ra1 t.rs.length rc1, .slice wa1 t.ws.length wc1, .bool (t.out || o), .string ⟨#[]⟩] 62))) w1.heap.size [.slice a3 (putV b.vs t.ws N1).length c3, .slice c.pa c.ps.length c.pc, .slice c.qa c.qs.length c.qc, .int .i64 N1, .int .i64 c.nx]) := BO.out.below hba
 replace HL1 : Hid (TLie ((w11.alloc (.cells #[.int .i64 t.id, .int .i64 3, .int .i64 t.snap, .int .i64 N1, .slice ra1 t.rs.length rc1, .slice wa1 t.ws.length wc1, .bool (t.out || o), .string ⟨#[]⟩] 62))) w2.heap.size w3.heap.size t ra1 rc1 wa1 wc1) := HL1.out.below hba
 replace BD : Hid (Bx ((w11.alloc (.cells #[.int .i64 t.id, .int .i64 3, .int .i64 t.snap, .int .i64 N1, .slice ra1 t.rs.length rc1, .slice wa1 t.ws.length wc1, .bool (t.out || o), .string ⟨#[]⟩] 62))) w3.heap.size [.int .i64 t.id, .int .i64 3, .int .i64 t.snap, .int .i64 N1, .slice ra1 t.rs.length rc1, .slice wa1 t.ws.length wc1, .bool (t.out || o), .string ⟨#[]⟩]) := BD.out.below hba
 replace HV : Hid (Lies encV 150 ((w11.alloc (.cells #[.int .i64 t.id, .int .i64 3, .int .i64 t.snap, .int .i64 N1, .slice ra1 t.rs.length rc1, .slice wa1 t.ws.length wc1, .bool (t.out || o), .string ⟨#[]⟩] 62))) w9.heap.size w10.heap.size (.slice a3 (putV b.vs t.ws N1).length c3) (putV b.vs t.ws N1)) := HV.out.below hba
 clear hba
 go_wp2_with (at_builtin; refine wpAppK (E := encT) 40 62 104 _ Tryz.underlying40 Tryz.info62 rfl (by omega) rfl _ _ rfl (⟨(dnT t N1 o), ra1, rc1, wa1, wc1⟩ : Ta) tone rfl HPz.out.own.own rfl HBK.out hcl (by omega) ?_)
 intro g' cap w12 ho hg hg2 hlt10
 have hz : Zn m1 m2 (w11.alloc (.cells #[.int .i64 t.id, .int .i64 3, .int .i64 t.snap, .int .i64 N1, .slice ra1 t.rs.length rc1, .slice wa1 t.ws.length wc1, .bool (t.out || o), .string ⟨#[]⟩] 62)) w12 := Zn.ofGrown hg (fun g h => HPz.out.own.lo g h)
 have z12 : w11.heap.size + 1 ≤ w12.heap.size := by have := hz.size; omega
 have zp : m1 ≤ m2 := HPz.out.zs.le
 have hgu : g' < w12.heap.size := hlt10
 have hgz : m1 ≤ g' ∧ (g' < m2 ∨ w11.heap.size + 1 ≤ g') := by
  rcases hg2 with h | h
  ·have := HPz.out.own.lo g' h; omega
  ·omega
 have HPw : Hid (GOwn encT 62 w12 m1 (.slice (some ⟨g', 0, none⟩) (c.ps.length + 1) cap) (c.ps ++ [(⟨(dnT t N1 o), ra1, rc1, wa1, wc1⟩ : Ta)])) := ho
 have HPe : Hid (Ea w12 m1 m2 c.ps) := HPz.out.lo.ea.part HPz.out.own.own hg
 clear hg hg2 hlt10 ho HBK o1 y0 y1 y2 y3 y4 y5 y6 y7
 clear HPz
 replace BA : Hid (Bx w12 w.heap.size [.slice b.va b.vs.length b.vc, .slice b.pa b.ps.length b.pc, .slice b.qa b.qs.length b.qc, .int .i64 b.cs, .int .i64 b.nx]) := BA.out.zn hz (by omega)
 replace BT : Hid (Bx w12 (w.heap.size + 1) [.int .i64 t.id, .int .i64 t.st, .int .i64 t.snap, .int .i64 t.cs, .slice ra t.rs.length rc, .slice wa t.ws.length wc, .bool t.out, .string t.nm]) := BT.out.zn hz (by omega)
 replace BR : Hid (Bx w12 (w.heap.size + 1 + 1) [.slice none 0 0, .slice none 0 0, .slice none 0 0, .int .i64 0, .int .i64 0]) := BR.out.zn hz (by omega)
 replace HB : Hid (Below w.heap.size w w12) := HB.out.trans (hz.below (by have := HB.out.size; omega) (by have := HB.out.size; omega))
 replace BO : Hid (Bx w12 w1.heap.size [.slice a3 (putV b.vs t.ws N1).length c3, .slice c.pa c.ps.length c.pc, .slice c.qa c.qs.length c.qc, .int .i64 N1, .int .i64 c.nx]) := BO.out.zn hz (by omega)
 replace HL1 : Hid (TLie w12 w2.heap.size w3.heap.size t ra1 rc1 wa1 wc1) := HL1.out.zn hz (by omega)
 replace BD : Hid (Bx w12 w3.heap.size [.int .i64 t.id, .int .i64 3, .int .i64 t.snap, .int .i64 N1, .slice ra1 t.rs.length rc1, .slice wa1 t.ws.length wc1, .bool (t.out || o), .string ⟨#[]⟩]) := BD.out.zn hz (by omega)
 replace HV : Hid (Lies encV 150 w12 w9.heap.size w10.heap.size (.slice a3 (putV b.vs t.ws N1).length c3) (putV b.vs t.ws N1)) := HV.out.zn hz (by omega)
 clear hz zq hcl
 have o1 := BO.out.c1
 have of1 := BO.out.fz 1
 go_upto_region 10 with fail
 clear o1 of1
 have zq : (w12.setCell ⟨w1.heap.size, 1, none⟩ (.slice (some ⟨g', 0, none⟩) (c.ps.length + 1) cap)).heap.size = w12.heap.size := by simp [World.setCell]
 have hk : Kn [w1.heap.size] w12 (w12.setCell ⟨w1.heap.size, 1, none⟩ (.slice (some ⟨g', 0, none⟩) (c.ps.length + 1) cap)) := Kn.set w12 (w1.heap.size) 1 (.slice (some ⟨g', 0, none⟩) (c.ps.length + 1) cap)
 replace BA : Hid (Bx ((w12.setCell ⟨w1.heap.size, 1, none⟩ (.slice (some ⟨g', 0, none⟩) (c.ps.length + 1) cap))) w.heap.size [.slice b.va b.vs.length b.vc, .slice b.pa b.ps.length b.pc, .slice b.qa b.qs.length b.qc, .int .i64 b.cs, .int .i64 b.nx]) := BA.out.kn (hk) (by intro hm; simp only [List.mem_cons, List.not_mem_nil, or_false] at hm; omega)
 replace BT : Hid (Bx ((w12.setCell ⟨w1.heap.size, 1, none⟩ (.slice (some ⟨g', 0, none⟩) (c.ps.length + 1) cap))) (w.heap.size + 1) [.int .i64 t.id, .int .i64 t.st, .int .i64 t.snap, .int .i64 t.cs, .slice ra t.rs.length rc, .slice wa t.ws.length wc, .bool t.out, .string t.nm]) := BT.out.kn (hk) (by intro hm; simp only [List.mem_cons, List.not_mem_nil, or_false] at hm; omega)
 replace BR : Hid (Bx ((w12.setCell ⟨w1.heap.size, 1, none⟩ (.slice (some ⟨g', 0, none⟩) (c.ps.length + 1) cap))) (w.heap.size + 1 + 1) [.slice none 0 0, .slice none 0 0, .slice none 0 0, .int .i64 0, .int .i64 0]) := BR.out.kn (hk) (by intro hm; simp only [List.mem_cons, List.not_mem_nil, or_false] at hm; omega)
 replace HB : Hid (Below w.heap.size w ((w12.setCell ⟨w1.heap.size, 1, none⟩ (.slice (some ⟨g', 0, none⟩) (c.ps.length + 1) cap)))) := HB.out.trans ((hk).below (by have := HB.out.size; omega) (by intro x hx; simp only [List.mem_cons, List.not_mem_nil, or_false] at hx; omega))
 replace BO : Hid (Bx ((w12.setCell ⟨w1.heap.size, 1, none⟩ (.slice (some ⟨g', 0, none⟩) (c.ps.length + 1) cap))) w1.heap.size [.slice a3 (putV b.vs t.ws N1).length c3, .slice (some ⟨g', 0, none⟩) (c.ps.length + 1) cap, .slice c.qa c.qs.length c.qc, .int .i64 N1, .int .i64 c.nx]) := BO.out.set 1 (.slice (some ⟨g', 0, none⟩) (c.ps.length + 1) cap)
 replace HL1 : Hid (TLie ((w12.setCell ⟨w1.heap.size, 1, none⟩ (.slice (some ⟨g', 0, none⟩) (c.ps.length + 1) cap))) w2.heap.size w3.heap.size t ra1 rc1 wa1 wc1) := HL1.out.kn (hk) (by intro x hx; simp only [List.mem_cons, List.not_mem_nil, or_false] at hx; omega)
 replace BD : Hid (Bx ((w12.setCell ⟨w1.heap.size, 1, none⟩ (.slice (some ⟨g', 0, none⟩) (c.ps.length + 1) cap))) w3.heap.size [.int .i64 t.id, .int .i64 3, .int .i64 t.snap, .int .i64 N1, .slice ra1 t.rs.length rc1, .slice wa1 t.ws.length wc1, .bool (t.out || o), .string ⟨#[]⟩]) := BD.out.kn (hk) (by intro hm; simp only [List.mem_cons, List.not_mem_nil, or_false] at hm; omega)
 replace HV : Hid (Lies encV 150 ((w12.setCell ⟨w1.heap.size, 1, none⟩ (.slice (some ⟨g', 0, none⟩) (c.ps.length + 1) cap))) w9.heap.size w10.heap.size (.slice a3 (putV b.vs t.ws N1).length c3) (putV b.vs t.ws N1)) := HV.out.kn (hk) (by intro x hx; simp only [List.mem_cons, List.not_mem_nil, or_false] at hx; omega)
 replace HPw : Hid (GOwn encT 62 ((w12.setCell ⟨w1.heap.size, 1, none⟩ (.slice (some ⟨g', 0, none⟩) (c.ps.length + 1) cap))) m1 (.slice (some ⟨g', 0, none⟩) (c.ps.length + 1) cap) (c.ps ++ [(⟨(dnT t N1 o), ra1, rc1, wa1, wc1⟩ : Ta)])) := own_kn HPw.out (hk) (fun g e hm => by have e' : g' = g := Option.some.inj e; simp only [List.mem_cons, List.not_mem_nil, or_false] at hm; omega)
 replace HPe : Hid (Ea ((w12.setCell ⟨w1.heap.size, 1, none⟩ (.slice (some ⟨g', 0, none⟩) (c.ps.length + 1) cap))) m1 m2 c.ps) := HPe.out.kn (hk) (by intro x hx; simp only [List.mem_cons, List.not_mem_nil, or_false] at hx; omega)
 clear hk
 generalize (w12.setCell ⟨w1.heap.size, 1, none⟩ (.slice (some ⟨g', 0, none⟩) (c.ps.length + 1) cap)) = w13 at *
 have z13 : w12.heap.size ≤ w13.heap.size := Nat.le_of_eq zq.symm
 have y13 : w13.heap.size ≤ w12.heap.size := Nat.le_of_eq zq
 clear zq
 have o2 := BO.out.c2
 have of2 := BO.out.fz 2
 have hlt0 : w1.heap.size < w13.heap.size := BO.out.lt
 go_upto_region 11 with fail
 clear o2 of2 hlt0
 have hse : (w13.setCell ⟨w1.heap.size, 2, none⟩ (.slice (some ⟨w13.heap.size, 0, none⟩) 0 0)).heap.size = w13.heap.size := by simp [World.setCell]
 have hk : Kn [w1.heap.size] w13 (w13.setCell ⟨w1.heap.size, 2, none⟩ (.slice (some ⟨w13.heap.size, 0, none⟩) 0 0)) := Kn.set w13 (w1.heap.size) 2 (.slice (some ⟨w13.heap.size, 0, none⟩) 0 0)
 replace BA : Hid (Bx ((w13.setCell ⟨w1.heap.size, 2, none⟩ (.slice (some ⟨w13.heap.size, 0, none⟩) 0 0))) w.heap.size [.slice b.va b.vs.length b.vc, .slice b.pa b.ps.length b.pc, .slice b.qa b.qs.length b.qc, .int .i64 b.cs, .int .i64 b.nx]) := BA.out.kn (hk) (by intro hm; simp only [List.mem_cons, List.not_mem_nil, or_false] at hm; omega)
 replace BT : Hid (Bx ((w13.setCell ⟨w1.heap.size, 2, none⟩ (.slice (some ⟨w13.heap.size, 0, none⟩) 0 0))) (w.heap.size + 1) [.int .i64 t.id, .int .i64 t.st, .int .i64 t.snap, .int .i64 t.cs, .slice ra t.rs.length rc, .slice wa t.ws.length wc, .bool t.out, .string t.nm]) := BT.out.kn (hk) (by intro hm; simp only [List.mem_cons, List.not_mem_nil, or_false] at hm; omega)
 replace BR : Hid (Bx ((w13.setCell ⟨w1.heap.size, 2, none⟩ (.slice (some ⟨w13.heap.size, 0, none⟩) 0 0))) (w.heap.size + 1 + 1) [.slice none 0 0, .slice none 0 0, .slice none 0 0, .int .i64 0, .int .i64 0]) := BR.out.kn (hk) (by intro hm; simp only [List.mem_cons, List.not_mem_nil, or_false] at hm; omega)
 replace HB : Hid (Below w.heap.size w ((w13.setCell ⟨w1.heap.size, 2, none⟩ (.slice (some ⟨w13.heap.size, 0, none⟩) 0 0)))) := HB.out.trans ((hk).below (by have := HB.out.size; omega) (by intro x hx; simp only [List.mem_cons, List.not_mem_nil, or_false] at hx; omega))
 replace BO : Hid (Bx ((w13.setCell ⟨w1.heap.size, 2, none⟩ (.slice (some ⟨w13.heap.size, 0, none⟩) 0 0))) w1.heap.size [.slice a3 (putV b.vs t.ws N1).length c3, .slice (some ⟨g', 0, none⟩) (c.ps.length + 1) cap, .slice (some ⟨w13.heap.size, 0, none⟩) 0 0, .int .i64 N1, .int .i64 c.nx]) := BO.out.set 2 (.slice (some ⟨w13.heap.size, 0, none⟩) 0 0)
 replace HL1 : Hid (TLie ((w13.setCell ⟨w1.heap.size, 2, none⟩ (.slice (some ⟨w13.heap.size, 0, none⟩) 0 0))) w2.heap.size w3.heap.size t ra1 rc1 wa1 wc1) := HL1.out.kn (hk) (by intro x hx; simp only [List.mem_cons, List.not_mem_nil, or_false] at hx; omega)
 replace BD : Hid (Bx ((w13.setCell ⟨w1.heap.size, 2, none⟩ (.slice (some ⟨w13.heap.size, 0, none⟩) 0 0))) w3.heap.size [.int .i64 t.id, .int .i64 3, .int .i64 t.snap, .int .i64 N1, .slice ra1 t.rs.length rc1, .slice wa1 t.ws.length wc1, .bool (t.out || o), .string ⟨#[]⟩]) := BD.out.kn (hk) (by intro hm; simp only [List.mem_cons, List.not_mem_nil, or_false] at hm; omega)
 replace HV : Hid (Lies encV 150 ((w13.setCell ⟨w1.heap.size, 2, none⟩ (.slice (some ⟨w13.heap.size, 0, none⟩) 0 0))) w9.heap.size w10.heap.size (.slice a3 (putV b.vs t.ws N1).length c3) (putV b.vs t.ws N1)) := HV.out.kn (hk) (by intro x hx; simp only [List.mem_cons, List.not_mem_nil, or_false] at hx; omega)
 replace HPw : Hid (GOwn encT 62 ((w13.setCell ⟨w1.heap.size, 2, none⟩ (.slice (some ⟨w13.heap.size, 0, none⟩) 0 0))) m1 (.slice (some ⟨g', 0, none⟩) (c.ps.length + 1) cap) (c.ps ++ [(⟨(dnT t N1 o), ra1, rc1, wa1, wc1⟩ : Ta)])) := own_kn HPw.out (hk) (fun g e hm => by have e' : g' = g := Option.some.inj e; simp only [List.mem_cons, List.not_mem_nil, or_false] at hm; omega)
 replace HPe : Hid (Ea ((w13.setCell ⟨w1.heap.size, 2, none⟩ (.slice (some ⟨w13.heap.size, 0, none⟩) 0 0))) m1 m2 c.ps) := HPe.out.kn (hk) (by intro x hx; simp only [List.mem_cons, List.not_mem_nil, or_false] at hx; omega)
 have hba : Below (w13.setCell ⟨w1.heap.size, 2, none⟩ (.slice (some ⟨w13.heap.size, 0, none⟩) 0 0)).heap.size (w13.setCell ⟨w1.heap.size, 2, none⟩ (.slice (some ⟨w13.heap.size, 0, none⟩) 0 0)) ((w13.setCell ⟨w1.heap.size, 2, none⟩ (.slice (some ⟨w13.heap.size, 0, none⟩) 0 0)).alloc (.cells #[] 62)) := (belowRefl _).alloc (Nat.le_refl _) _
 replace BA : Hid (Bx (((w13.setCell ⟨w1.heap.size, 2, none⟩ (.slice (some ⟨w13.heap.size, 0, none⟩) 0 0)).alloc (.cells #[] 62))) w.heap.size [.slice b.va b.vs.length b.vc, .slice b.pa b.ps.length b.pc, .slice b.qa b.qs.length b.qc, .int .i64 b.cs, .int .i64 b.nx]) := BA.out.below hba
 replace BT : Hid (Bx (((w13.setCell ⟨w1.heap.size, 2, none⟩ (.slice (some ⟨w13.heap.size, 0, none⟩) 0 0)).alloc (.cells #[] 62))) (w.heap.size + 1) [.int .i64 t.id, .int .i64 t.st, .int .i64 t.snap, .int .i64 t.cs, .slice ra t.rs.length rc, .slice wa t.ws.length wc, .bool t.out, .string t.nm]) := BT.out.below hba
 replace BR : Hid (Bx (((w13.setCell ⟨w1.heap.size, 2, none⟩ (.slice (some ⟨w13.heap.size, 0, none⟩) 0 0)).alloc (.cells #[] 62))) (w.heap.size + 1 + 1) [.slice none 0 0, .slice none 0 0, .slice none 0 0, .int .i64 0, .int .i64 0]) := BR.out.below hba
 replace HB : Hid (Below w.heap.size w (((w13.setCell ⟨w1.heap.size, 2, none⟩ (.slice (some ⟨w13.heap.size, 0, none⟩) 0 0)).alloc (.cells #[] 62)))) := HB.out.trans (hba.mono HB.out.size)
 replace BO : Hid (Bx (((w13.setCell ⟨w1.heap.size, 2, none⟩ (.slice (some ⟨w13.heap.size, 0, none⟩) 0 0)).alloc (.cells #[] 62))) w1.heap.size [.slice a3 (putV b.vs t.ws N1).length c3, .slice (some ⟨g', 0, none⟩) (c.ps.length + 1) cap, .slice (some ⟨w13.heap.size, 0, none⟩) 0 0, .int .i64 N1, .int .i64 c.nx]) := BO.out.below hba
 replace HL1 : Hid (TLie (((w13.setCell ⟨w1.heap.size, 2, none⟩ (.slice (some ⟨w13.heap.size, 0, none⟩) 0 0)).alloc (.cells #[] 62))) w2.heap.size w3.heap.size t ra1 rc1 wa1 wc1) := HL1.out.below hba
 replace BD : Hid (Bx (((w13.setCell ⟨w1.heap.size, 2, none⟩ (.slice (some ⟨w13.heap.size, 0, none⟩) 0 0)).alloc (.cells #[] 62))) w3.heap.size [.int .i64 t.id, .int .i64 3, .int .i64 t.snap, .int .i64 N1, .slice ra1 t.rs.length rc1, .slice wa1 t.ws.length wc1, .bool (t.out || o), .string ⟨#[]⟩]) := BD.out.below hba
 replace HV : Hid (Lies encV 150 (((w13.setCell ⟨w1.heap.size, 2, none⟩ (.slice (some ⟨w13.heap.size, 0, none⟩) 0 0)).alloc (.cells #[] 62))) w9.heap.size w10.heap.size (.slice a3 (putV b.vs t.ws N1).length c3) (putV b.vs t.ws N1)) := HV.out.below hba
 replace HPw : Hid (GOwn encT 62 (((w13.setCell ⟨w1.heap.size, 2, none⟩ (.slice (some ⟨w13.heap.size, 0, none⟩) 0 0)).alloc (.cells #[] 62))) m1 (.slice (some ⟨g', 0, none⟩) (c.ps.length + 1) cap) (c.ps ++ [(⟨(dnT t N1 o), ra1, rc1, wa1, wc1⟩ : Ta)])) := HPw.out.below hba
 replace HPe : Hid (Ea (((w13.setCell ⟨w1.heap.size, 2, none⟩ (.slice (some ⟨w13.heap.size, 0, none⟩) 0 0)).alloc (.cells #[] 62))) m1 m2 c.ps) := HPe.out.below hba
 have zq : ((w13.setCell ⟨w1.heap.size, 2, none⟩ (.slice (some ⟨w13.heap.size, 0, none⟩) 0 0)).alloc (.cells #[] 62)).heap.size = w13.heap.size + 1 := by rw [World.size_alloc, hse]
 have HL0 : Hid (Lo ((w13.setCell ⟨w1.heap.size, 2, none⟩ (.slice (some ⟨w13.heap.size, 0, none⟩) 0 0)).alloc (.cells #[] 62)) (w13.heap.size) ((w13.setCell ⟨w1.heap.size, 2, none⟩ (.slice (some ⟨w13.heap.size, 0, none⟩) 0 0)).alloc (.cells #[] 62)).heap.size (.slice (some ⟨w13.heap.size, 0, none⟩) 0 0) []) := by
  have h : GOwn encT 62 ((w13.setCell ⟨w1.heap.size, 2, none⟩ (.slice (some ⟨w13.heap.size, 0, none⟩) 0 0)).alloc (.cells #[] 62)) (w13.heap.size) (.slice (some ⟨(w13.setCell ⟨w1.heap.size, 2, none⟩ (.slice (some ⟨w13.heap.size, 0, none⟩) 0 0)).heap.size, 0, none⟩) 0 0) [] := GOwn.empty (w13.setCell ⟨w1.heap.size, 2, none⟩ (.slice (some ⟨w13.heap.size, 0, none⟩) 0 0)) _ (by rw [hse]; exact Nat.le_refl _)
  rw [hse] at h
  exact ⟨Lies.of h, fun y hy => by cases hy⟩
 clear hba hk hse
 generalize ((w13.setCell ⟨w1.heap.size, 2, none⟩ (.slice (some ⟨w13.heap.size, 0, none⟩) 0 0)).alloc (.cells #[] 62)) = w14 at *
 have z14 : w13.heap.size + 1 ≤ w14.heap.size := Nat.le_of_eq zq.symm
 have y14 : w14.heap.size ≤ w13.heap.size + 1 := Nat.le_of_eq zq
 clear zq
 go_wp2
 go_loopw [7] (fun s wr => ∃ (k : Nat) (F : List Ta) (a1 : Option Addr) (c1 n1 : Nat), k ≤ b.qs.length ∧ s = .int .i64 k ∧ Hid (n1 = F.length) ∧ Hid (txs F = ((((txs b.qs).take k).filter (otherI t.id)).map (mkO (dnT t N1 o)))) ∧ Hid (Lo wr (w13.heap.size) wr.heap.size (.slice a1 n1 c1) F) ∧ Hid (Bx wr w1.heap.size [.slice a3 (putV b.vs t.ws N1).length c3, .slice (some ⟨g', 0, none⟩) (c.ps.length + 1) cap, .slice a1 n1 c1, .int .i64 N1, .int .i64 c.nx]) ∧ Hid (Kn [w1.heap.size, w13.heap.size] w14 wr)) (fun s _ => b.qs.length - (intOf s).toNat)
 case atStart => exact ⟨0, [], _, _, _, Nat.zero_le _, rfl, rfl, rfl, HL0, BO, Kn.refl _ _⟩
 case round =>
  clear HL0 BO
  obtain ⟨k, F, a1, c1, n1, hk, rfl, HFL, HFT2, HL, BO, HK⟩ := hrel
  have zr := HK.out.size
  by_cases hlt : k < b.qs.length
  ·have hlt' : (k : Int) < (b.qs.length : Int) := by omega
   have h0 : (0 : Int) ≤ (k : Int) := by omega
   have HBr : Hid (Below w.heap.size w wr) := HB.out.trans (HK.out.below HB.out.size (by intro x hx; simp only [List.mem_cons, List.not_mem_nil, or_false] at hx; omega))
   have BAr : Hid (Bx wr w.heap.size [.slice b.va b.vs.length b.vc, .slice b.pa b.ps.length b.pc, .slice b.qa b.qs.length b.qc, .int .i64 b.cs, .int .i64 b.nx]) := BA.out.kn HK.out (by intro hm; simp only [List.mem_cons, List.not_mem_nil, or_false] at hm; omega)
   have BTr : Hid (Bx wr (w.heap.size + 1) [.int .i64 t.id, .int .i64 t.st, .int .i64 t.snap, .int .i64 t.cs, .slice ra t.rs.length rc, .slice wa t.ws.length wc, .bool t.out, .string t.nm]) := BT.out.kn HK.out (by intro hm; simp only [List.mem_cons, List.not_mem_nil, or_false] at hm; omega)
   have BDr : Hid (Bx wr (w3.heap.size) [.int .i64 t.id, .int .i64 3, .int .i64 t.snap, .int .i64 N1, .slice ra1 t.rs.length rc1, .slice wa1 t.ws.length wc1, .bool (t.out || o), .string ⟨#[]⟩]) := BD.out.kn HK.out (by intro hm; simp only [List.mem_cons, List.not_mem_nil, or_false] at hm; omega)
   have HLr : Hid (TLie wr w2.heap.size w3.heap.size t ra1 rc1 wa1 wc1) := HL1.out.kn HK.out (by intro x hx; simp only [List.mem_cons, List.not_mem_nil, or_false] at hx; omega)
   obtain ⟨zp, zq, _, _, hT⟩ := HP.out.q.ea _ (List.getElem_mem hlt)
   obtain ⟨bl, ol, hqa, hbl, hc, -⟩ := HP.out.rows.q.cls k hlt
   have hfx : TFit b.qs[k].t := HF.out.q.2 _ (List.mem_map.2 ⟨_, List.getElem_mem hlt, rfl⟩)
   have hkt : k < (txs b.qs).length := by rw [txs_len]; exact hlt
   have hat : (txs b.qs)[k] = b.qs[k].t := by simp [txs]
   have hln : F.length ≤ 100000000 := by
    have e := congrArg List.length HFT2.out
    rw [txs_len, List.length_map] at e
    rw [e]
    exact Nat.le_trans (List.length_filter_le _ _) (Nat.le_trans (List.length_take_le _ _) (by have := HQL.out; omega))
   have HNX : Hid ((txs b.qs).take (k + 1) = (txs b.qs).take k ++ [b.qs[k].t]) := by
    show _ = _
    rw [List.take_add_one, List.getElem?_eq_getElem hkt, hat]
    rfl
   obtain ⟨x, hx⟩ : ∃ x, x = b.qs[k] := ⟨_, rfl⟩
   rw [← hx] at hc hfx hT HNX
   have HFX := hide hfx
   have HQA : Hid (b.qa = some ⟨bl, ol, none⟩) := hqa
   clear hx hqa hat hkt hfx
   have hcr := hc.low HBr.out hbl
   have HC := hide (show Calls Tryz.prog 51 #[.agg #[.int .i64 x.t.id, .int .i64 x.t.st, .int .i64 x.t.snap, .int .i64 x.t.cs, .slice x.ra x.t.rs.length x.rc, .slice x.wa x.t.ws.length x.wc, .bool x.t.out, .string x.t.nm]] wr _ from scopyT x.t x.ra x.wa x.rc x.wc zp (hT.ex.choose) (Nat.le_trans HFX.out.1 (by omega)) (Nat.le_trans HFX.out.2.2.1 (by omega)) wr (hT.ex.choose_spec.2.2.1.own.below HBr.out) (hT.ex.choose_spec.2.2.2.own.below HBr.out))
   clear hT hc
   have r0 := hcr.c0
   have r1 := hcr.c1
   have r2 := hcr.c2
   have r3 := hcr.c3
   have r4 := hcr.c4
   have r5 := hcr.c5
   have r6 := hcr.c6
   have r7 := hcr.c7
   clear hcr
   have x2 : wr.cell? ⟨w.heap.size, 2, none⟩ = some (.slice (some ⟨bl, ol, none⟩) b.qs.length b.qc) := by
    have h := BAr.out.c2
    rw [HQA.out] at h
    exact h
   go_wp2_with fail
   refine (HC.out).mono ?_
   rintro e w15 ⟨ra2, rc2, wa2, wc2, rfl, ht, hb15⟩
   have z15 : wr.heap.size ≤ w15.heap.size := hb15.size
   have HT2 : Hid (TLie w15 wr.heap.size w15.heap.size x.t ra2 rc2 wa2 wc2) := ht
   clear ht
   replace BAr : Hid (Bx w15 w.heap.size [.slice b.va b.vs.length b.vc, .slice b.pa b.ps.length b.pc, .slice b.qa b.qs.length b.qc, .int .i64 b.cs, .int .i64 b.nx]) := BAr.out.below hb15
   replace BTr : Hid (Bx w15 (w.heap.size + 1) [.int .i64 t.id, .int .i64 t.st, .int .i64 t.snap, .int .i64 t.cs, .slice ra t.rs.length rc, .slice wa t.ws.length wc, .bool t.out, .string t.nm]) := BTr.out.below hb15
   replace BDr : Hid (Bx w15 (w3.heap.size) [.int .i64 t.id, .int .i64 3, .int .i64 t.snap, .int .i64 N1, .slice ra1 t.rs.length rc1, .slice wa1 t.ws.length wc1, .bool (t.out || o), .string ⟨#[]⟩]) := BDr.out.below hb15
   replace HLr : Hid (TLie w15 w2.heap.size w3.heap.size t ra1 rc1 wa1 wc1) := HLr.out.below hb15
   replace HL : Hid (Lo w15 (w13.heap.size) wr.heap.size (.slice a1 n1 c1) F) := HL.out.below hb15
   replace BO : Hid (Bx w15 w1.heap.size [.slice a3 (putV b.vs t.ws N1).length c3, .slice (some ⟨g', 0, none⟩) (c.ps.length + 1) cap, .slice a1 n1 c1, .int .i64 N1, .int .i64 c.nx]) := BO.out.below hb15
   replace HK : Hid (Kn [w1.heap.size, w13.heap.size] w14 w15) := HK.out.trans (Kn.ofBelow hb15)
   clear hb15 r0 r1 r2 r3 r4 r5 r6 r7 x2 HC
   go_upto_region 15 with fail
   have hba : Below w15.heap.size w15 (w15.alloc (.cells #[.int .i64 x.t.id, .int .i64 x.t.st, .int .i64 x.t.snap, .int .i64 x.t.cs, .slice ra2 x.t.rs.length rc2, .slice wa2 x.t.ws.length wc2, .bool x.t.out, .string x.t.nm] 62)) := (belowRefl w15).alloc (Nat.le_refl _) _
   have zq : (w15.alloc (.cells #[.int .i64 x.t.id, .int .i64 x.t.st, .int .i64 x.t.snap, .int .i64 x.t.cs, .slice ra2 x.t.rs.length rc2, .slice wa2 x.t.ws.length wc2, .bool x.t.out, .string x.t.nm] 62)).heap.size = w15.heap.size + 1 := World.size_alloc _ _
   replace BAr : Hid (Bx ((w15.alloc (.cells #[.int .i64 x.t.id, .int .i64 x.t.st, .int .i64 x.t.snap, .int .i64 x.t.cs, .slice ra2 x.t.rs.length rc2, .slice wa2 x.t.ws.length wc2, .bool x.t.out, .string x.t.nm] 62))) w.heap.size [.slice b.va b.vs.length b.vc, .slice b.pa b.ps.length b.pc, .slice b.qa b.qs.length b.qc, .int .i64 b.cs, .int .i64 b.nx]) := BAr.out.below hba
   replace BTr : Hid (Bx ((w15.alloc (.cells #[.int .i64 x.t.id, .int .i64 x.t.st, .int .i64 x.t.snap, .int .i64 x.t.cs, .slice ra2 x.t.rs.length rc2, .slice wa2 x.t.ws.length wc2, .bool x.t.out, .string x.t.nm] 62))) (w.heap.size + 1) [.int .i64 t.id, .int .i64 t.st, .int .i64 t.snap, .int .i64 t.cs, .slice ra t.rs.length rc, .slice wa t.ws.length wc, .bool t.out, .string t.nm]) := BTr.out.below hba
   replace BDr : Hid (Bx ((w15.alloc (.cells #[.int .i64 x.t.id, .int .i64 x.t.st, .int .i64 x.t.snap, .int .i64 x.t.cs, .slice ra2 x.t.rs.length rc2, .slice wa2 x.t.ws.length wc2, .bool x.t.out, .string x.t.nm] 62))) (w3.heap.size) [.int .i64 t.id, .int .i64 3, .int .i64 t.snap, .int .i64 N1, .slice ra1 t.rs.length rc1, .slice wa1 t.ws.length wc1, .bool (t.out || o), .string ⟨#[]⟩]) := BDr.out.below hba
   replace HLr : Hid (TLie ((w15.alloc (.cells #[.int .i64 x.t.id, .int .i64 x.t.st, .int .i64 x.t.snap, .int .i64 x.t.cs, .slice ra2 x.t.rs.length rc2, .slice wa2 x.t.ws.length wc2, .bool x.t.out, .string x.t.nm] 62))) w2.heap.size w3.heap.size t ra1 rc1 wa1 wc1) := HLr.out.below hba
   replace HL : Hid (Lo ((w15.alloc (.cells #[.int .i64 x.t.id, .int .i64 x.t.st, .int .i64 x.t.snap, .int .i64 x.t.cs, .slice ra2 x.t.rs.length rc2, .slice wa2 x.t.ws.length wc2, .bool x.t.out, .string x.t.nm] 62))) (w13.heap.size) wr.heap.size (.slice a1 n1 c1) F) := HL.out.below hba
   replace BO : Hid (Bx ((w15.alloc (.cells #[.int .i64 x.t.id, .int .i64 x.t.st, .int .i64 x.t.snap, .int .i64 x.t.cs, .slice ra2 x.t.rs.length rc2, .slice wa2 x.t.ws.length wc2, .bool x.t.out, .string x.t.nm] 62))) w1.heap.size [.slice a3 (putV b.vs t.ws N1).length c3, .slice (some ⟨g', 0, none⟩) (c.ps.length + 1) cap, .slice a1 n1 c1, .int .i64 N1, .int .i64 c.nx]) := BO.out.below hba
   replace HT2 : Hid (TLie ((w15.alloc (.cells #[.int .i64 x.t.id, .int .i64 x.t.st, .int .i64 x.t.snap, .int .i64 x.t.cs, .slice ra2 x.t.rs.length rc2, .slice wa2 x.t.ws.length wc2, .bool x.t.out, .string x.t.nm] 62))) wr.heap.size w15.heap.size x.t ra2 rc2 wa2 wc2) := HT2.out.below hba
   replace HK : Hid (Kn [w1.heap.size, w13.heap.size] w14 ((w15.alloc (.cells #[.int .i64 x.t.id, .int .i64 x.t.st, .int .i64 x.t.snap, .int .i64 x.t.cs, .slice ra2 x.t.rs.length rc2, .slice wa2 x.t.ws.length wc2, .bool x.t.out, .string x.t.nm] 62)))) := HK.out.trans (Kn.ofBelow hba)
   have BX : Hid (Bx ((w15.alloc (.cells #[.int .i64 x.t.id, .int .i64 x.t.st, .int .i64 x.t.snap, .int .i64 x.t.cs, .slice ra2 x.t.rs.length rc2, .slice wa2 x.t.ws.length wc2, .bool x.t.out, .string x.t.nm] 62))) w15.heap.size [.int .i64 x.t.id, .int .i64 x.t.st, .int .i64 x.t.snap, .int .i64 x.t.cs, .slice ra2 x.t.rs.length rc2, .slice wa2 x.t.ws.length wc2, .bool x.t.out, .string x.t.nm]) := Bx.new w15 [.int .i64 x.t.id, .int .i64 x.t.st, .int .i64 x.t.snap, .int .i64 x.t.cs, .slice ra2 x.t.rs.length rc2, .slice wa2 x.t.ws.length wc2, .bool x.t.out, .string x.t.nm] 62
   clear hba
   generalize (w15.alloc (.cells #[.int .i64 x.t.id, .int .i64 x.t.st, .int .i64 x.t.snap, .int .i64 x.t.cs, .slice ra2 x.t.rs.length rc2, .slice wa2 x.t.ws.length wc2, .bool x.t.out, .string x.t.nm] 62)) = w16 at *
   have z16 : w15.heap.size + 1 ≤ w16.heap.size := Nat.le_of_eq zq.symm
   clear zq
   have x0 := BX.out.c0
   have y0 := BTr.out.c0
   by_cases hid2 : x.t.id = t.id
   ·have HN : Hid ((((txs b.qs).take (k + 1)).filter (otherI t.id)).map (mkO (dnT t N1 o)) = ((((txs b.qs).take k).filter (otherI t.id)).map (mkO (dnT t N1 o)))) := by
     show _ = _
     rw [HNX.out, List.filter_append]
     have e : [x.t].filter (otherI t.id) = [] := by simp [otherI, hid2]
     rw [e, List.append_nil]
    have hd2 : (x.t.id == t.id) = true := by simp [hid2]
    clear hid2
    go_wp2
    go_roundw
    case rel => exact ⟨k + 1, F, a1, c1, n1, by omega, by go_num, HFL, by rw [HN.out]; exact HFT2, HL.out.mono (Nat.le_refl _) (by omega), BO, HK⟩
    case measure => simp [intOf]; omega
   ·have HN : Hid ((((txs b.qs).take (k + 1)).filter (otherI t.id)).map (mkO (dnT t N1 o)) = ((((txs b.qs).take k).filter (otherI t.id)).map (mkO (dnT t N1 o))) ++ [mkO (dnT t N1 o) x.t]) := by
     show _ = _
     rw [HNX.out, List.filter_append]
     have e : [x.t].filter (otherI t.id) = [x.t] := by simp [otherI, hid2]
     rw [e, List.map_append]
     rfl
    have hd2 : (x.t.id == t.id) = false := by simp [hid2]
    clear hid2
    go_upto_region 16 with fail
    clear hd2 x0 y0
    have x0 := BX.out.c0
    have x1 := BX.out.c1
    have x2 := BX.out.c2
    have x3 := BX.out.c3
    have x4 := BX.out.c4
    have x5 := BX.out.c5
    have x6 := BX.out.c6
    have x7 := BX.out.c7
    have y0 := BDr.out.c0
    have y1 := BDr.out.c1
    have y2 := BDr.out.c2
    have y3 := BDr.out.c3
    have y4 := BDr.out.c4
    have y5 := BDr.out.c5
    have y6 := BDr.out.c6
    have y7 := BDr.out.c7
    have HAH := hide (sahead x.t (dnT t N1 o) ra2 wa2 rc2 wc2 ra1 wa1 rc1 wc1 (Nat.le_trans HFX.out.1 (by omega)) (Nat.le_trans HFT.out.2.2.1 (by omega)) w16 HT2.out.row.r (show GRow encW w16 wa1 t.ws from HLr.out.row.w))
    obtain ⟨h, hh⟩ : ∃ h, ahB x.t (dnT t N1 o) = h := ⟨_, rfl⟩
    rw [hh] at HAH
    go_wp2_with fail
    refine (HAH.out).mono ?_
    rintro e w17 ⟨rfl, hb17⟩
    have z17 : w16.heap.size ≤ w17.heap.size := hb17.size
    replace BAr : Hid (Bx w17 w.heap.size [.slice b.va b.vs.length b.vc, .slice b.pa b.ps.length b.pc, .slice b.qa b.qs.length b.qc, .int .i64 b.cs, .int .i64 b.nx]) := BAr.out.below hb17
    replace BTr : Hid (Bx w17 (w.heap.size + 1) [.int .i64 t.id, .int .i64 t.st, .int .i64 t.snap, .int .i64 t.cs, .slice ra t.rs.length rc, .slice wa t.ws.length wc, .bool t.out, .string t.nm]) := BTr.out.below hb17
    replace BDr : Hid (Bx w17 (w3.heap.size) [.int .i64 t.id, .int .i64 3, .int .i64 t.snap, .int .i64 N1, .slice ra1 t.rs.length rc1, .slice wa1 t.ws.length wc1, .bool (t.out || o), .string ⟨#[]⟩]) := BDr.out.below hb17
    replace HLr : Hid (TLie w17 w2.heap.size w3.heap.size t ra1 rc1 wa1 wc1) := HLr.out.below hb17
    replace HL : Hid (Lo w17 (w13.heap.size) wr.heap.size (.slice a1 n1 c1) F) := HL.out.below hb17
    replace BO : Hid (Bx w17 w1.heap.size [.slice a3 (putV b.vs t.ws N1).length c3, .slice (some ⟨g', 0, none⟩) (c.ps.length + 1) cap, .slice a1 n1 c1, .int .i64 N1, .int .i64 c.nx]) := BO.out.below hb17
    replace HT2 : Hid (TLie w17 wr.heap.size w15.heap.size x.t ra2 rc2 wa2 wc2) := HT2.out.below hb17
    replace BX : Hid (Bx w17 w15.heap.size [.int .i64 x.t.id, .int .i64 x.t.st, .int .i64 x.t.snap, .int .i64 x.t.cs, .slice ra2 x.t.rs.length rc2, .slice wa2 x.t.ws.length wc2, .bool x.t.out, .string x.t.nm]) := BX.out.below hb17
    replace HK : Hid (Kn [w1.heap.size, w13.heap.size] w14 w17) := HK.out.trans (Kn.ofBelow hb17)
    clear hb17 x0 y0 x1 y1 x2 y2 x3 y3 x4 y4 x5 y5 x6 y6 x7 y7 HAH
    cases h
    ·have HMO : Hid (mkO (dnT t N1 o) x.t = ⟨x.t.id, x.t.st, x.t.snap, x.t.cs, x.t.rs, x.t.ws, x.t.out, x.t.nm⟩) := by show outT _ (x.t.out || ahB x.t (dnT t N1 o)) = _; rw [hh]; rw [Bool.or_false]; rfl
     clear hh
     have o2 := BO.out.c2
     have x0 := BX.out.c0
     have x1 := BX.out.c1
     have x2 := BX.out.c2
     have x3 := BX.out.c3
     have x4 := BX.out.c4
     have x5 := BX.out.c5
     have x6 := BX.out.c6
     have x7 := BX.out.c7
     have HBK : Hid ((w17.alloc (.cells #[.int .i64 x.t.id, .int .i64 x.t.st, .int .i64 x.t.snap, .int .i64 x.t.cs, .slice ra2 x.t.rs.length rc2, .slice wa2 x.t.ws.length wc2, .bool x.t.out, .string x.t.nm] 62)).heap[w17.heap.size]? = some (.cells (encT.enc (⟨mkO (dnT t N1 o) x.t, ra2, rc2, wa2, wc2⟩ : Ta)).toArray 62 (0, 0))) := by
      have h := heap_alloc_new w17 (.cells #[.int .i64 x.t.id, .int .i64 x.t.st, .int .i64 x.t.snap, .int .i64 x.t.cs, .slice ra2 x.t.rs.length rc2, .slice wa2 x.t.ws.length wc2, .bool x.t.out, .string x.t.nm] 62)
      show _ = some (Obj.cells (#[.int .i64 (mkO (dnT t N1 o) x.t).id, .int .i64 (mkO (dnT t N1 o) x.t).st, .int .i64 (mkO (dnT t N1 o) x.t).snap, .int .i64 (mkO (dnT t N1 o) x.t).cs, .slice ra2 (mkO (dnT t N1 o) x.t).rs.length rc2, .slice wa2 (mkO (dnT t N1 o) x.t).ws.length wc2, .bool (mkO (dnT t N1 o) x.t).out, .string (mkO (dnT t N1 o) x.t).nm]) 62 (0, 0))
      rw [HMO.out]
      exact h
     have hba : Below w17.heap.size w17 (w17.alloc (.cells #[.int .i64 x.t.id, .int .i64 x.t.st, .int .i64 x.t.snap, .int .i64 x.t.cs, .slice ra2 x.t.rs.length rc2, .slice wa2 x.t.ws.length wc2, .bool x.t.out, .string x.t.nm] 62)) := (belowRefl w17).alloc (Nat.le_refl _) _
     have zq : (w17.alloc (.cells #[.int .i64 x.t.id, .int .i64 x.t.st, .int .i64 x.t.snap, .int .i64 x.t.cs, .slice ra2 x.t.rs.length rc2, .slice wa2 x.t.ws.length wc2, .bool x.t.out, .string x.t.nm] 62)).heap.size = w17.heap.size + 1 := World.size_alloc _ _
     replace BAr : Hid (Bx ((w17.alloc (.cells #[.int .i64 x.t.id, .int .i64 x.t.st, .int .i64 x.t.snap, .int .i64 x.t.cs, .slice ra2 x.t.rs.length rc2, .slice wa2 x.t.ws.length wc2, .bool x.t.out, .string x.t.nm] 62))) w.heap.size [.slice b.va b.vs.length b.vc, .slice b.pa b.ps.length b.pc, .slice b.qa b.qs.length b.qc, .int .i64 b.cs, .int .i64 b.nx]) := BAr.out.below hba
     replace BTr : Hid (Bx ((w17.alloc (.cells #[.int .i64 x.t.id, .int .i64 x.t.st, .int .i64 x.t.snap, .int .i64 x.t.cs, .slice ra2 x.t.rs.length rc2, .slice wa2 x.t.ws.length wc2, .bool x.t.out, .string x.t.nm] 62))) (w.heap.size + 1) [.int .i64 t.id, .int .i64 t.st, .int .i64 t.snap, .int .i64 t.cs, .slice ra t.rs.length rc, .slice wa t.ws.length wc, .bool t.out, .string t.nm]) := BTr.out.below hba
     replace BDr : Hid (Bx ((w17.alloc (.cells #[.int .i64 x.t.id, .int .i64 x.t.st, .int .i64 x.t.snap, .int .i64 x.t.cs, .slice ra2 x.t.rs.length rc2, .slice wa2 x.t.ws.length wc2, .bool x.t.out, .string x.t.nm] 62))) (w3.heap.size) [.int .i64 t.id, .int .i64 3, .int .i64 t.snap, .int .i64 N1, .slice ra1 t.rs.length rc1, .slice wa1 t.ws.length wc1, .bool (t.out || o), .string ⟨#[]⟩]) := BDr.out.below hba
     replace HLr : Hid (TLie ((w17.alloc (.cells #[.int .i64 x.t.id, .int .i64 x.t.st, .int .i64 x.t.snap, .int .i64 x.t.cs, .slice ra2 x.t.rs.length rc2, .slice wa2 x.t.ws.length wc2, .bool x.t.out, .string x.t.nm] 62))) w2.heap.size w3.heap.size t ra1 rc1 wa1 wc1) := HLr.out.below hba
     replace HL : Hid (Lo ((w17.alloc (.cells #[.int .i64 x.t.id, .int .i64 x.t.st, .int .i64 x.t.snap, .int .i64 x.t.cs, .slice ra2 x.t.rs.length rc2, .slice wa2 x.t.ws.length wc2, .bool x.t.out, .string x.t.nm] 62))) (w13.heap.size) wr.heap.size (.slice a1 n1 c1) F) := HL.out.below hba
     replace BO : Hid (Bx ((w17.alloc (.cells #[.int .i64 x.t.id, .int .i64 x.t.st, .int .i64 x.t.snap, .int .i64 x.t.cs, .slice ra2 x.t.rs.length rc2, .slice wa2 x.t.ws.length wc2, .bool x.t.out, .string x.t.nm] 62))) w1.heap.size [.slice a3 (putV b.vs t.ws N1).length c3, .slice (some ⟨g', 0, none⟩) (c.ps.length + 1) cap, .slice a1 n1 c1, .int .i64 N1, .int .i64 c.nx]) := BO.out.below hba
     replace HT2 : Hid (TLie ((w17.alloc (.cells #[.int .i64 x.t.id, .int .i64 x.t.st, .int .i64 x.t.snap, .int .i64 x.t.cs, .slice ra2 x.t.rs.length rc2, .slice wa2 x.t.ws.length wc2, .bool x.t.out, .string x.t.nm] 62))) wr.heap.size w15.heap.size x.t ra2 rc2 wa2 wc2) := HT2.out.below hba
     replace BX : Hid (Bx ((w17.alloc (.cells #[.int .i64 x.t.id, .int .i64 x.t.st, .int .i64 x.t.snap, .int .i64 x.t.cs, .slice ra2 x.t.rs.length rc2, .slice wa2 x.t.ws.length wc2, .bool x.t.out, .string x.t.nm] 62))) w15.heap.size [.int .i64 x.t.id, .int .i64 x.t.st, .int .i64 x.t.snap, .int .i64 x.t.cs, .slice ra2 x.t.rs.length rc2, .slice wa2 x.t.ws.length wc2, .bool x.t.out, .string x.t.nm]) := BX.out.below hba
     replace HK : Hid (Kn [w1.heap.size, w13.heap.size] w14 ((w17.alloc (.cells #[.int .i64 x.t.id, .int .i64 x.t.st, .int .i64 x.t.snap, .int .i64 x.t.cs, .slice ra2 x.t.rs.length rc2, .slice wa2 x.t.ws.length wc2, .bool x.t.out, .string x.t.nm] 62)))) := HK.out.trans (Kn.ofBelow hba)
     clear hba
     have hbb : w13.heap.size ≤ (w17.alloc (.cells #[.int .i64 x.t.id, .int .i64 x.t.st, .int .i64 x.t.snap, .int .i64 x.t.cs, .slice ra2 x.t.rs.length rc2, .slice wa2 x.t.ws.length wc2, .bool x.t.out, .string x.t.nm] 62)).heap.size := by omega
     go_wp2_with (at_builtin; refine wpAppK (E := encT) 40 62 104 _ Tryz.underlying40 Tryz.info62 rfl (by omega) rfl _ _ rfl (v := .slice a1 n1 c1) (⟨mkO (dnT t N1 o) x.t, ra2, rc2, wa2, wc2⟩ : Ta) tone rfl HL.out.own.own rfl HBK.out hln hbb ?_)
     intro g2 cap2 w18 ho hg hg2 hlt2
     have z18 : w17.heap.size + 1 ≤ w18.heap.size := by have := hg.size; omega
     have HLn : Hid (Lo w18 (w13.heap.size) w18.heap.size (.slice (some ⟨g2, 0, none⟩) (F.length + 1) cap2) (F ++ [(⟨mkO (dnT t N1 o) x.t, ra2, rc2, wa2, wc2⟩ : Ta)])) := Lo.push HL.out (HT2.out.as (u := mkO (dnT t N1 o) x.t) rfl rfl) (by omega) (by omega) (by omega) ho hg
     have HKn : Hid (Kn [w1.heap.size, w13.heap.size] w14 w18) := HK.out.transG hg (fun g e => by
      have h1 := HL.out.own.lo g e
      simp only [List.mem_cons, List.not_mem_nil, or_false]
      omega)
     have BOn : Hid (Bx w18 w1.heap.size [.slice a3 (putV b.vs t.ws N1).length c3, .slice (some ⟨g', 0, none⟩) (c.ps.length + 1) cap, .slice a1 n1 c1, .int .i64 N1, .int .i64 c.nx]) := BO.out.kn (Kn.ofG (bs := (match (Value.slice a1 n1 c1).ownBlock with | some g => [g] | none => [])) hg (fun g e => by rw [e]; simp)) (fun hm => by
      cases hob : (Value.slice a1 n1 c1).ownBlock with
      | none => rw [hob] at hm; cases hm
      | some g => rw [hob] at hm; have h1 := HL.out.own.lo g hob; have h2 := List.mem_singleton.1 hm; omega)
     clear ho hg hg2 hlt2 HBK zq hbb HL HK BO o2 x0 x1 x2 x3 x4 x5 x6 x7
     have o2 := BOn.out.c2
     have of2 := BOn.out.fz 2
     have HKf : Hid (Kn [w1.heap.size, w13.heap.size] w14 (w18.setCell ⟨w1.heap.size, 2, none⟩ (.slice (some ⟨g2, 0, none⟩) (F.length + 1) cap2))) := HKn.out.transU (Kn.set w18 (w1.heap.size) 2 (.slice (some ⟨g2, 0, none⟩) (F.length + 1) cap2)) (by intro x hx; simp only [List.mem_cons, List.not_mem_nil, or_false] at hx ⊢; omega)
     have BOf : Hid (Bx (w18.setCell ⟨w1.heap.size, 2, none⟩ (.slice (some ⟨g2, 0, none⟩) (F.length + 1) cap2)) w1.heap.size [.slice a3 (putV b.vs t.ws N1).length c3, .slice (some ⟨g', 0, none⟩) (c.ps.length + 1) cap, .slice (some ⟨g2, 0, none⟩) (F.length + 1) cap2, .int .i64 N1, .int .i64 c.nx]) := BOn.out.set 2 (.slice (some ⟨g2, 0, none⟩) (F.length + 1) cap2)
     have zq : (w18.setCell ⟨w1.heap.size, 2, none⟩ (.slice (some ⟨g2, 0, none⟩) (F.length + 1) cap2)).heap.size = w18.heap.size := by simp [World.setCell]
     have HLf : Hid (Lo (w18.setCell ⟨w1.heap.size, 2, none⟩ (.slice (some ⟨g2, 0, none⟩) (F.length + 1) cap2)) (w13.heap.size) (w18.setCell ⟨w1.heap.size, 2, none⟩ (.slice (some ⟨g2, 0, none⟩) (F.length + 1) cap2)).heap.size (.slice (some ⟨g2, 0, none⟩) (F.length + 1) cap2) (F ++ [(⟨mkO (dnT t N1 o) x.t, ra2, rc2, wa2, wc2⟩ : Ta)])) := (HLn.out.kn (Kn.set w18 (w1.heap.size) 2 (.slice (some ⟨g2, 0, none⟩) (F.length + 1) cap2)) (by intro x hx; simp only [List.mem_cons, List.not_mem_nil, or_false] at hx; omega)).mono (Nat.le_refl _) (by omega)
     have HFLf : Hid (F.length + 1 = (F ++ [(⟨mkO (dnT t N1 o) x.t, ra2, rc2, wa2, wc2⟩ : Ta)]).length) := by show _ = _; simp
     have HFTf : Hid (txs (F ++ [(⟨mkO (dnT t N1 o) x.t, ra2, rc2, wa2, wc2⟩ : Ta)]) = (((txs b.qs).take (k + 1)).filter (otherI t.id)).map (mkO (dnT t N1 o))) := by show _ = _; rw [HN.out, ← HFT2.out]; simp [txs]
     clear HKn BOn HLn zq hln
     go_wp2
     go_roundw
     case rel => exact ⟨k + 1, _, _, _, _, by omega, by go_num, HFLf, HFTf, HLf, BOf, HKf⟩
     case measure => simp [intOf]; omega
    ·have HMO : Hid (mkO (dnT t N1 o) x.t = ⟨x.t.id, x.t.st, x.t.snap, x.t.cs, x.t.rs, x.t.ws, true, x.t.nm⟩) := by show outT _ (x.t.out || ahB x.t (dnT t N1 o)) = _; rw [hh]; rw [Bool.or_true]; rfl
     clear hh
     have x6 := BX.out.c6
     have xf6 := BX.out.fz 6
     go_upto_region 18 with fail
     clear x6 xf6
     have zq : (w17.setCell ⟨w15.heap.size, 6, none⟩ (.bool true)).heap.size = w17.heap.size := by simp [World.setCell]
     have hk : Kn [w15.heap.size] w17 (w17.setCell ⟨w15.heap.size, 6, none⟩ (.bool true)) := Kn.set w17 (w15.heap.size) 6 (.bool true)
     replace BAr : Hid (Bx ((w17.setCell ⟨w15.heap.size, 6, none⟩ (.bool true))) w.heap.size [.slice b.va b.vs.length b.vc, .slice b.pa b.ps.length b.pc, .slice b.qa b.qs.length b.qc, .int .i64 b.cs, .int .i64 b.nx]) := BAr.out.kn (hk) (by intro hm; simp only [List.mem_cons, List.not_mem_nil, or_false] at hm; omega)
     replace BTr : Hid (Bx ((w17.setCell ⟨w15.heap.size, 6, none⟩ (.bool true))) (w.heap.size + 1) [.int .i64 t.id, .int .i64 t.st, .int .i64 t.snap, .int .i64 t.cs, .slice ra t.rs.length rc, .slice wa t.ws.length wc, .bool t.out, .string t.nm]) := BTr.out.kn (hk) (by intro hm; simp only [List.mem_cons, List.not_mem_nil, or_false] at hm; omega)
     replace BDr : Hid (Bx ((w17.setCell ⟨w15.heap.size, 6, none⟩ (.bool true))) (w3.heap.size) [.int .i64 t.id, .int .i64 3, .int .i64 t.snap, .int .i64 N1, .slice ra1 t.rs.length rc1, .slice wa1 t.ws.length wc1, .bool (t.out || o), .string ⟨#[]⟩]) := BDr.out.kn (hk) (by intro hm; simp only [List.mem_cons, List.not_mem_nil, or_false] at hm; omega)
     replace HLr : Hid (TLie ((w17.setCell ⟨w15.heap.size, 6, none⟩ (.bool true))) w2.heap.size w3.heap.size t ra1 rc1 wa1 wc1) := HLr.out.kn (hk) (by intro x hx; simp only [List.mem_cons, List.not_mem_nil, or_false] at hx; omega)
     replace HL : Hid (Lo ((w17.setCell ⟨w15.heap.size, 6, none⟩ (.bool true))) (w13.heap.size) wr.heap.size (.slice a1 n1 c1) F) := HL.out.kn (hk) (by intro x hx; simp only [List.mem_cons, List.not_mem_nil, or_false] at hx; omega)
     replace BO : Hid (Bx ((w17.setCell ⟨w15.heap.size, 6, none⟩ (.bool true))) w1.heap.size [.slice a3 (putV b.vs t.ws N1).length c3, .slice (some ⟨g', 0, none⟩) (c.ps.length + 1) cap, .slice a1 n1 c1, .int .i64 N1, .int .i64 c.nx]) := BO.out.kn (hk) (by intro hm; simp only [List.mem_cons, List.not_mem_nil, or_false] at hm; omega)
     replace HT2 : Hid (TLie ((w17.setCell ⟨w15.heap.size, 6, none⟩ (.bool true))) wr.heap.size w15.heap.size x.t ra2 rc2 wa2 wc2) := HT2.out.kn (hk) (by intro x hx; simp only [List.mem_cons, List.not_mem_nil, or_false] at hx; omega)
     replace BX : Hid (Bx ((w17.setCell ⟨w15.heap.size, 6, none⟩ (.bool true))) w15.heap.size [.int .i64 x.t.id, .int .i64 x.t.st, .int .i64 x.t.snap, .int .i64 x.t.cs, .slice ra2 x.t.rs.length rc2, .slice wa2 x.t.ws.length wc2, .bool true, .string x.t.nm]) := BX.out.set 6 (.bool true)
     replace HK : Hid (Kn [w1.heap.size, w13.heap.size] w14 ((w17.setCell ⟨w15.heap.size, 6, none⟩ (.bool true)))) := HK.out.transU hk (by intro x hx; simp only [List.mem_cons, List.not_mem_nil, or_false] at hx ⊢; omega)
     clear hk
     generalize (w17.setCell ⟨w15.heap.size, 6, none⟩ (.bool true)) = w18 at *
     have z18 : w17.heap.size ≤ w18.heap.size := Nat.le_of_eq zq.symm
     have y18 : w18.heap.size ≤ w17.heap.size := Nat.le_of_eq zq
     clear zq
     have o2 := BO.out.c2
     have x0 := BX.out.c0
     have x1 := BX.out.c1
     have x2 := BX.out.c2
     have x3 := BX.out.c3
     have x4 := BX.out.c4
     have x5 := BX.out.c5
     have x6 := BX.out.c6
     have x7 := BX.out.c7
     have HBK : Hid ((w18.alloc (.cells #[.int .i64 x.t.id, .int .i64 x.t.st, .int .i64 x.t.snap, .int .i64 x.t.cs, .slice ra2 x.t.rs.length rc2, .slice wa2 x.t.ws.length wc2, .bool true, .string x.t.nm] 62)).heap[w18.heap.size]? = some (.cells (encT.enc (⟨mkO (dnT t N1 o) x.t, ra2, rc2, wa2, wc2⟩ : Ta)).toArray 62 (0, 0))) := by
      have h := heap_alloc_new w18 (.cells #[.int .i64 x.t.id, .int .i64 x.t.st, .int .i64 x.t.snap, .int .i64 x.t.cs, .slice ra2 x.t.rs.length rc2, .slice wa2 x.t.ws.length wc2, .bool true, .string x.t.nm] 62)
      show _ = some (Obj.cells (#[.int .i64 (mkO (dnT t N1 o) x.t).id, .int .i64 (mkO (dnT t N1 o) x.t).st, .int .i64 (mkO (dnT t N1 o) x.t).snap, .int .i64 (mkO (dnT t N1 o) x.t).cs, .slice ra2 (mkO (dnT t N1 o) x.t).rs.length rc2, .slice wa2 (mkO (dnT t N1 o) x.t).ws.length wc2, .bool (mkO (dnT t N1 o) x.t).out, .string (mkO (dnT t N1 o) x.t).nm]) 62 (0, 0))
      rw [HMO.out]
      exact h
     have hba : Below w18.heap.size w18 (w18.alloc (.cells #[.int .i64 x.t.id, .int .i64 x.t.st, .int .i64 x.t.snap, .int .i64 x.t.cs, .slice ra2 x.t.rs.length rc2, .slice wa2 x.t.ws.length wc2, .bool true, .string x.t.nm] 62)) := (belowRefl w18).alloc (Nat.le_refl _) _
     have zq : (w18.alloc (.cells #[.int .i64 x.t.id, .int .i64 x.t.st, .int .i64 x.t.snap, .int .i64 x.t.cs, .slice ra2 x.t.rs.length rc2, .slice wa2 x.t.ws.length wc2, .bool true, .string x.t.nm] 62)).heap.size = w18.heap.size + 1 := World.size_alloc _ _
     replace BAr : Hid (Bx ((w18.alloc (.cells #[.int .i64 x.t.id, .int .i64 x.t.st, .int .i64 x.t.snap, .int .i64 x.t.cs, .slice ra2 x.t.rs.length rc2, .slice wa2 x.t.ws.length wc2, .bool true, .string x.t.nm] 62))) w.heap.size [.slice b.va b.vs.length b.vc, .slice b.pa b.ps.length b.pc, .slice b.qa b.qs.length b.qc, .int .i64 b.cs, .int .i64 b.nx]) := BAr.out.below hba
     replace BTr : Hid (Bx ((w18.alloc (.cells #[.int .i64 x.t.id, .int .i64 x.t.st, .int .i64 x.t.snap, .int .i64 x.t.cs, .slice ra2 x.t.rs.length rc2, .slice wa2 x.t.ws.length wc2, .bool true, .string x.t.nm] 62))) (w.heap.size + 1) [.int .i64 t.id, .int .i64 t.st, .int .i64 t.snap, .int .i64 t.cs, .slice ra t.rs.length rc, .slice wa t.ws.length wc, .bool t.out, .string t.nm]) := BTr.out.below hba
     replace BDr : Hid (Bx ((w18.alloc (.cells #[.int .i64 x.t.id, .int .i64 x.t.st, .int .i64 x.t.snap, .int .i64 x.t.cs, .slice ra2 x.t.rs.length rc2, .slice wa2 x.t.ws.length wc2, .bool true, .string x.t.nm] 62))) (w3.heap.size) [.int .i64 t.id, .int .i64 3, .int .i64 t.snap, .int .i64 N1, .slice ra1 t.rs.length rc1, .slice wa1 t.ws.length wc1, .bool (t.out || o), .string ⟨#[]⟩]) := BDr.out.below hba
     replace HLr : Hid (TLie ((w18.alloc (.cells #[.int .i64 x.t.id, .int .i64 x.t.st, .int .i64 x.t.snap, .int .i64 x.t.cs, .slice ra2 x.t.rs.length rc2, .slice wa2 x.t.ws.length wc2, .bool true, .string x.t.nm] 62))) w2.heap.size w3.heap.size t ra1 rc1 wa1 wc1) := HLr.out.below hba
     replace HL : Hid (Lo ((w18.alloc (.cells #[.int .i64 x.t.id, .int .i64 x.t.st, .int .i64 x.t.snap, .int .i64 x.t.cs, .slice ra2 x.t.rs.length rc2, .slice wa2 x.t.ws.length wc2, .bool true, .string x.t.nm] 62))) (w13.heap.size) wr.heap.size (.slice a1 n1 c1) F) := HL.out.below hba
     replace BO : Hid (Bx ((w18.alloc (.cells #[.int .i64 x.t.id, .int .i64 x.t.st, .int .i64 x.t.snap, .int .i64 x.t.cs, .slice ra2 x.t.rs.length rc2, .slice wa2 x.t.ws.length wc2, .bool true, .string x.t.nm] 62))) w1.heap.size [.slice a3 (putV b.vs t.ws N1).length c3, .slice (some ⟨g', 0, none⟩) (c.ps.length + 1) cap, .slice a1 n1 c1, .int .i64 N1, .int .i64 c.nx]) := BO.out.below hba
     replace HT2 : Hid (TLie ((w18.alloc (.cells #[.int .i64 x.t.id, .int .i64 x.t.st, .int .i64 x.t.snap, .int .i64 x.t.cs, .slice ra2 x.t.rs.length rc2, .slice wa2 x.t.ws.length wc2, .bool true, .string x.t.nm] 62))) wr.heap.size w15.heap.size x.t ra2 rc2 wa2 wc2) := HT2.out.below hba
     replace BX : Hid (Bx ((w18.alloc (.cells #[.int .i64 x.t.id, .int .i64 x.t.st, .int .i64 x.t.snap, .int .i64 x.t.cs, .slice ra2 x.t.rs.length rc2, .slice wa2 x.t.ws.length wc2, .bool true, .string x.t.nm] 62))) w15.heap.size [.int .i64 x.t.id, .int .i64 x.t.st, .int .i64 x.t.snap, .int .i64 x.t.cs, .slice ra2 x.t.rs.length rc2, .slice wa2 x.t.ws.length wc2, .bool true, .string x.t.nm]) := BX.out.below hba
     replace HK : Hid (Kn [w1.heap.size, w13.heap.size] w14 ((w18.alloc (.cells #[.int .i64 x.t.id, .int .i64 x.t.st, .int .i64 x.t.snap, .int .i64 x.t.cs, .slice ra2 x.t.rs.length rc2, .slice wa2 x.t.ws.length wc2, .bool true, .string x.t.nm] 62)))) := HK.out.trans (Kn.ofBelow hba)
     clear hba
     have hbb : w13.heap.size ≤ (w18.alloc (.cells #[.int .i64 x.t.id, .int .i64 x.t.st, .int .i64 x.t.snap, .int .i64 x.t.cs, .slice ra2 x.t.rs.length rc2, .slice wa2 x.t.ws.length wc2, .bool true, .string x.t.nm] 62)).heap.size := by omega
     go_wp2_with (at_builtin; refine wpAppK (E := encT) 40 62 104 _ Tryz.underlying40 Tryz.info62 rfl (by omega) rfl _ _ rfl (v := .slice a1 n1 c1) (⟨mkO (dnT t N1 o) x.t, ra2, rc2, wa2, wc2⟩ : Ta) tone rfl HL.out.own.own rfl HBK.out hln hbb ?_)
     intro g2 cap2 w19 ho hg hg2 hlt2
     have z19 : w18.heap.size + 1 ≤ w19.heap.size := by have := hg.size; omega
     have HLn : Hid (Lo w19 (w13.heap.size) w19.heap.size (.slice (some ⟨g2, 0, none⟩) (F.length + 1) cap2) (F ++ [(⟨mkO (dnT t N1 o) x.t, ra2, rc2, wa2, wc2⟩ : Ta)])) := Lo.push HL.out (HT2.out.as (u := mkO (dnT t N1 o) x.t) rfl rfl) (by omega) (by omega) (by omega) ho hg
     have HKn : Hid (Kn [w1.heap.size, w13.heap.size] w14 w19) := HK.out.transG hg (fun g e => by
      have h1 := HL.out.own.lo g e
      simp only [List.mem_cons, List.not_mem_nil, or_false]
      omega)
     have BOn : Hid (Bx w19 w1.heap.size [.slice a3 (putV b.vs t.ws N1).length c3, .slice (some ⟨g', 0, none⟩) (c.ps.length + 1) cap, .slice a1 n1 c1, .int .i64 N1, .int .i64 c.nx]) := BO.out.kn (Kn.ofG (bs := (match (Value.slice a1 n1 c1).ownBlock with | some g => [g] | none => [])) hg (fun g e => by rw [e]; simp)) (fun hm => by
      cases hob : (Value.slice a1 n1 c1).ownBlock with
      | none => rw [hob] at hm; cases hm
      | some g => rw [hob] at hm; have h1 := HL.out.own.lo g hob; have h2 := List.mem_singleton.1 hm; omega)
     clear ho hg hg2 hlt2 HBK zq hbb HL HK BO o2 x0 x1 x2 x3 x4 x5 x6 x7
     have o2 := BOn.out.c2
     have of2 := BOn.out.fz 2
     have HKf : Hid (Kn [w1.heap.size, w13.heap.size] w14 (w19.setCell ⟨w1.heap.size, 2, none⟩ (.slice (some ⟨g2, 0, none⟩) (F.length + 1) cap2))) := HKn.out.transU (Kn.set w19 (w1.heap.size) 2 (.slice (some ⟨g2, 0, none⟩) (F.length + 1) cap2)) (by intro x hx; simp only [List.mem_cons, List.not_mem_nil, or_false] at hx ⊢; omega)
     have BOf : Hid (Bx (w19.setCell ⟨w1.heap.size, 2, none⟩ (.slice (some ⟨g2, 0, none⟩) (F.length + 1) cap2)) w1.heap.size [.slice a3 (putV b.vs t.ws N1).length c3, .slice (some ⟨g', 0, none⟩) (c.ps.length + 1) cap, .slice (some ⟨g2, 0, none⟩) (F.length + 1) cap2, .int .i64 N1, .int .i64 c.nx]) := BOn.out.set 2 (.slice (some ⟨g2, 0, none⟩) (F.length + 1) cap2)
     have zq : (w19.setCell ⟨w1.heap.size, 2, none⟩ (.slice (some ⟨g2, 0, none⟩) (F.length + 1) cap2)).heap.size = w19.heap.size := by simp [World.setCell]
     have HLf : Hid (Lo (w19.setCell ⟨w1.heap.size, 2, none⟩ (.slice (some ⟨g2, 0, none⟩) (F.length + 1) cap2)) (w13.heap.size) (w19.setCell ⟨w1.heap.size, 2, none⟩ (.slice (some ⟨g2, 0, none⟩) (F.length + 1) cap2)).heap.size (.slice (some ⟨g2, 0, none⟩) (F.length + 1) cap2) (F ++ [(⟨mkO (dnT t N1 o) x.t, ra2, rc2, wa2, wc2⟩ : Ta)])) := (HLn.out.kn (Kn.set w19 (w1.heap.size) 2 (.slice (some ⟨g2, 0, none⟩) (F.length + 1) cap2)) (by intro x hx; simp only [List.mem_cons, List.not_mem_nil, or_false] at hx; omega)).mono (Nat.le_refl _) (by omega)
     have HFLf : Hid (F.length + 1 = (F ++ [(⟨mkO (dnT t N1 o) x.t, ra2, rc2, wa2, wc2⟩ : Ta)]).length) := by show _ = _; simp
     have HFTf : Hid (txs (F ++ [(⟨mkO (dnT t N1 o) x.t, ra2, rc2, wa2, wc2⟩ : Ta)]) = (((txs b.qs).take (k + 1)).filter (otherI t.id)).map (mkO (dnT t N1 o))) := by show _ = _; rw [HN.out, ← HFT2.out]; simp [txs]
     clear HKn BOn HLn zq hln
     go_wp2
     go_roundw
     case rel => exact ⟨k + 1, _, _, _, _, by omega, by go_num, HFLf, HFTf, HLf, BOf, HKf⟩
     case measure => simp [intOf]; omega
  ·have hd : ¬ (k : Int) < (b.qs.length : Int) := by omega
   have HE : Hid (txs F = ((txs b.qs).filter (otherI t.id)).map (mkO (dnT t N1 o))) := by show _ = _; rw [HFT2.out, List.take_of_length_le (by rw [txs_len]; omega)]
   clear HFT2
   have z_ := zr
   replace BA : Hid (Bx wr w.heap.size [.slice b.va b.vs.length b.vc, .slice b.pa b.ps.length b.pc, .slice b.qa b.qs.length b.qc, .int .i64 b.cs, .int .i64 b.nx]) := BA.out.kn (HK.out) (by intro hm; simp only [List.mem_cons, List.not_mem_nil, or_false] at hm; omega)
   replace BT : Hid (Bx wr (w.heap.size + 1) [.int .i64 t.id, .int .i64 t.st, .int .i64 t.snap, .int .i64 t.cs, .slice ra t.rs.length rc, .slice wa t.ws.length wc, .bool t.out, .string t.nm]) := BT.out.kn (HK.out) (by intro hm; simp only [List.mem_cons, List.not_mem_nil, or_false] at hm; omega)
   replace BR : Hid (Bx wr (w.heap.size + 1 + 1) [.slice none 0 0, .slice none 0 0, .slice none 0 0, .int .i64 0, .int .i64 0]) := BR.out.kn (HK.out) (by intro hm; simp only [List.mem_cons, List.not_mem_nil, or_false] at hm; omega)
   replace HB : Hid (Below w.heap.size w wr) := HB.out.trans ((HK.out).below (by have := HB.out.size; omega) (by intro x hx; simp only [List.mem_cons, List.not_mem_nil, or_false] at hx; omega))
   replace HL1 : Hid (TLie wr w2.heap.size w3.heap.size t ra1 rc1 wa1 wc1) := HL1.out.kn (HK.out) (by intro x hx; simp only [List.mem_cons, List.not_mem_nil, or_false] at hx; omega)
   replace BD : Hid (Bx wr w3.heap.size [.int .i64 t.id, .int .i64 3, .int .i64 t.snap, .int .i64 N1, .slice ra1 t.rs.length rc1, .slice wa1 t.ws.length wc1, .bool (t.out || o), .string ⟨#[]⟩]) := BD.out.kn (HK.out) (by intro hm; simp only [List.mem_cons, List.not_mem_nil, or_false] at hm; omega)
   replace HV : Hid (Lies encV 150 wr w9.heap.size w10.heap.size (.slice a3 (putV b.vs t.ws N1).length c3) (putV b.vs t.ws N1)) := HV.out.kn (HK.out) (by intro x hx; simp only [List.mem_cons, List.not_mem_nil, or_false] at hx; omega)
   replace HPw : Hid (GOwn encT 62 wr m1 (.slice (some ⟨g', 0, none⟩) (c.ps.length + 1) cap) (c.ps ++ [(⟨(dnT t N1 o), ra1, rc1, wa1, wc1⟩ : Ta)])) := own_kn HPw.out (HK.out) (fun g e hm => by have e' : g' = g := Option.some.inj e; simp only [List.mem_cons, List.not_mem_nil, or_false] at hm; omega)
   replace HPe : Hid (Ea wr m1 m2 c.ps) := HPe.out.kn (HK.out) (by intro x hx; simp only [List.mem_cons, List.not_mem_nil, or_false] at hx; omega)
   have x2 := BA.out.c2
   go_upto_region 19 with fail
   clear x2
   have x0 := BT.out.c0
   have o4 := BO.out.c4
   by_cases hnx : c.nx ≤ t.id
   ·have hnd : decide (c.nx ≤ t.id) = true := decide_eq_true hnx
    clear hnx
    go_upto_region 20 with fail
    clear hnd
    have q4 := BO.out.c4
    have qf4 := BO.out.fz 4
    go_upto_region 21 with fail
    clear x0 o4 q4 qf4
    have zq : (wr.setCell ⟨w1.heap.size, 4, none⟩ (.int .i64 N2)).heap.size = wr.heap.size := by simp [World.setCell]
    have hk : Kn [w1.heap.size] wr (wr.setCell ⟨w1.heap.size, 4, none⟩ (.int .i64 N2)) := Kn.set wr (w1.heap.size) 4 (.int .i64 N2)
    replace BA : Hid (Bx ((wr.setCell ⟨w1.heap.size, 4, none⟩ (.int .i64 N2))) w.heap.size [.slice b.va b.vs.length b.vc, .slice b.pa b.ps.length b.pc, .slice b.qa b.qs.length b.qc, .int .i64 b.cs, .int .i64 b.nx]) := BA.out.kn (hk) (by intro hm; simp only [List.mem_cons, List.not_mem_nil, or_false] at hm; omega)
    replace BT : Hid (Bx ((wr.setCell ⟨w1.heap.size, 4, none⟩ (.int .i64 N2))) (w.heap.size + 1) [.int .i64 t.id, .int .i64 t.st, .int .i64 t.snap, .int .i64 t.cs, .slice ra t.rs.length rc, .slice wa t.ws.length wc, .bool t.out, .string t.nm]) := BT.out.kn (hk) (by intro hm; simp only [List.mem_cons, List.not_mem_nil, or_false] at hm; omega)
    replace BR : Hid (Bx ((wr.setCell ⟨w1.heap.size, 4, none⟩ (.int .i64 N2))) (w.heap.size + 1 + 1) [.slice none 0 0, .slice none 0 0, .slice none 0 0, .int .i64 0, .int .i64 0]) := BR.out.kn (hk) (by intro hm; simp only [List.mem_cons, List.not_mem_nil, or_false] at hm; omega)
    replace HB : Hid (Below w.heap.size w ((wr.setCell ⟨w1.heap.size, 4, none⟩ (.int .i64 N2)))) := HB.out.trans ((hk).below (by have := HB.out.size; omega) (by intro x hx; simp only [List.mem_cons, List.not_mem_nil, or_false] at hx; omega))
    replace HL1 : Hid (TLie ((wr.setCell ⟨w1.heap.size, 4, none⟩ (.int .i64 N2))) w2.heap.size w3.heap.size t ra1 rc1 wa1 wc1) := HL1.out.kn (hk) (by intro x hx; simp only [List.mem_cons, List.not_mem_nil, or_false] at hx; omega)
    replace BD : Hid (Bx ((wr.setCell ⟨w1.heap.size, 4, none⟩ (.int .i64 N2))) w3.heap.size [.int .i64 t.id, .int .i64 3, .int .i64 t.snap, .int .i64 N1, .slice ra1 t.rs.length rc1, .slice wa1 t.ws.length wc1, .bool (t.out || o), .string ⟨#[]⟩]) := BD.out.kn (hk) (by intro hm; simp only [List.mem_cons, List.not_mem_nil, or_false] at hm; omega)
    replace HV : Hid (Lies encV 150 ((wr.setCell ⟨w1.heap.size, 4, none⟩ (.int .i64 N2))) w9.heap.size w10.heap.size (.slice a3 (putV b.vs t.ws N1).length c3) (putV b.vs t.ws N1)) := HV.out.kn (hk) (by intro x hx; simp only [List.mem_cons, List.not_mem_nil, or_false] at hx; omega)
    replace HPw : Hid (GOwn encT 62 ((wr.setCell ⟨w1.heap.size, 4, none⟩ (.int .i64 N2))) m1 (.slice (some ⟨g', 0, none⟩) (c.ps.length + 1) cap) (c.ps ++ [(⟨(dnT t N1 o), ra1, rc1, wa1, wc1⟩ : Ta)])) := own_kn HPw.out (hk) (fun g e hm => by have e' : g' = g := Option.some.inj e; simp only [List.mem_cons, List.not_mem_nil, or_false] at hm; omega)
    replace HPe : Hid (Ea ((wr.setCell ⟨w1.heap.size, 4, none⟩ (.int .i64 N2))) m1 m2 c.ps) := HPe.out.kn (hk) (by intro x hx; simp only [List.mem_cons, List.not_mem_nil, or_false] at hx; omega)
    replace BO : Hid (Bx ((wr.setCell ⟨w1.heap.size, 4, none⟩ (.int .i64 N2))) w1.heap.size [.slice a3 (putV b.vs t.ws N1).length c3, .slice (some ⟨g', 0, none⟩) (c.ps.length + 1) cap, .slice a1 n1 c1, .int .i64 N1, .int .i64 N2]) := BO.out.set 4 (.int .i64 N2)
    replace HL : Hid (Lo ((wr.setCell ⟨w1.heap.size, 4, none⟩ (.int .i64 N2))) (w13.heap.size) wr.heap.size (.slice a1 n1 c1) F) := HL.out.kn (hk) (by intro x hx; simp only [List.mem_cons, List.not_mem_nil, or_false] at hx; omega)
    clear hk
    generalize (wr.setCell ⟨w1.heap.size, 4, none⟩ (.int .i64 N2)) = w15 at *
    have z15 : wr.heap.size ≤ w15.heap.size := Nat.le_of_eq zq.symm
    have y15 : w15.heap.size ≤ wr.heap.size := Nat.le_of_eq zq
    clear zq
    have o0 := BO.out.c0
    have o1 := BO.out.c1
    have o2 := BO.out.c2
    have o3 := BO.out.c3
    have o4 := BO.out.c4
    have z0 := BR.out.c0
    have zf0 := BR.out.fz 0
    have z1 := BR.out.c1
    have zf1 := BR.out.fz 1
    have z2 := BR.out.c2
    have zf2 := BR.out.fz 2
    have z3 := BR.out.c3
    have zf3 := BR.out.fz 3
    have z4 := BR.out.c4
    have zf4 := BR.out.fz 4
    have hk : Kn [w.heap.size + 1 + 1] w15 (((((w15.setCell ⟨w.heap.size + 1 + 1, 0, none⟩ (.slice a3 (putV b.vs t.ws N1).length c3)).setCell ⟨w.heap.size + 1 + 1, 1, none⟩ (.slice (some ⟨g', 0, none⟩) (c.ps.length + 1) cap)).setCell ⟨w.heap.size + 1 + 1, 2, none⟩ (.slice a1 n1 c1)).setCell ⟨w.heap.size + 1 + 1, 3, none⟩ (.int .i64 N1)).setCell ⟨w.heap.size + 1 + 1, 4, none⟩ (.int .i64 N2)) := kn_s5 w15 (w.heap.size + 1 + 1) (.slice a3 (putV b.vs t.ws N1).length c3) (.slice (some ⟨g', 0, none⟩) (c.ps.length + 1) cap) (.slice a1 n1 c1) (.int .i64 N1) (.int .i64 N2)
    have zq : (((((w15.setCell ⟨w.heap.size + 1 + 1, 0, none⟩ (.slice a3 (putV b.vs t.ws N1).length c3)).setCell ⟨w.heap.size + 1 + 1, 1, none⟩ (.slice (some ⟨g', 0, none⟩) (c.ps.length + 1) cap)).setCell ⟨w.heap.size + 1 + 1, 2, none⟩ (.slice a1 n1 c1)).setCell ⟨w.heap.size + 1 + 1, 3, none⟩ (.int .i64 N1)).setCell ⟨w.heap.size + 1 + 1, 4, none⟩ (.int .i64 N2)).heap.size = w15.heap.size := by simp [World.setCell]
    have HBf : Hid (Below w.heap.size w (((((w15.setCell ⟨w.heap.size + 1 + 1, 0, none⟩ (.slice a3 (putV b.vs t.ws N1).length c3)).setCell ⟨w.heap.size + 1 + 1, 1, none⟩ (.slice (some ⟨g', 0, none⟩) (c.ps.length + 1) cap)).setCell ⟨w.heap.size + 1 + 1, 2, none⟩ (.slice a1 n1 c1)).setCell ⟨w.heap.size + 1 + 1, 3, none⟩ (.int .i64 N1)).setCell ⟨w.heap.size + 1 + 1, 4, none⟩ (.int .i64 N2))) := HB.out.trans (hk.below HB.out.size (by intro x hx; simp only [List.mem_cons, List.not_mem_nil, or_false] at hx; omega))
    have HVf := hide (HV.out.kn hk (by intro x hx; simp only [List.mem_cons, List.not_mem_nil, or_false] at hx; omega))
    have HPf : Hid (GOwn encT 62 (((((w15.setCell ⟨w.heap.size + 1 + 1, 0, none⟩ (.slice a3 (putV b.vs t.ws N1).length c3)).setCell ⟨w.heap.size + 1 + 1, 1, none⟩ (.slice (some ⟨g', 0, none⟩) (c.ps.length + 1) cap)).setCell ⟨w.heap.size + 1 + 1, 2, none⟩ (.slice a1 n1 c1)).setCell ⟨w.heap.size + 1 + 1, 3, none⟩ (.int .i64 N1)).setCell ⟨w.heap.size + 1 + 1, 4, none⟩ (.int .i64 N2)) m1 (.slice (some ⟨g', 0, none⟩) (c.ps.length + 1) cap) (c.ps ++ [(⟨(dnT t N1 o), ra1, rc1, wa1, wc1⟩ : Ta)])) := own_kn HPw.out hk (fun g e hm => by have e' : g' = g := Option.some.inj e; simp only [List.mem_cons, List.not_mem_nil, or_false] at hm; omega)
    have HPg := hide (HPe.out.kn hk (by intro x hx; simp only [List.mem_cons, List.not_mem_nil, or_false] at hx; omega))
    have HLg := hide (HL1.out.kn hk (by intro x hx; simp only [List.mem_cons, List.not_mem_nil, or_false] at hx; omega))
    have HQf := hide (HL.out.kn hk (by intro x hx; simp only [List.mem_cons, List.not_mem_nil, or_false] at hx; omega))
    have HD : Hid (Bo (((((w15.setCell ⟨w.heap.size + 1 + 1, 0, none⟩ (.slice a3 (putV b.vs t.ws N1).length c3)).setCell ⟨w.heap.size + 1 + 1, 1, none⟩ (.slice (some ⟨g', 0, none⟩) (c.ps.length + 1) cap)).setCell ⟨w.heap.size + 1 + 1, 2, none⟩ (.slice a1 n1 c1)).setCell ⟨w.heap.size + 1 + 1, 3, none⟩ (.int .i64 N1)).setCell ⟨w.heap.size + 1 + 1, 4, none⟩ (.int .i64 N2)) w.heap.size (((((w15.setCell ⟨w.heap.size + 1 + 1, 0, none⟩ (.slice a3 (putV b.vs t.ws N1).length c3)).setCell ⟨w.heap.size + 1 + 1, 1, none⟩ (.slice (some ⟨g', 0, none⟩) (c.ps.length + 1) cap)).setCell ⟨w.heap.size + 1 + 1, 2, none⟩ (.slice a1 n1 c1)).setCell ⟨w.heap.size + 1 + 1, 3, none⟩ (.int .i64 N1)).setCell ⟨w.heap.size + 1 + 1, 4, none⟩ (.int .i64 N2)).heap.size ⟨putV b.vs t.ws N1, c.ps ++ [(⟨(dnT t N1 o), ra1, rc1, wa1, wc1⟩ : Ta)], F, N1, N2, a3, c3, some ⟨g', 0, none⟩, cap, a1, c1⟩) := by
     refine ⟨HVf.out.mono (by omega) (by omega), ?_, ?_⟩
     ·show Lo _ _ _ (.slice (some ⟨g', 0, none⟩) (c.ps ++ [(⟨(dnT t N1 o), ra1, rc1, wa1, wc1⟩ : Ta)]).length cap) _
      rw [List.length_append]
      exact ⟨(Lies.of HPf.out).mono (by omega) (Nat.le_refl _), (HPg.out.mono (by omega) (by omega)).snoc (by omega) (by omega) (HLg.out.as (u := (dnT t N1 o)) rfl rfl)⟩
     ·show Lo _ _ _ (.slice a1 F.length c1) _
      rw [← HFL.out]
      exact HQf.out.mono (by omega) (by omega)
    have HW : Hid (ThrA b t ⟨putV b.vs t.ws N1, c.ps ++ [(⟨(dnT t N1 o), ra1, rc1, wa1, wc1⟩ : Ta)], F, N1, N2, a3, c3, some ⟨g', 0, none⟩, cap, a1, c1⟩) := by
     refine ⟨Nat.le_of_eq (put_len _ _ _), ?_, ?_, ?_⟩
     ·intro v hv
      rcases mem_put.1 hv with hv | ⟨y, hy, rfl⟩
      ·exact HF.out.vf v hv
      ·exact HFT.out.2.2.2.1 y hy
     ·show (c.ps ++ [(⟨(dnT t N1 o), ra1, rc1, wa1, wc1⟩ : Ta)]).length = _ ∧ _
      rw [List.length_append, HSM.out.pl]
      refine ⟨rfl, fun x hx => ?_⟩
      rcases List.mem_append.1 hx with h | h
      ·have h2 : x.t ∈ txs b.ps := HSM.out.p ▸ List.mem_map.2 ⟨x, h, rfl⟩
       exact HF.out.p.2 _ h2
      ·rw [List.mem_singleton.1 h]
       exact fit_dn HFT.out
     ·have h4 : F.length = _ := (txs_len F).symm.trans (congrArg List.length HE.out)
      refine ⟨?_, fun x hx => ?_⟩
      ·show F.length ≤ _
       rw [h4, List.length_map]
       exact Nat.le_trans (List.length_filter_le _ _) (Nat.le_of_eq (txs_len _))
      ·have h2 : x.t ∈ txs F := List.mem_map.2 ⟨x, hx, rfl⟩
       rw [HE.out] at h2
       obtain ⟨y, hy, e⟩ := List.mem_map.1 h2
       rw [← e]
       have h3 : TFit y := HF.out.q.2 _ (List.mem_filter.1 hy).1
       exact ⟨h3.1, h3.2.1, h3.2.2.1, h3.2.2.2.1, h3.2.2.2.2⟩
    have HRT : Hid (Ending.returned (.agg #[.slice a3 (putV b.vs t.ws N1).length c3, .slice (some ⟨g', 0, none⟩) (c.ps.length + 1) cap, .slice a1 n1 c1, .int .i64 N1, .int .i64 N2]) = Ending.returned (.agg #[.slice a3 (putV b.vs t.ws N1).length c3, .slice (some ⟨g', 0, none⟩) (c.ps ++ [(⟨(dnT t N1 o), ra1, rc1, wa1, wc1⟩ : Ta)]).length cap, .slice a1 F.length c1, .int .i64 N1, .int .i64 N2])) := by
     show _ = _
     rw [HFL.out, List.length_append]
     rfl
    clear hk zq HB HV HPw HPe HL HVf HPf HPg HLg HQf HFL HE
    go_wp2
    refine bodyPost_ret (v := .agg #[.slice a3 (putV b.vs t.ws N1).length c3, .slice (some ⟨g', 0, none⟩) (c.ps.length + 1) cap, .slice a1 n1 c1, .int .i64 N1, .int .i64 N2]) (by simp [results, Tryz.results29, go_sem, z0, z1, z2, z3, z4]) rfl ⟨⟨putV b.vs t.ws N1, c.ps ++ [(⟨(dnT t N1 o), ra1, rc1, wa1, wc1⟩ : Ta)], F, N1, N2, a3, c3, some ⟨g', 0, none⟩, cap, a1, c1⟩, HRT.out, HW.out, HD.out, HBf.out⟩
   ·have hnd : decide (c.nx ≤ t.id) = false := decide_eq_false hnx
    clear hnx
    go_upto_region 21 with fail
    clear hnd x0 o4
    have o0 := BO.out.c0
    have o1 := BO.out.c1
    have o2 := BO.out.c2
    have o3 := BO.out.c3
    have o4 := BO.out.c4
    have z0 := BR.out.c0
    have zf0 := BR.out.fz 0
    have z1 := BR.out.c1
    have zf1 := BR.out.fz 1
    have z2 := BR.out.c2
    have zf2 := BR.out.fz 2
    have z3 := BR.out.c3
    have zf3 := BR.out.fz 3
    have z4 := BR.out.c4
    have zf4 := BR.out.fz 4
    have hk : Kn [w.heap.size + 1 + 1] wr (((((wr.setCell ⟨w.heap.size + 1 + 1, 0, none⟩ (.slice a3 (putV b.vs t.ws N1).length c3)).setCell ⟨w.heap.size + 1 + 1, 1, none⟩ (.slice (some ⟨g', 0, none⟩) (c.ps.length + 1) cap)).setCell ⟨w.heap.size + 1 + 1, 2, none⟩ (.slice a1 n1 c1)).setCell ⟨w.heap.size + 1 + 1, 3, none⟩ (.int .i64 N1)).setCell ⟨w.heap.size + 1 + 1, 4, none⟩ (.int .i64 c.nx)) := kn_s5 wr (w.heap.size + 1 + 1) (.slice a3 (putV b.vs t.ws N1).length c3) (.slice (some ⟨g', 0, none⟩) (c.ps.length + 1) cap) (.slice a1 n1 c1) (.int .i64 N1) (.int .i64 c.nx)
    have zq : (((((wr.setCell ⟨w.heap.size + 1 + 1, 0, none⟩ (.slice a3 (putV b.vs t.ws N1).length c3)).setCell ⟨w.heap.size + 1 + 1, 1, none⟩ (.slice (some ⟨g', 0, none⟩) (c.ps.length + 1) cap)).setCell ⟨w.heap.size + 1 + 1, 2, none⟩ (.slice a1 n1 c1)).setCell ⟨w.heap.size + 1 + 1, 3, none⟩ (.int .i64 N1)).setCell ⟨w.heap.size + 1 + 1, 4, none⟩ (.int .i64 c.nx)).heap.size = wr.heap.size := by simp [World.setCell]
    have HBf : Hid (Below w.heap.size w (((((wr.setCell ⟨w.heap.size + 1 + 1, 0, none⟩ (.slice a3 (putV b.vs t.ws N1).length c3)).setCell ⟨w.heap.size + 1 + 1, 1, none⟩ (.slice (some ⟨g', 0, none⟩) (c.ps.length + 1) cap)).setCell ⟨w.heap.size + 1 + 1, 2, none⟩ (.slice a1 n1 c1)).setCell ⟨w.heap.size + 1 + 1, 3, none⟩ (.int .i64 N1)).setCell ⟨w.heap.size + 1 + 1, 4, none⟩ (.int .i64 c.nx))) := HB.out.trans (hk.below HB.out.size (by intro x hx; simp only [List.mem_cons, List.not_mem_nil, or_false] at hx; omega))
    have HVf := hide (HV.out.kn hk (by intro x hx; simp only [List.mem_cons, List.not_mem_nil, or_false] at hx; omega))
    have HPf : Hid (GOwn encT 62 (((((wr.setCell ⟨w.heap.size + 1 + 1, 0, none⟩ (.slice a3 (putV b.vs t.ws N1).length c3)).setCell ⟨w.heap.size + 1 + 1, 1, none⟩ (.slice (some ⟨g', 0, none⟩) (c.ps.length + 1) cap)).setCell ⟨w.heap.size + 1 + 1, 2, none⟩ (.slice a1 n1 c1)).setCell ⟨w.heap.size + 1 + 1, 3, none⟩ (.int .i64 N1)).setCell ⟨w.heap.size + 1 + 1, 4, none⟩ (.int .i64 c.nx)) m1 (.slice (some ⟨g', 0, none⟩) (c.ps.length + 1) cap) (c.ps ++ [(⟨(dnT t N1 o), ra1, rc1, wa1, wc1⟩ : Ta)])) := own_kn HPw.out hk (fun g e hm => by have e' : g' = g := Option.some.inj e; simp only [List.mem_cons, List.not_mem_nil, or_false] at hm; omega)
    have HPg := hide (HPe.out.kn hk (by intro x hx; simp only [List.mem_cons, List.not_mem_nil, or_false] at hx; omega))
    have HLg := hide (HL1.out.kn hk (by intro x hx; simp only [List.mem_cons, List.not_mem_nil, or_false] at hx; omega))
    have HQf := hide (HL.out.kn hk (by intro x hx; simp only [List.mem_cons, List.not_mem_nil, or_false] at hx; omega))
    have HD : Hid (Bo (((((wr.setCell ⟨w.heap.size + 1 + 1, 0, none⟩ (.slice a3 (putV b.vs t.ws N1).length c3)).setCell ⟨w.heap.size + 1 + 1, 1, none⟩ (.slice (some ⟨g', 0, none⟩) (c.ps.length + 1) cap)).setCell ⟨w.heap.size + 1 + 1, 2, none⟩ (.slice a1 n1 c1)).setCell ⟨w.heap.size + 1 + 1, 3, none⟩ (.int .i64 N1)).setCell ⟨w.heap.size + 1 + 1, 4, none⟩ (.int .i64 c.nx)) w.heap.size (((((wr.setCell ⟨w.heap.size + 1 + 1, 0, none⟩ (.slice a3 (putV b.vs t.ws N1).length c3)).setCell ⟨w.heap.size + 1 + 1, 1, none⟩ (.slice (some ⟨g', 0, none⟩) (c.ps.length + 1) cap)).setCell ⟨w.heap.size + 1 + 1, 2, none⟩ (.slice a1 n1 c1)).setCell ⟨w.heap.size + 1 + 1, 3, none⟩ (.int .i64 N1)).setCell ⟨w.heap.size + 1 + 1, 4, none⟩ (.int .i64 c.nx)).heap.size ⟨putV b.vs t.ws N1, c.ps ++ [(⟨(dnT t N1 o), ra1, rc1, wa1, wc1⟩ : Ta)], F, N1, c.nx, a3, c3, some ⟨g', 0, none⟩, cap, a1, c1⟩) := by
     refine ⟨HVf.out.mono (by omega) (by omega), ?_, ?_⟩
     ·show Lo _ _ _ (.slice (some ⟨g', 0, none⟩) (c.ps ++ [(⟨(dnT t N1 o), ra1, rc1, wa1, wc1⟩ : Ta)]).length cap) _
      rw [List.length_append]
      exact ⟨(Lies.of HPf.out).mono (by omega) (Nat.le_refl _), (HPg.out.mono (by omega) (by omega)).snoc (by omega) (by omega) (HLg.out.as (u := (dnT t N1 o)) rfl rfl)⟩
     ·show Lo _ _ _ (.slice a1 F.length c1) _
      rw [← HFL.out]
      exact HQf.out.mono (by omega) (by omega)
    have HW : Hid (ThrA b t ⟨putV b.vs t.ws N1, c.ps ++ [(⟨(dnT t N1 o), ra1, rc1, wa1, wc1⟩ : Ta)], F, N1, c.nx, a3, c3, some ⟨g', 0, none⟩, cap, a1, c1⟩) := by
     refine ⟨Nat.le_of_eq (put_len _ _ _), ?_, ?_, ?_⟩
     ·intro v hv
      rcases mem_put.1 hv with hv | ⟨y, hy, rfl⟩
      ·exact HF.out.vf v hv
      ·exact HFT.out.2.2.2.1 y hy
     ·show (c.ps ++ [(⟨(dnT t N1 o), ra1, rc1, wa1, wc1⟩ : Ta)]).length = _ ∧ _
      rw [List.length_append, HSM.out.pl]
      refine ⟨rfl, fun x hx => ?_⟩
      rcases List.mem_append.1 hx with h | h
      ·have h2 : x.t ∈ txs b.ps := HSM.out.p ▸ List.mem_map.2 ⟨x, h, rfl⟩
       exact HF.out.p.2 _ h2
      ·rw [List.mem_singleton.1 h]
       exact fit_dn HFT.out
     ·have h4 : F.length = _ := (txs_len F).symm.trans (congrArg List.length HE.out)
      refine ⟨?_, fun x hx => ?_⟩
      ·show F.length ≤ _
       rw [h4, List.length_map]
       exact Nat.le_trans (List.length_filter_le _ _) (Nat.le_of_eq (txs_len _))
      ·have h2 : x.t ∈ txs F := List.mem_map.2 ⟨x, hx, rfl⟩
       rw [HE.out] at h2
       obtain ⟨y, hy, e⟩ := List.mem_map.1 h2
       rw [← e]
       have h3 : TFit y := HF.out.q.2 _ (List.mem_filter.1 hy).1
       exact ⟨h3.1, h3.2.1, h3.2.2.1, h3.2.2.2.1, h3.2.2.2.2⟩
    have HRT : Hid (Ending.returned (.agg #[.slice a3 (putV b.vs t.ws N1).length c3, .slice (some ⟨g', 0, none⟩) (c.ps.length + 1) cap, .slice a1 n1 c1, .int .i64 N1, .int .i64 c.nx]) = Ending.returned (.agg #[.slice a3 (putV b.vs t.ws N1).length c3, .slice (some ⟨g', 0, none⟩) (c.ps ++ [(⟨(dnT t N1 o), ra1, rc1, wa1, wc1⟩ : Ta)]).length cap, .slice a1 F.length c1, .int .i64 N1, .int .i64 c.nx])) := by
     show _ = _
     rw [HFL.out, List.length_append]
     rfl
    clear hk zq HB HV HPw HPe HL HVf HPf HPg HLg HQf HFL HE
    go_wp2
    refine bodyPost_ret (v := .agg #[.slice a3 (putV b.vs t.ws N1).length c3, .slice (some ⟨g', 0, none⟩) (c.ps.length + 1) cap, .slice a1 n1 c1, .int .i64 N1, .int .i64 c.nx]) (by simp [results, Tryz.results29, go_sem, z0, z1, z2, z3, z4]) rfl ⟨⟨putV b.vs t.ws N1, c.ps ++ [(⟨(dnT t N1 o), ra1, rc1, wa1, wc1⟩ : Ta)], F, N1, c.nx, a3, c3, some ⟨g', 0, none⟩, cap, a1, c1⟩, HRT.out, HW.out, HD.out, HBf.out⟩

end Go.Proofs.YtmijppfppigjcaaGreat

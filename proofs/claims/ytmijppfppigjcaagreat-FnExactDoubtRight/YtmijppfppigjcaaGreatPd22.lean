/- OldestOf and Tidied of the program, whatever stands there: they answer something. -/
import Derived.Test.YtmijppfppigjcaaGreatPd21
import Derived.Test.YtmijppfppigjcaaGreatPd14
import Derived.Laws.EntriesVeiled
import Derived.Deep.RegionHeld3
import Derived.Deep.Cut
import Derived.Deep.CutRange
import Derived.Test.YtmijppfppigjcaaGreatPd15
import Derived.Test.YtmijppfppigjcaaGreatPd20
import Derived.Test.YtmijppfppigjcaaGreatPd11
namespace Go.Proofs.YtmijppfppigjcaaGreat
open Go.RowKit
open KM
open VM
attribute [local go_sem ↓] Go.wp_at_zero Go.wp_at_succ

set_option maxRecDepth 100000 in
set_option maxHeartbeats 2000000 in
theorem iminA (ss : List Int) (a : Option Addr) (n c : Nat) (hx : n = ss.length) (h1 : 1 ≤ n) (hn : n ≤ 100000000) (w : World) (hp : GRow encI w a ss) :
  Calls Tryz.prog 143 #[.slice a n c] w fun e w' => (∃ m : Int, e = .returned (.int .i64 m)) ∧ Below w.heap.size w w' := by
 subst hx
 have HP : Hid (GRow encI w a ss) := hp
 obtain ⟨b, off, rfl, hbl, hc⟩ := hp (by omega)
 have r0 := iat hc 0 (by omega)
 rw [Nat.add_zero] at r0
 generalize ss[0] = y0 at r0
 clear hc hp hbl
 have hlt0 : ¬ (ss.length : Int) < 1 := by omega
 have hlt1 : (0 : Int) < (ss.length : Int) := by omega
 go_enter Tryz.func143, Tryz.ntmps143
 go_wp2
 go_loopw [3, 4] (fun m t wr => ∃ (k : Nat) (y : Int), k ≤ ss.length ∧ m = .int .i64 y ∧ t = .int .i64 k ∧ Hid (Below w.heap.size w wr)) (fun _ t _ => ss.length - (intOf t).toNat)
 case atStart => exact ⟨1, y0, by omega, rfl, rfl, belowRefl w⟩
 case round =>
  clear r0 hlt0 hlt1
  obtain ⟨k, y, hk, rfl, rfl, HB⟩ := hrel
  by_cases hlt : k < ss.length
  ·have hlt' : (k : Int) < (ss.length : Int) := by omega
   have h0 : (0 : Int) ≤ (k : Int) := by omega
   obtain ⟨b', off', hbe, -, hc⟩ := (HP.out.below HB.out) (by omega)
   cases hbe
   have r1 := iat hc k hlt
   generalize ss[k] = y1 at r1
   clear hc
   go_wp2
   go_roundw
   case rel => exact ⟨k + 1, _, by omega, rfl, by go_num, HB⟩
   case measure => simp [intOf]; omega
  ·have hd : ¬ (k : Int) < (ss.length : Int) := by omega
   go_wp2
   go_ret
   exact ⟨⟨_, rfl⟩, HB.out⟩

set_option maxRecDepth 100000 in
set_option maxHeartbeats 2000000 in
theorem ileastA (xs : List Ta) (a : Option Addr) (c n : Nat) (hx : n = xs.length) (hn : n ≤ 10000000) (w : World) (hp : TRows w a xs) :
  Calls Tryz.prog 103 #[.agg #[.slice a n c, .func (.func 141) #[] #[]]] w fun e w' => (∃ (m : Int) (o : Bool), e = .returned (.tuple #[.int .i64 m, .bool o])) ∧ Below w.heap.size w w' := by
 have BX : Hid (Bx (w.alloc (.cells #[.slice a n c, .func (.func 141) #[] #[]] 131)) w.heap.size [.slice a n c, .func (.func 141) #[] #[]]) := Bx.new w [.slice a n c, .func (.func 141) #[] #[]] 131
 have HB : Hid (Below w.heap.size w (w.alloc (.cells #[.slice a n c, .func (.func 141) #[] #[]] 131))) := (belowRefl w).alloc (Nat.le_refl _) _
 have HP : Hid (TRows w a xs) := hp
 have HX := hide hx
 clear hp hx
 go_enter Tryz.func103, Tryz.ntmps103
 go_upto_region 1 with fail
 generalize (w.alloc (.cells #[.slice a n c, .func (.func 141) #[] #[]] 131)) = w0 at *
 have x0 := BX.out.c0
 have x1 := BX.out.c1
 go_wp2_with fail
 refine (keys66 xs a c n HX.out hn _ (HP.out.below HB.out)).mono ?_
 rintro e w1 ⟨a1, c1, rfl, ho, hb⟩
 have hl : (xs.map fun x : Ta => x.t.snap).length = n := by rw [List.length_map, HX.out]
 have HR : Hid (GRow encI w1 a1 (xs.map fun x : Ta => x.t.snap)) := by
  rw [← hl] at ho
  exact ho.grow
 have HL := hide hl
 replace HB : Hid (Below w.heap.size w w1) := HB.out.trans (hb.mono HB.out.size)
 clear hb x0 x1 BX ho hl
 by_cases hz : n = 0
 ·have hz' : (n : Int) = 0 := by omega
  have hz2 : decide ((n : Int) = 0) = true := decide_eq_true hz'
  go_wp2
  go_ret2
  exact ⟨⟨_, _, rfl⟩, HB.out⟩
 ·have hz' : ¬ (n : Int) = 0 := by omega
  have hz2 : decide ((n : Int) = 0) = false := decide_eq_false hz'
  go_wp2_with fail
  refine (iminA _ a1 n c1 HL.out.symm (by omega) (by omega) _ HR.out).mono ?_
  rintro e w2 ⟨⟨m, rfl⟩, hb⟩
  replace HB : Hid (Below w.heap.size w w2) := HB.out.trans (hb.mono HB.out.size)
  clear hb HR HL
  go_wp2
  go_ret2
  exact ⟨⟨_, _, rfl⟩, HB.out⟩

set_option maxRecDepth 100000 in
set_option maxHeartbeats 2000000 in
theorem ioldestA (b : Bb) (xs : List Ta) (oa : Option Addr) (oc : Nat) (hx : xs.length ≤ 1048576) (w : World) (hp : TRows w oa xs) :
  Calls Tryz.prog 68 #[.agg #[.slice b.va b.vs.length b.vc, .slice b.pa b.ps.length b.pc, .slice b.qa b.qs.length b.qc, .int .i64 b.cs, .int .i64 b.nx], .slice oa xs.length oc] w fun e w' => (∃ m : Int, e = .returned (.int .i64 m)) ∧ Below w.heap.size w w' := by
 have BX : Hid (Bx (w.alloc (.cells #[.slice b.va b.vs.length b.vc, .slice b.pa b.ps.length b.pc, .slice b.qa b.qs.length b.qc, .int .i64 b.cs, .int .i64 b.nx] 42)) w.heap.size [.slice b.va b.vs.length b.vc, .slice b.pa b.ps.length b.pc, .slice b.qa b.qs.length b.qc, .int .i64 b.cs, .int .i64 b.nx]) := Bx.new w [.slice b.va b.vs.length b.vc, .slice b.pa b.ps.length b.pc, .slice b.qa b.qs.length b.qc, .int .i64 b.cs, .int .i64 b.nx] 42
 have HB : Hid (Below w.heap.size w (w.alloc (.cells #[.slice b.va b.vs.length b.vc, .slice b.pa b.ps.length b.pc, .slice b.qa b.qs.length b.qc, .int .i64 b.cs, .int .i64 b.nx] 42))) := (belowRefl w).alloc (Nat.le_refl _) _
 have HP : Hid (TRows w oa xs) := hp
 clear hp
 go_enter Tryz.func68, Tryz.ntmps68
 go_upto_region 1 with fail
 generalize (w.alloc (.cells #[.slice b.va b.vs.length b.vc, .slice b.pa b.ps.length b.pc, .slice b.qa b.qs.length b.qc, .int .i64 b.cs, .int .i64 b.nx] 42)) = w0 at *
 go_wp2_with fail
 refine (by41 oa oc xs.length _).mono ?_
 rintro e w1 ⟨rfl, hb⟩
 replace HB : Hid (Below w.heap.size w w1) := HB.out.trans (hb.mono HB.out.size)
 replace BX : Hid (Bx w1 w.heap.size [.slice b.va b.vs.length b.vc, .slice b.pa b.ps.length b.pc, .slice b.qa b.qs.length b.qc, .int .i64 b.cs, .int .i64 b.nx]) := BX.out.below hb
 clear hb
 go_wp2_with fail
 refine (ileastA xs oa oc xs.length rfl (by omega) _ (HP.out.below HB.out)).mono ?_
 rintro e w2 ⟨⟨m, o, rfl⟩, hb⟩
 replace HB : Hid (Below w.heap.size w w2) := HB.out.trans (hb.mono HB.out.size)
 replace BX : Hid (Bx w2 w.heap.size [.slice b.va b.vs.length b.vc, .slice b.pa b.ps.length b.pc, .slice b.qa b.qs.length b.qc, .int .i64 b.cs, .int .i64 b.nx]) := BX.out.below hb
 clear hb
 have x3 := BX.out.c3
 cases o
 ·go_wp2
  go_ret
  exact ⟨⟨_, rfl⟩, HB.out⟩
 ·go_wp2
  go_ret
  exact ⟨⟨_, rfl⟩, HB.out⟩

set_option maxRecDepth 100000 in
set_option maxHeartbeats 4000000 in
theorem itidiedA (b : Bb) (xs : List Ta) (oa : Option Addr) (oc : Nat) (hf : BFit b) (hx : xs.length ≤ 1048576) (w : World) (hp : BRows w b) (ho : TRows w oa xs) :
  Calls Tryz.prog 40 #[.agg #[.slice b.va b.vs.length b.vc, .slice b.pa b.ps.length b.pc, .slice b.qa b.qs.length b.qc, .int .i64 b.cs, .int .i64 b.nx], .slice oa xs.length oc] w fun e w' => ∃ (va pa qa : Option Addr) (vn vc pn pc qn qc : Nat) (cs nx : Int), e = .returned (.agg #[.slice va vn vc, .slice pa pn pc, .slice qa qn qc, .int .i64 cs, .int .i64 nx]) ∧ Below w.heap.size w w' := by
 have BA : Hid (Bx (((w.alloc (.cells #[.slice b.va b.vs.length b.vc, .slice b.pa b.ps.length b.pc, .slice b.qa b.qs.length b.qc, .int .i64 b.cs, .int .i64 b.nx] 42)).alloc (.cells #[.slice none 0 0, .slice none 0 0, .slice none 0 0, .int .i64 0, .int .i64 0] 42))) w.heap.size [.slice b.va b.vs.length b.vc, .slice b.pa b.ps.length b.pc, .slice b.qa b.qs.length b.qc, .int .i64 b.cs, .int .i64 b.nx]) := by
  have h := Bx.new w [.slice b.va b.vs.length b.vc, .slice b.pa b.ps.length b.pc, .slice b.qa b.qs.length b.qc, .int .i64 b.cs, .int .i64 b.nx] 42
  exact (h.alloc _)
 have BR : Hid (Bx (((w.alloc (.cells #[.slice b.va b.vs.length b.vc, .slice b.pa b.ps.length b.pc, .slice b.qa b.qs.length b.qc, .int .i64 b.cs, .int .i64 b.nx] 42)).alloc (.cells #[.slice none 0 0, .slice none 0 0, .slice none 0 0, .int .i64 0, .int .i64 0] 42))) (w.heap.size + 1) [.slice none 0 0, .slice none 0 0, .slice none 0 0, .int .i64 0, .int .i64 0]) := by
  have h := Bx.new (w.alloc (.cells #[.slice b.va b.vs.length b.vc, .slice b.pa b.ps.length b.pc, .slice b.qa b.qs.length b.qc, .int .i64 b.cs, .int .i64 b.nx] 42)) [.slice none 0 0, .slice none 0 0, .slice none 0 0, .int .i64 0, .int .i64 0] 42
  rw [World.size_alloc] at h
  exact h
 have HB : Hid (Below w.heap.size w (((w.alloc (.cells #[.slice b.va b.vs.length b.vc, .slice b.pa b.ps.length b.pc, .slice b.qa b.qs.length b.qc, .int .i64 b.cs, .int .i64 b.nx] 42)).alloc (.cells #[.slice none 0 0, .slice none 0 0, .slice none 0 0, .int .i64 0, .int .i64 0] 42)))) := (((belowRefl w).alloc (by exact Nat.le_refl _) _).alloc (by rw [World.size_alloc]; omega) _)
 have HS0 : Hid (((w.alloc (.cells #[.slice b.va b.vs.length b.vc, .slice b.pa b.ps.length b.pc, .slice b.qa b.qs.length b.qc, .int .i64 b.cs, .int .i64 b.nx] 42)).alloc (.cells #[.slice none 0 0, .slice none 0 0, .slice none 0 0, .int .i64 0, .int .i64 0] 42)).heap.size = w.heap.size + 1 + 1) := by show _ = _; rw [World.size_alloc, World.size_alloc]
 have HF : Hid (BFit b) := hf
 have HP : Hid (BRows w b) := hp
 have HO : Hid (TRows w oa xs) := ho
 have CO := hide (fun (W : World) (h : Below w.heap.size w W) => ioldestA b xs oa oc hx W (HO.out.below h))
 have CB := hide (fun (W : World) (h : Below w.heap.size w W) => copyB b HF.out W (HP.out.below h))
 clear hf hp ho
 go_enter Tryz.func40, Tryz.ntmps40
 go_upto_region 1 with fail
 generalize ((w.alloc (.cells #[.slice b.va b.vs.length b.vc, .slice b.pa b.ps.length b.pc, .slice b.qa b.qs.length b.qc, .int .i64 b.cs, .int .i64 b.nx] 42)).alloc (.cells #[.slice none 0 0, .slice none 0 0, .slice none 0 0, .int .i64 0, .int .i64 0] 42)) = w0 at *
 have zs0 := HS0.out
 clear HS0
 have x0 := BA.out.c0
 have x1 := BA.out.c1
 have x2 := BA.out.c2
 have x3 := BA.out.c3
 have x4 := BA.out.c4
 go_wp2_with fail
 refine (CB.out _ HB.out).mono ?_
 rintro e w1 ⟨c, rfl, hs, hl, hb1⟩
 have z1 : w0.heap.size ≤ w1.heap.size := hb1.size
 have HSM : Hid (BSame b c) := hs
 have HL : Hid (BLie w1 w0.heap.size w1.heap.size c) := hl
 clear hs hl
 replace BA : Hid (Bx w1 w.heap.size [.slice b.va b.vs.length b.vc, .slice b.pa b.ps.length b.pc, .slice b.qa b.qs.length b.qc, .int .i64 b.cs, .int .i64 b.nx]) := BA.out.below hb1
 replace BR : Hid (Bx w1 (w.heap.size + 1) [.slice none 0 0, .slice none 0 0, .slice none 0 0, .int .i64 0, .int .i64 0]) := BR.out.below hb1
 replace HB : Hid (Below w.heap.size w w1) := HB.out.trans (hb1.mono HB.out.size)
 clear hb1 x0 x1 x2 x3 x4
 go_upto_region 2 with fail
 have hba : Below w1.heap.size w1 (w1.alloc (.cells #[.slice c.va c.vs.length c.vc, .slice c.pa c.ps.length c.pc, .slice c.qa c.qs.length c.qc, .int .i64 c.cs, .int .i64 c.nx] 42)) := (belowRefl w1).alloc (Nat.le_refl _) _
 have zq : (w1.alloc (.cells #[.slice c.va c.vs.length c.vc, .slice c.pa c.ps.length c.pc, .slice c.qa c.qs.length c.qc, .int .i64 c.cs, .int .i64 c.nx] 42)).heap.size = w1.heap.size + 1 := World.size_alloc _ _
 replace BA : Hid (Bx ((w1.alloc (.cells #[.slice c.va c.vs.length c.vc, .slice c.pa c.ps.length c.pc, .slice c.qa c.qs.length c.qc, .int .i64 c.cs, .int .i64 c.nx] 42))) w.heap.size [.slice b.va b.vs.length b.vc, .slice b.pa b.ps.length b.pc, .slice b.qa b.qs.length b.qc, .int .i64 b.cs, .int .i64 b.nx]) := BA.out.below hba
 replace BR : Hid (Bx ((w1.alloc (.cells #[.slice c.va c.vs.length c.vc, .slice c.pa c.ps.length c.pc, .slice c.qa c.qs.length c.qc, .int .i64 c.cs, .int .i64 c.nx] 42))) (w.heap.size + 1) [.slice none 0 0, .slice none 0 0, .slice none 0 0, .int .i64 0, .int .i64 0]) := BR.out.below hba
 replace HB : Hid (Below w.heap.size w ((w1.alloc (.cells #[.slice c.va c.vs.length c.vc, .slice c.pa c.ps.length c.pc, .slice c.qa c.qs.length c.qc, .int .i64 c.cs, .int .i64 c.nx] 42)))) := HB.out.trans (hba.mono HB.out.size)
 replace HL : Hid (BLie ((w1.alloc (.cells #[.slice c.va c.vs.length c.vc, .slice c.pa c.ps.length c.pc, .slice c.qa c.qs.length c.qc, .int .i64 c.cs, .int .i64 c.nx] 42))) w0.heap.size w1.heap.size c) := HL.out.below hba
 have BO : Hid (Bx ((w1.alloc (.cells #[.slice c.va c.vs.length c.vc, .slice c.pa c.ps.length c.pc, .slice c.qa c.qs.length c.qc, .int .i64 c.cs, .int .i64 c.nx] 42))) w1.heap.size [.slice c.va c.vs.length c.vc, .slice c.pa c.ps.length c.pc, .slice c.qa c.qs.length c.qc, .int .i64 c.cs, .int .i64 c.nx]) := Bx.new w1 [.slice c.va c.vs.length c.vc, .slice c.pa c.ps.length c.pc, .slice c.qa c.qs.length c.qc, .int .i64 c.cs, .int .i64 c.nx] 42
 clear hba
 generalize (w1.alloc (.cells #[.slice c.va c.vs.length c.vc, .slice c.pa c.ps.length c.pc, .slice c.qa c.qs.length c.qc, .int .i64 c.cs, .int .i64 c.nx] 42)) = w2 at *
 have z2 : w1.heap.size + 1 ≤ w2.heap.size := Nat.le_of_eq zq.symm
 clear zq
 have x0 := BA.out.c0
 have x1 := BA.out.c1
 have x2 := BA.out.c2
 have x3 := BA.out.c3
 have x4 := BA.out.c4
 go_wp2_with fail
 refine (CO.out _ HB.out).mono ?_
 rintro e w3 ⟨⟨old, rfl⟩, hb3⟩
 have z3 : w2.heap.size ≤ w3.heap.size := hb3.size
 replace BA : Hid (Bx w3 w.heap.size [.slice b.va b.vs.length b.vc, .slice b.pa b.ps.length b.pc, .slice b.qa b.qs.length b.qc, .int .i64 b.cs, .int .i64 b.nx]) := BA.out.below hb3
 replace BR : Hid (Bx w3 (w.heap.size + 1) [.slice none 0 0, .slice none 0 0, .slice none 0 0, .int .i64 0, .int .i64 0]) := BR.out.below hb3
 replace HB : Hid (Below w.heap.size w w3) := HB.out.trans (hb3.mono HB.out.size)
 replace HL : Hid (BLie w3 w0.heap.size w1.heap.size c) := HL.out.below hb3
 replace BO : Hid (Bx w3 w1.heap.size [.slice c.va c.vs.length c.vc, .slice c.pa c.ps.length c.pc, .slice c.qa c.qs.length c.qc, .int .i64 c.cs, .int .i64 c.nx]) := BO.out.below hb3
 clear hb3 x0 x1 x2 x3 x4
 have o1 := BO.out.c1
 go_wp2_with fail
 refine (by35 c.pa c.pc c.ps.length _).mono ?_
 rintro e w4 ⟨rfl, hb4⟩
 have z4 : w3.heap.size ≤ w4.heap.size := hb4.size
 replace BA : Hid (Bx w4 w.heap.size [.slice b.va b.vs.length b.vc, .slice b.pa b.ps.length b.pc, .slice b.qa b.qs.length b.qc, .int .i64 b.cs, .int .i64 b.nx]) := BA.out.below hb4
 replace BR : Hid (Bx w4 (w.heap.size + 1) [.slice none 0 0, .slice none 0 0, .slice none 0 0, .int .i64 0, .int .i64 0]) := BR.out.below hb4
 replace HB : Hid (Below w.heap.size w w4) := HB.out.trans (hb4.mono HB.out.size)
 replace HL : Hid (BLie w4 w0.heap.size w1.heap.size c) := HL.out.below hb4
 replace BO : Hid (Bx w4 w1.heap.size [.slice c.va c.vs.length c.vc, .slice c.pa c.ps.length c.pc, .slice c.qa c.qs.length c.qc, .int .i64 c.cs, .int .i64 c.nx]) := BO.out.below hb4
 clear hb4 o1
 have hpl : c.ps.length ≤ 10000000 := by have h1 := (HSM.out.fit HF.out).pl; omega
 go_wp2_with fail
 refine (aboveC118 c.ps c.pa c.pc c.ps.length rfl hpl old _ HL.out.rows.p).mono ?_
 rintro e w5 ⟨a1, c1, n1, rfl, hn1, ho, hb5⟩
 have z5 : w4.heap.size ≤ w5.heap.size := hb5.size
 clear ho hn1 hpl HL
 replace BA : Hid (Bx w5 w.heap.size [.slice b.va b.vs.length b.vc, .slice b.pa b.ps.length b.pc, .slice b.qa b.qs.length b.qc, .int .i64 b.cs, .int .i64 b.nx]) := BA.out.below hb5
 replace BR : Hid (Bx w5 (w.heap.size + 1) [.slice none 0 0, .slice none 0 0, .slice none 0 0, .int .i64 0, .int .i64 0]) := BR.out.below hb5
 replace HB : Hid (Below w.heap.size w w5) := HB.out.trans (hb5.mono HB.out.size)
 replace BO : Hid (Bx w5 w1.heap.size [.slice c.va c.vs.length c.vc, .slice c.pa c.ps.length c.pc, .slice c.qa c.qs.length c.qc, .int .i64 c.cs, .int .i64 c.nx]) := BO.out.below hb5
 clear hb5
 have o1 := BO.out.c1
 have of1 := BO.out.fz 1
 go_upto_region 4 with fail
 clear o1 of1
 have zq : (w5.setCell ⟨w1.heap.size, 1, none⟩ (.slice a1 n1 c1)).heap.size = w5.heap.size := by simp [World.setCell]
 have hk : Kn [w1.heap.size] w5 (w5.setCell ⟨w1.heap.size, 1, none⟩ (.slice a1 n1 c1)) := Kn.set w5 (w1.heap.size) 1 (.slice a1 n1 c1)
 replace BA : Hid (Bx ((w5.setCell ⟨w1.heap.size, 1, none⟩ (.slice a1 n1 c1))) w.heap.size [.slice b.va b.vs.length b.vc, .slice b.pa b.ps.length b.pc, .slice b.qa b.qs.length b.qc, .int .i64 b.cs, .int .i64 b.nx]) := BA.out.kn (hk) (by intro hm; simp only [List.mem_cons, List.not_mem_nil, or_false] at hm; omega)
 replace BR : Hid (Bx ((w5.setCell ⟨w1.heap.size, 1, none⟩ (.slice a1 n1 c1))) (w.heap.size + 1) [.slice none 0 0, .slice none 0 0, .slice none 0 0, .int .i64 0, .int .i64 0]) := BR.out.kn (hk) (by intro hm; simp only [List.mem_cons, List.not_mem_nil, or_false] at hm; omega)
 replace HB : Hid (Below w.heap.size w ((w5.setCell ⟨w1.heap.size, 1, none⟩ (.slice a1 n1 c1)))) := HB.out.trans ((hk).below (by have := HB.out.size; omega) (by intro x hx; simp only [List.mem_cons, List.not_mem_nil, or_false] at hx; omega))
 replace BO : Hid (Bx ((w5.setCell ⟨w1.heap.size, 1, none⟩ (.slice a1 n1 c1))) w1.heap.size [.slice c.va c.vs.length c.vc, .slice a1 n1 c1, .slice c.qa c.qs.length c.qc, .int .i64 c.cs, .int .i64 c.nx]) := BO.out.set 1 (.slice a1 n1 c1)
 clear hk
 generalize (w5.setCell ⟨w1.heap.size, 1, none⟩ (.slice a1 n1 c1)) = w6 at *
 have z6 : w5.heap.size ≤ w6.heap.size := Nat.le_of_eq zq.symm
 have y6 : w6.heap.size ≤ w5.heap.size := Nat.le_of_eq zq
 clear zq
 have x0 := BA.out.c0
 go_wp2_with fail
 refine (itrim b.vs b.va b.vc old (Nat.le_trans HF.out.vl (by omega)) HF.out.vf _ (HP.out.v.below HB.out)).mono ?_
 rintro e w7 ⟨a2, c2, rfl, ho, hb7⟩
 have z7 : w6.heap.size ≤ w7.heap.size := hb7.size
 clear ho
 replace BA : Hid (Bx w7 w.heap.size [.slice b.va b.vs.length b.vc, .slice b.pa b.ps.length b.pc, .slice b.qa b.qs.length b.qc, .int .i64 b.cs, .int .i64 b.nx]) := BA.out.below hb7
 replace BR : Hid (Bx w7 (w.heap.size + 1) [.slice none 0 0, .slice none 0 0, .slice none 0 0, .int .i64 0, .int .i64 0]) := BR.out.below hb7
 replace HB : Hid (Below w.heap.size w w7) := HB.out.trans (hb7.mono HB.out.size)
 replace BO : Hid (Bx w7 w1.heap.size [.slice c.va c.vs.length c.vc, .slice a1 n1 c1, .slice c.qa c.qs.length c.qc, .int .i64 c.cs, .int .i64 c.nx]) := BO.out.below hb7
 clear hb7 x0
 have o0 := BO.out.c0
 have of0 := BO.out.fz 0
 go_upto_region 5 with fail
 clear o0 of0
 have zq : (w7.setCell ⟨w1.heap.size, 0, none⟩ (.slice a2 (trimB old b.vs).length c2)).heap.size = w7.heap.size := by simp [World.setCell]
 have hk : Kn [w1.heap.size] w7 (w7.setCell ⟨w1.heap.size, 0, none⟩ (.slice a2 (trimB old b.vs).length c2)) := Kn.set w7 (w1.heap.size) 0 (.slice a2 (trimB old b.vs).length c2)
 replace BA : Hid (Bx ((w7.setCell ⟨w1.heap.size, 0, none⟩ (.slice a2 (trimB old b.vs).length c2))) w.heap.size [.slice b.va b.vs.length b.vc, .slice b.pa b.ps.length b.pc, .slice b.qa b.qs.length b.qc, .int .i64 b.cs, .int .i64 b.nx]) := BA.out.kn (hk) (by intro hm; simp only [List.mem_cons, List.not_mem_nil, or_false] at hm; omega)
 replace BR : Hid (Bx ((w7.setCell ⟨w1.heap.size, 0, none⟩ (.slice a2 (trimB old b.vs).length c2))) (w.heap.size + 1) [.slice none 0 0, .slice none 0 0, .slice none 0 0, .int .i64 0, .int .i64 0]) := BR.out.kn (hk) (by intro hm; simp only [List.mem_cons, List.not_mem_nil, or_false] at hm; omega)
 replace HB : Hid (Below w.heap.size w ((w7.setCell ⟨w1.heap.size, 0, none⟩ (.slice a2 (trimB old b.vs).length c2)))) := HB.out.trans ((hk).below (by have := HB.out.size; omega) (by intro x hx; simp only [List.mem_cons, List.not_mem_nil, or_false] at hx; omega))
 replace BO : Hid (Bx ((w7.setCell ⟨w1.heap.size, 0, none⟩ (.slice a2 (trimB old b.vs).length c2))) w1.heap.size [.slice a2 (trimB old b.vs).length c2, .slice a1 n1 c1, .slice c.qa c.qs.length c.qc, .int .i64 c.cs, .int .i64 c.nx]) := BO.out.set 0 (.slice a2 (trimB old b.vs).length c2)
 clear hk
 generalize (w7.setCell ⟨w1.heap.size, 0, none⟩ (.slice a2 (trimB old b.vs).length c2)) = w8 at *
 have z8 : w7.heap.size ≤ w8.heap.size := Nat.le_of_eq zq.symm
 have y8 : w8.heap.size ≤ w7.heap.size := Nat.le_of_eq zq
 clear zq
 have o0 := BO.out.c0
 have o1 := BO.out.c1
 have o2 := BO.out.c2
 have o3 := BO.out.c3
 have o4 := BO.out.c4
 have z0 := BR.out.c0
 have zf0 := BR.out.fz 0
 have z1 := BR.out.c1
 have zf1 := BR.out.fz 1
 have z2 := BR.out.c2
 have zf2 := BR.out.fz 2
 have z3 := BR.out.c3
 have zf3 := BR.out.fz 3
 have z4 := BR.out.c4
 have zf4 := BR.out.fz 4
 have hk : Kn [w.heap.size + 1] w8 (((((w8.setCell ⟨w.heap.size + 1, 0, none⟩ (.slice a2 (trimB old b.vs).length c2)).setCell ⟨w.heap.size + 1, 1, none⟩ (.slice a1 n1 c1)).setCell ⟨w.heap.size + 1, 2, none⟩ (.slice c.qa c.qs.length c.qc)).setCell ⟨w.heap.size + 1, 3, none⟩ (.int .i64 c.cs)).setCell ⟨w.heap.size + 1, 4, none⟩ (.int .i64 c.nx)) := kn_s5 w8 (w.heap.size + 1) (.slice a2 (trimB old b.vs).length c2) (.slice a1 n1 c1) (.slice c.qa c.qs.length c.qc) (.int .i64 c.cs) (.int .i64 c.nx)
 have zq : (((((w8.setCell ⟨w.heap.size + 1, 0, none⟩ (.slice a2 (trimB old b.vs).length c2)).setCell ⟨w.heap.size + 1, 1, none⟩ (.slice a1 n1 c1)).setCell ⟨w.heap.size + 1, 2, none⟩ (.slice c.qa c.qs.length c.qc)).setCell ⟨w.heap.size + 1, 3, none⟩ (.int .i64 c.cs)).setCell ⟨w.heap.size + 1, 4, none⟩ (.int .i64 c.nx)).heap.size = w8.heap.size := by simp [World.setCell]
 have HBf : Hid (Below w.heap.size w (((((w8.setCell ⟨w.heap.size + 1, 0, none⟩ (.slice a2 (trimB old b.vs).length c2)).setCell ⟨w.heap.size + 1, 1, none⟩ (.slice a1 n1 c1)).setCell ⟨w.heap.size + 1, 2, none⟩ (.slice c.qa c.qs.length c.qc)).setCell ⟨w.heap.size + 1, 3, none⟩ (.int .i64 c.cs)).setCell ⟨w.heap.size + 1, 4, none⟩ (.int .i64 c.nx))) := HB.out.trans (hk.below HB.out.size (by intro x hx; simp only [List.mem_cons, List.not_mem_nil, or_false] at hx; omega))
 clear hk zq HB
 go_wp2
 refine bodyPost_ret (v := .agg #[.slice a2 (trimB old b.vs).length c2, .slice a1 n1 c1, .slice c.qa c.qs.length c.qc, .int .i64 c.cs, .int .i64 c.nx]) (by simp [results, Tryz.results40, go_sem, z0, z1, z2, z3, z4]) rfl ⟨_, _, _, _, _, _, _, _, _, _, _, rfl, HBf.out⟩

end Go.Proofs.YtmijppfppigjcaaGreat

namespace Go.Proofs.YtmijppfppigjcaaGreat
open Go.RowKit
open KM
open VM
attribute [local go_sem ↓] Go.wp_at_zero Go.wp_at_succ

def mkA (d : Tx) (x : Ta) : Ta := ⟨mkO d x.t, x.ra, x.rc, x.wa, x.wc⟩
def mkK (d : Tx) (xs : List Ta) (k : Nat) : List Ta := (xs.take k).map (mkA d) ++ xs.drop k
theorem mkK_len (d : Tx) (xs : List Ta) (k : Nat) (hk : k ≤ xs.length) : (mkK d xs k).length = xs.length := by
 simp only [mkK, List.length_append, List.length_map, List.length_take, List.length_drop]; omega
theorem mkK_zero (d : Tx) (xs : List Ta) : mkK d xs 0 = xs := by simp [mkK]
theorem mkK_all (d : Tx) (xs : List Ta) (k : Nat) (hk : xs.length ≤ k) : mkK d xs k = xs.map (mkA d) := by
 unfold mkK
 rw [List.take_of_length_le hk, List.drop_of_length_le hk, List.append_nil]
theorem mkK_at (d : Tx) (xs : List Ta) (k : Nat) (hk : k < xs.length) : (mkK d xs k)[k]'(by rw [mkK_len _ _ _ (Nat.le_of_lt hk)]; exact hk) = xs[k] := by
 unfold mkK
 rw [List.getElem_append_right (by simp; omega)]
 simp only [List.length_map, List.length_take, List.getElem_drop]
 congr 1
 omega
theorem mkK_next (d : Tx) (xs : List Ta) (k : Nat) (hk : k < xs.length) : mkK d xs (k + 1) = (mkK d xs k).set k (mkA d xs[k]) := by
 apply List.ext_getElem?
 intro i
 have e : ∀ m, m ≤ xs.length → (mkK d xs m)[i]? = if i < m then (xs[i]?).map (mkA d) else xs[i]? := fun m hm => by
  unfold mkK
  rw [List.getElem?_append]
  simp only [List.length_map, List.length_take, Nat.min_eq_left hm]
  by_cases h : i < m
  ·rw [if_pos h, if_pos h, List.getElem?_map, List.getElem?_take, if_pos h]
  ·rw [if_neg h, if_neg h, List.getElem?_drop]
   congr 1
   omega
 rw [e _ hk, List.getElem?_set, e _ (Nat.le_of_lt hk), mkK_len _ _ _ (Nat.le_of_lt hk)]
 by_cases hki : k = i
 ·subst hki
  rw [if_pos (Nat.lt_succ_self _), if_pos rfl, if_pos hk, List.getElem?_eq_getElem hk]
  rfl
 ·rw [if_neg hki]
  by_cases hlt : i < k
  ·rw [if_pos hlt, if_pos (by omega)]
  ·rw [if_neg hlt, if_neg (by omega)]
theorem cells_set6 (zs : List Ta) (i : Nat) (hi : i < zs.length) (o : Bool) : encT.cells (zs.set i ⟨outT zs[i].t o, zs[i].ra, zs[i].rc, zs[i].wa, zs[i].wc⟩) = (encT.cells zs).set (i * 8 + 6) (.bool o) := by
 have hlen : (encT.cells zs).length = zs.length * 8 := encT.cells_len zs
 apply List.ext_getElem?
 intro j
 by_cases hj : j < zs.length * 8
 ·obtain ⟨q, r, hr, rfl⟩ : ∃ q r, r < 8 ∧ j = q * 8 + r := ⟨j / 8, j % 8, Nat.mod_lt _ (by omega), by omega⟩
  have hq : q < zs.length := by omega
  have c1 := encT.cells_at (zs.set i ⟨outT zs[i].t o, zs[i].ra, zs[i].rc, zs[i].wa, zs[i].wc⟩) q (by simpa using hq) r hr
  have c2 := encT.cells_at zs q hq r hr
  have e8 : encT.size = 8 := rfl
  rw [e8] at c1 c2
  rw [c1]
  by_cases hqi : q = i
  ·subst hqi
   simp only [List.getElem_set_self]
   have hr8 : r = 0 ∨ r = 1 ∨ r = 2 ∨ r = 3 ∨ r = 4 ∨ r = 5 ∨ r = 6 ∨ r = 7 := by omega
   rcases hr8 with rfl | rfl | rfl | rfl | rfl | rfl | rfl | rfl
   ·rw [List.getElem?_set_ne (by omega), c2]; rfl
   ·rw [List.getElem?_set_ne (by omega), c2]; rfl
   ·rw [List.getElem?_set_ne (by omega), c2]; rfl
   ·rw [List.getElem?_set_ne (by omega), c2]; rfl
   ·rw [List.getElem?_set_ne (by omega), c2]; rfl
   ·rw [List.getElem?_set_ne (by omega), c2]; rfl
   ·rw [List.getElem?_set_self (by omega)]; rfl
   ·rw [List.getElem?_set_ne (by omega), c2]; rfl
  ·rw [List.getElem_set_ne (fun e => hqi e.symm)]
   rw [List.getElem?_set_ne (by omega), c2]
 ·rw [List.getElem?_eq_none (by rw [encT.cells_len]; show (zs.set i _).length * 8 ≤ j; simp; omega), List.getElem?_eq_none (by simp only [List.length_set]; omega)]
theorem own_out {W : World} {base g n c i : Nat} {zs : List Ta} (hn : n = zs.length) (h0 : GOwn encT 62 W base (.slice (some ⟨g, 0, none⟩) n c) zs) (hi : i < zs.length) (o : Bool) :
  GOwn encT 62 (W.setCell ⟨g, i * 8 + 6, none⟩ (.bool o)) base (.slice (some ⟨g, 0, none⟩) n c) (zs.set i ⟨outT zs[i].t o, zs[i].ra, zs[i].rc, zs[i].wa, zs[i].wc⟩) := by
 subst hn
 have h : W.ownsRow base 62 8 (.slice (some ⟨g, 0, none⟩) zs.length c) zs.length (encT.cells zs) := h0
 unfold GOwn
 rw [cells_set6 zs i hi o, List.length_set]
 exact (World.ownsRow.stored h (i * 8 + 6) (.bool o)).1
theorem own_shapeT {W : World} {base n c k : Nat} {a : Option Addr} {zs : List Ta} (h : GOwn encT 62 W base (.slice a n c) zs) (hn : n = zs.length) (hk : k < zs.length) : ∃ g, a = some ⟨g, 0, none⟩ ∧ base ≤ g ∧ g < W.heap.size ∧ Cls W g (k * 8) zs[k] ∧ ∀ j, W.frozen? ⟨g, j, none⟩ = false := by
 subst hn
 obtain ⟨g, hg⟩ : ∃ g, a = some ⟨g, 0, none⟩ := by
  rcases h.2 with ⟨e, h0⟩ | ⟨g, cap, cur, e, _⟩
  ·omega
  ·injection e with e1 e2 e3
   exact ⟨g, e1⟩
 subst hg
 have hl := World.ownsRow.lt h g rfl
 obtain ⟨b, o, hbo, _, hc⟩ := h.grow (by omega)
 cases hbo
 have h8 := tat hc k hk
 simp only [Nat.zero_add] at h8
 exact ⟨g, rfl, hl.1, hl.2, h8, fun j => World.ownsRow.frozenAt h j⟩

set_option maxRecDepth 100000 in
set_option maxHeartbeats 4000000 in
theorem imark (xs : List Ta) (a : Option Addr) (c n : Nat) (d : Tx) (da dwa : Option Addr) (drc dwc p q lo hi base : Nat) (hx : n = xs.length) (hn : n ≤ 2000000) (fx : LFit (txs xs)) (fd : TFit d) (w : World) (ho : GOwn encT 62 w base (.slice a n c) xs) (he : Ea w lo hi xs) (hd : TLie w p q d da drc dwa dwc) :
  Calls Tryz.prog 97 #[.slice a n c, .agg #[.int .i64 d.id, .int .i64 d.st, .int .i64 d.snap, .int .i64 d.cs, .slice da d.rs.length drc, .slice dwa d.ws.length dwc, .bool d.out, .string d.nm]] w fun e w' => e = .returned (.slice a n c) ∧ GOwn encT 62 w' base (.slice a n c) (xs.map (mkA d)) ∧ w.grownBy w' (Value.slice a n c).ownBlock := by
 have HE : Hid (Ea w lo hi xs) := he
 have HT : Hid (TLie w p q d da drc dwa dwc) := hd
 have H0 : Hid (GOwn encT 62 w base (.slice a n c) xs) := ho
 have HF : Hid (LFit (txs xs)) := fx
 have HFD : Hid (TFit d) := fd
 have HX : Hid (n = xs.length) := hx
 clear hx fx fd ho he hd
 go_enter Tryz.func97, Tryz.ntmps97
 go_wp2
 go_loopw [9] (fun s wr => ∃ k : Nat, k ≤ n ∧ s = .int .i64 k ∧ Hid (GOwn encT 62 wr base (.slice a n c) (mkK d xs k)) ∧ Hid (w.grownBy wr (Value.slice a n c).ownBlock) ∧ Hid (Bx wr w.heap.size [.int .i64 d.id, .int .i64 d.st, .int .i64 d.snap, .int .i64 d.cs, .slice da d.rs.length drc, .slice dwa d.ws.length dwc, .bool d.out, .string d.nm])) (fun s _ => n - (intOf s).toNat)
 case atStart => exact ⟨0, Nat.zero_le _, rfl, by rw [mkK_zero]; exact H0.out.alloc _, grown_below _ ((belowRefl w).alloc (Nat.le_refl _) _), Bx.new w [.int .i64 d.id, .int .i64 d.st, .int .i64 d.snap, .int .i64 d.cs, .slice da d.rs.length drc, .slice dwa d.ws.length dwc, .bool d.out, .string d.nm] 62⟩
 case round =>
  obtain ⟨k, hk, rfl, HO, HG, BT⟩ := hrel
  by_cases hlt : k < n
  ·have hlt' : (k : Int) < (n : Int) := by omega
   have h0 : (0 : Int) ≤ (k : Int) := by omega
   have hkx : k < xs.length := by rw [← HX.out]; exact hlt
   obtain ⟨g, rfl, hbg, hlg, hcl, _⟩ := own_shapeT HO.out (by rw [mkK_len _ _ _ (by omega)]; exact HX.out) (show k < (mkK d xs k).length by rw [mkK_len _ _ _ (by omega)]; exact hkx)
   have HLT : Hid (g < w.heap.size) := (World.ownsRow.lt H0.out g rfl).2
   obtain ⟨x, hxe⟩ : ∃ x, xs[k] = x := ⟨_, rfl⟩
   have HXE : Hid (xs[k] = x) := hxe
   rw [mkK_at d xs k hkx, hxe] at hcl
   have hmx : x ∈ xs := by rw [← hxe]; exact List.getElem_mem hkx
   have hfx : TFit x.t := HF.out.2 _ (List.mem_map.2 ⟨x, hmx, rfl⟩)
   have RX : Hid (TRow wr x.t x.ra x.wa) := (HE.out.part H0.out HG.out).rows x hmx
   have RD : Hid (TRow wr d da dwa) := (HT.out.part H0.out HG.out).row
   clear hmx hxe
   have r0 := hcl.c0
   have r1 := hcl.c1
   have r2 := hcl.c2
   have r3 := hcl.c3
   have r4 := hcl.c4
   have r5 := hcl.c5
   have r6 := hcl.c6
   have r7 := hcl.c7
   clear hcl
   have hba : Below wr.heap.size wr (wr.alloc (.cells #[.int .i64 x.t.id, .int .i64 x.t.st, .int .i64 x.t.snap, .int .i64 x.t.cs, .slice x.ra x.t.rs.length x.rc, .slice x.wa x.t.ws.length x.wc, .bool x.t.out, .string x.t.nm] 62)) := (belowRefl wr).alloc (Nat.le_refl _) _
   have BX : Hid (Bx (wr.alloc (.cells #[.int .i64 x.t.id, .int .i64 x.t.st, .int .i64 x.t.snap, .int .i64 x.t.cs, .slice x.ra x.t.rs.length x.rc, .slice x.wa x.t.ws.length x.wc, .bool x.t.out, .string x.t.nm] 62)) wr.heap.size [.int .i64 x.t.id, .int .i64 x.t.st, .int .i64 x.t.snap, .int .i64 x.t.cs, .slice x.ra x.t.rs.length x.rc, .slice x.wa x.t.ws.length x.wc, .bool x.t.out, .string x.t.nm]) := Bx.new wr [.int .i64 x.t.id, .int .i64 x.t.st, .int .i64 x.t.snap, .int .i64 x.t.cs, .slice x.ra x.t.rs.length x.rc, .slice x.wa x.t.ws.length x.wc, .bool x.t.out, .string x.t.nm] 62
   go_upto_region 4 with fail
   clear r0 r1 r2 r3 r4 r5 r6 r7
   replace HO := hide (HO.out.below hba)
   replace HG := hide (grown_trans HG.out (grown_below _ hba))
   replace BT := hide (BT.out.below hba)
   replace RX := hide (RX.out.below hba)
   replace RD := hide (RD.out.below hba)
   clear hba hbg hlg
   generalize (wr.alloc (.cells #[.int .i64 x.t.id, .int .i64 x.t.st, .int .i64 x.t.snap, .int .i64 x.t.cs, .slice x.ra x.t.rs.length x.rc, .slice x.wa x.t.ws.length x.wc, .bool x.t.out, .string x.t.nm] 62)) = w1 at *
   cases hxo : x.t.out
   ·have HA := hide (iahead x.t d x.ra x.wa x.rc x.wc da dwa drc dwc (Nat.le_trans hfx.1 (by omega)) (Nat.le_trans HFD.out.2.2.1 (by omega)) w1 RX.out.r RD.out.w)
    clear hfx
    rw [hxo] at HA
    have x0 := BX.out.c0
    have y0 := BT.out.c0
    have x1 := BX.out.c1
    have y1 := BT.out.c1
    have x2 := BX.out.c2
    have y2 := BT.out.c2
    have x3 := BX.out.c3
    have y3 := BT.out.c3
    have x4 := BX.out.c4
    have y4 := BT.out.c4
    have x5 := BX.out.c5
    have y5 := BT.out.c5
    have x6 := BX.out.c6
    have y6 := BT.out.c6
    have x7 := BX.out.c7
    have y7 := BT.out.c7
    rw [hxo] at x6
    go_wp2_with fail
    refine HA.out.mono ?_
    rintro e w2 ⟨rfl, hb2⟩
    replace HO := hide (HO.out.below hb2)
    replace HG := hide (grown_trans HG.out (grown_below _ hb2))
    replace BT := hide (BT.out.below hb2)
    clear hb2 HA RX RD BX x0 y0 x1 y1 x2 y2 x3 y3 x4 y4 x5 y5 x6 y6 x7 y7
    obtain ⟨g2, hg2, hb2, hl2, hcl, hfz⟩ := own_shapeT HO.out (by rw [mkK_len _ _ _ (by omega)]; exact HX.out) (show k < (mkK d xs k).length by rw [mkK_len _ _ _ (by omega)]; exact hkx)
    have e2 : g2 = g := by injection hg2 with h; injection h with h; exact h.symm
    subst e2
    rw [mkK_at d xs k hkx, HXE.out] at hcl
    have q6 := hcl.c6
    have f6 := hfz (k * 8 + 6)
    clear hcl hfz hg2
    have HBL : Hid (w.heap.size ≠ g2) := fun e => by have := HLT.out; omega
    have HO2 : Hid (GOwn encT 62 (w2.setCell ⟨g2, k * 8 + 6, none⟩ (.bool (ahB x.t d))) base (.slice (some ⟨g2, 0, none⟩) n c) (mkK d xs (k + 1))) := by
     show GOwn _ _ _ _ _ _
     have h := own_out (i := k) (by rw [mkK_len _ _ _ (by omega)]; exact HX.out) HO.out (by rw [mkK_len _ _ _ (by omega)]; exact hkx) (ahB x.t d)
     rw [mkK_next d xs k hkx, HXE.out]
     have e3 := mkK_at d xs k hkx
     rw [HXE.out] at e3
     rw [e3] at h
     have e4 : mkA d x = ⟨outT x.t (ahB x.t d), x.ra, x.rc, x.wa, x.wc⟩ := by show (⟨outT x.t (x.t.out || ahB x.t d), x.ra, x.rc, x.wa, x.wc⟩ : Ta) = _; rw [hxo]; rw [Bool.false_or]
     rw [e4]
     exact h
    have HG2 : Hid (w.grownBy (w2.setCell ⟨g2, k * 8 + 6, none⟩ (.bool (ahB x.t d))) (some g2)) := grown_trans HG.out (grown_set w2 g2 (k * 8 + 6) (.bool (ahB x.t d)))
    have BT2 : Hid (Bx (w2.setCell ⟨g2, k * 8 + 6, none⟩ (.bool (ahB x.t d))) w.heap.size [.int .i64 d.id, .int .i64 d.st, .int .i64 d.snap, .int .i64 d.cs, .slice da d.rs.length drc, .slice dwa d.ws.length dwc, .bool d.out, .string d.nm]) := BT.out.grown (grown_set w2 g2 (k * 8 + 6) (.bool (ahB x.t d))) HBL.out
    clear HO HG BT HBL
    go_wp2
    go_roundw
    case rel => exact ⟨k + 1, by omega, by go_num, HO2, HG2, BT2⟩
    case measure => simp [intOf]; omega
   ·obtain ⟨g2, hg2, hb2, hl2, hcl, hfz⟩ := own_shapeT HO.out (by rw [mkK_len _ _ _ (by omega)]; exact HX.out) (show k < (mkK d xs k).length by rw [mkK_len _ _ _ (by omega)]; exact hkx)
    have e2 : g2 = g := by injection hg2 with h; injection h with h; exact h.symm
    subst e2
    rw [mkK_at d xs k hkx, HXE.out] at hcl
    have q6 := hcl.c6
    have f6 := hfz (k * 8 + 6)
    clear hcl hfz hg2
    have HBL : Hid (w.heap.size ≠ g2) := fun e => by have := HLT.out; omega
    have HO2 : Hid (GOwn encT 62 (w1.setCell ⟨g2, k * 8 + 6, none⟩ (.bool true)) base (.slice (some ⟨g2, 0, none⟩) n c) (mkK d xs (k + 1))) := by
     show GOwn _ _ _ _ _ _
     have h := own_out (i := k) (by rw [mkK_len _ _ _ (by omega)]; exact HX.out) HO.out (by rw [mkK_len _ _ _ (by omega)]; exact hkx) true
     rw [mkK_next d xs k hkx, HXE.out]
     have e3 := mkK_at d xs k hkx
     rw [HXE.out] at e3
     rw [e3] at h
     have e4 : mkA d x = ⟨outT x.t true, x.ra, x.rc, x.wa, x.wc⟩ := by show (⟨outT x.t (x.t.out || ahB x.t d), x.ra, x.rc, x.wa, x.wc⟩ : Ta) = _; rw [hxo]; rw [Bool.true_or]
     rw [e4]
     exact h
    have HG2 : Hid (w.grownBy (w1.setCell ⟨g2, k * 8 + 6, none⟩ (.bool true)) (some g2)) := grown_trans HG.out (grown_set w1 g2 (k * 8 + 6) (.bool true))
    have BT2 : Hid (Bx (w1.setCell ⟨g2, k * 8 + 6, none⟩ (.bool true)) w.heap.size [.int .i64 d.id, .int .i64 d.st, .int .i64 d.snap, .int .i64 d.cs, .slice da d.rs.length drc, .slice dwa d.ws.length dwc, .bool d.out, .string d.nm]) := BT.out.grown (grown_set w1 g2 (k * 8 + 6) (.bool true)) HBL.out
    clear HO HG BT HBL
    have x6 := BX.out.c6
    rw [hxo] at x6
    go_wp2
    go_roundw
    case rel => exact ⟨k + 1, by omega, by go_num, HO2, HG2, BT2⟩
    case measure => simp [intOf]; omega
  ·have hd : ¬ (k : Int) < (n : Int) := by omega
   have HE2 : Hid (mkK d xs k = xs.map (mkA d)) := mkK_all d xs k (by rw [← HX.out]; omega)
   rw [HE2.out] at HO
   go_wp2
   go_ret
   exact ⟨rfl, HO.out, HG.out⟩

end Go.Proofs.YtmijppfppigjcaaGreat

/- OldestOf and Tidied by the document, whatever stands there: they answer something. -/
import Derived.Test.YtmijppfppigjcaaGreatPd01
import Derived.Test.YtmijppfppigjcaaGreatPd29
import Derived.Test.YtmijppfppigjcaaGreatPd35
import Derived.Laws.EntriesVeiled
import Derived.Deep.RegionHeld3
import Derived.Deep.Cut
import Derived.Deep.CutRange
namespace Go.Proofs.YtmijppfppigjcaaGreat
open Go.RowKit
open KM
open VM
attribute [local go_sem ↓] Go.wp_at_zero Go.wp_at_succ

theorem Bx.grownR {w w' : World} {b : Nat} {cs : List Value} {row : Option Nat} (h : Bx w b cs) (hg : w.grownBy w' row) (hne : ∀ g, row = some g → b ≠ g) : Bx w' b cs := by
 cases row with
 | some g => exact h.grown hg (hne g rfl)
 | none => exact h.kn (bs := []) (Kn.ofG hg (fun g e => by cases e)) (by simp)
set_option maxRecDepth 100000 in
set_option maxHeartbeats 2000000 in
theorem soldestA (b : Bb) (xs : List Ta) (oa : Option Addr) (oc : Nat) (hx : xs.length ≤ 1048576) (w : World) (hp : TRows w oa xs) :
  Calls Tryz.prog 55 #[.agg #[.slice b.va b.vs.length b.vc, .slice b.pa b.ps.length b.pc, .slice b.qa b.qs.length b.qc, .int .i64 b.cs, .int .i64 b.nx], .slice oa xs.length oc] w fun e w' => (∃ m : Int, e = .returned (.int .i64 m)) ∧ Below w.heap.size w w' := by
 have BX : Hid (Bx (w.alloc (.cells #[.slice b.va b.vs.length b.vc, .slice b.pa b.ps.length b.pc, .slice b.qa b.qs.length b.qc, .int .i64 b.cs, .int .i64 b.nx] 42)) w.heap.size [.slice b.va b.vs.length b.vc, .slice b.pa b.ps.length b.pc, .slice b.qa b.qs.length b.qc, .int .i64 b.cs, .int .i64 b.nx]) := Bx.new w [.slice b.va b.vs.length b.vc, .slice b.pa b.ps.length b.pc, .slice b.qa b.qs.length b.qc, .int .i64 b.cs, .int .i64 b.nx] 42
 have HB : Hid (Below w.heap.size w (w.alloc (.cells #[.slice b.va b.vs.length b.vc, .slice b.pa b.ps.length b.pc, .slice b.qa b.qs.length b.qc, .int .i64 b.cs, .int .i64 b.nx] 42))) := (belowRefl w).alloc (Nat.le_refl _) _
 have HP : Hid (TRows w oa xs) := hp
 clear hp
 go_enter Tryz.func55, Tryz.ntmps55
 go_upto_region 1 with fail
 generalize (w.alloc (.cells #[.slice b.va b.vs.length b.vc, .slice b.pa b.ps.length b.pc, .slice b.qa b.qs.length b.qc, .int .i64 b.cs, .int .i64 b.nx] 42)) = w0 at *
 have x3 := BX.out.c3
 go_wp2
 go_loopw [5, 6] (fun v s wr => ∃ (k : Nat) (y : Int), k ≤ xs.length ∧ v = .int .i64 y ∧ s = .int .i64 k ∧ w0 = wr) (fun _ s _ => xs.length - (intOf s).toNat)
 case atStart => exact ⟨0, _, Nat.zero_le _, rfl, rfl, rfl⟩
 case round =>
  clear x3
  obtain ⟨k, y, hk, rfl, rfl, rfl⟩ := hrel
  by_cases hlt : k < xs.length
  ·have hlt' : (k : Int) < (xs.length : Int) := by omega
   have h0 : (0 : Int) ≤ (k : Int) := by omega
   obtain ⟨bl, ol, rfl, hbl, hcl, -⟩ := (HP.out.below HB.out).cls k hlt
   have r2 := hcl.c2
   generalize xs[k].t.snap = z at r2
   clear hcl
   by_cases hz : z < y
   ·go_wp2
    go_roundw
    case rel => exact ⟨k + 1, _, by omega, rfl, by go_num, (by first | rfl | trivial)⟩
    case measure => simp [intOf]; omega
   ·go_wp2
    go_roundw
    case rel => exact ⟨k + 1, _, by omega, rfl, by go_num, (by first | rfl | trivial)⟩
    case measure => simp [intOf]; omega
  ·have hd : ¬ (k : Int) < (xs.length : Int) := by omega
   go_wp2
   go_ret
   exact ⟨⟨_, rfl⟩, HB.out⟩

set_option maxRecDepth 100000 in
set_option maxHeartbeats 4000000 in
theorem stidiedA (b : Bb) (xs : List Ta) (oa : Option Addr) (oc lo hi : Nat) (hf : BFit b) (hx : xs.length ≤ 1048576) (w : World) (hp : Bo w lo hi b) (ho : TRows w oa xs) :
  Calls Tryz.prog 31 #[.agg #[.slice b.va b.vs.length b.vc, .slice b.pa b.ps.length b.pc, .slice b.qa b.qs.length b.qc, .int .i64 b.cs, .int .i64 b.nx], .slice oa xs.length oc] w fun e w' => ∃ (va pa qa : Option Addr) (vn vc pn pc qn qc : Nat) (cs nx : Int), e = .returned (.agg #[.slice va vn vc, .slice pa pn pc, .slice qa qn qc, .int .i64 cs, .int .i64 nx]) ∧ Below w.heap.size w w' := by
 have BA : Hid (Bx (((w.alloc (.cells #[.slice b.va b.vs.length b.vc, .slice b.pa b.ps.length b.pc, .slice b.qa b.qs.length b.qc, .int .i64 b.cs, .int .i64 b.nx] 42)).alloc (.cells #[.slice none 0 0, .slice none 0 0, .slice none 0 0, .int .i64 0, .int .i64 0] 42))) w.heap.size [.slice b.va b.vs.length b.vc, .slice b.pa b.ps.length b.pc, .slice b.qa b.qs.length b.qc, .int .i64 b.cs, .int .i64 b.nx]) := by
  have h := Bx.new w [.slice b.va b.vs.length b.vc, .slice b.pa b.ps.length b.pc, .slice b.qa b.qs.length b.qc, .int .i64 b.cs, .int .i64 b.nx] 42
  exact (h.alloc _)
 have BR : Hid (Bx (((w.alloc (.cells #[.slice b.va b.vs.length b.vc, .slice b.pa b.ps.length b.pc, .slice b.qa b.qs.length b.qc, .int .i64 b.cs, .int .i64 b.nx] 42)).alloc (.cells #[.slice none 0 0, .slice none 0 0, .slice none 0 0, .int .i64 0, .int .i64 0] 42))) (w.heap.size + 1) [.slice none 0 0, .slice none 0 0, .slice none 0 0, .int .i64 0, .int .i64 0]) := by
  have h := Bx.new (w.alloc (.cells #[.slice b.va b.vs.length b.vc, .slice b.pa b.ps.length b.pc, .slice b.qa b.qs.length b.qc, .int .i64 b.cs, .int .i64 b.nx] 42)) [.slice none 0 0, .slice none 0 0, .slice none 0 0, .int .i64 0, .int .i64 0] 42
  rw [World.size_alloc] at h
  exact h
 have HB : Hid (Below w.heap.size w (((w.alloc (.cells #[.slice b.va b.vs.length b.vc, .slice b.pa b.ps.length b.pc, .slice b.qa b.qs.length b.qc, .int .i64 b.cs, .int .i64 b.nx] 42)).alloc (.cells #[.slice none 0 0, .slice none 0 0, .slice none 0 0, .int .i64 0, .int .i64 0] 42)))) := (((belowRefl w).alloc (by exact Nat.le_refl _) _).alloc (by rw [World.size_alloc]; omega) _)
 have HS0 : Hid (((w.alloc (.cells #[.slice b.va b.vs.length b.vc, .slice b.pa b.ps.length b.pc, .slice b.qa b.qs.length b.qc, .int .i64 b.cs, .int .i64 b.nx] 42)).alloc (.cells #[.slice none 0 0, .slice none 0 0, .slice none 0 0, .int .i64 0, .int .i64 0] 42)).heap.size = w.heap.size + 1 + 1) := by show _ = _; rw [World.size_alloc, World.size_alloc]
 have HF : Hid (BFit b) := hf
 have HP : Hid (Bo w lo hi b) := hp
 have HO : Hid (TRows w oa xs) := ho
 have CO := hide (fun (W : World) (h : Below w.heap.size w W) => soldestA b xs oa oc hx W (HO.out.below h))
 have hpl : b.ps.length ≤ 10000000 := Nat.le_trans hf.pl (by omega)
 have CB := hide (fun (W : World) (h : Below w.heap.size w W) => scopyBo b lo hi HF.out W (HP.out.below h))
 clear hf hp ho
 go_enter Tryz.func31, Tryz.ntmps31
 go_upto_region 1 with fail
 generalize ((w.alloc (.cells #[.slice b.va b.vs.length b.vc, .slice b.pa b.ps.length b.pc, .slice b.qa b.qs.length b.qc, .int .i64 b.cs, .int .i64 b.nx] 42)).alloc (.cells #[.slice none 0 0, .slice none 0 0, .slice none 0 0, .int .i64 0, .int .i64 0] 42)) = w0 at *
 have zs0 := HS0.out
 clear HS0
 have x0 := BA.out.c0
 have x1 := BA.out.c1
 have x2 := BA.out.c2
 have x3 := BA.out.c3
 have x4 := BA.out.c4
 go_wp2_with fail
 refine (CB.out _ HB.out).mono ?_
 rintro e w1 ⟨c, rfl, hs, hl, hb1⟩
 have z1 : w0.heap.size ≤ w1.heap.size := hb1.size
 clear hs hl
 replace BA : Hid (Bx w1 w.heap.size [.slice b.va b.vs.length b.vc, .slice b.pa b.ps.length b.pc, .slice b.qa b.qs.length b.qc, .int .i64 b.cs, .int .i64 b.nx]) := BA.out.below hb1
 replace BR : Hid (Bx w1 (w.heap.size + 1) [.slice none 0 0, .slice none 0 0, .slice none 0 0, .int .i64 0, .int .i64 0]) := BR.out.below hb1
 replace HB : Hid (Below w.heap.size w w1) := HB.out.trans (hb1.mono HB.out.size)
 clear hb1 x0 x1 x2 x3 x4
 go_upto_region 2 with fail
 have hba : Below w1.heap.size w1 (w1.alloc (.cells #[.slice c.va c.vs.length c.vc, .slice c.pa c.ps.length c.pc, .slice c.qa c.qs.length c.qc, .int .i64 c.cs, .int .i64 c.nx] 42)) := (belowRefl w1).alloc (Nat.le_refl _) _
 have zq : (w1.alloc (.cells #[.slice c.va c.vs.length c.vc, .slice c.pa c.ps.length c.pc, .slice c.qa c.qs.length c.qc, .int .i64 c.cs, .int .i64 c.nx] 42)).heap.size = w1.heap.size + 1 := World.size_alloc _ _
 replace BA : Hid (Bx ((w1.alloc (.cells #[.slice c.va c.vs.length c.vc, .slice c.pa c.ps.length c.pc, .slice c.qa c.qs.length c.qc, .int .i64 c.cs, .int .i64 c.nx] 42))) w.heap.size [.slice b.va b.vs.length b.vc, .slice b.pa b.ps.length b.pc, .slice b.qa b.qs.length b.qc, .int .i64 b.cs, .int .i64 b.nx]) := BA.out.below hba
 replace BR : Hid (Bx ((w1.alloc (.cells #[.slice c.va c.vs.length c.vc, .slice c.pa c.ps.length c.pc, .slice c.qa c.qs.length c.qc, .int .i64 c.cs, .int .i64 c.nx] 42))) (w.heap.size + 1) [.slice none 0 0, .slice none 0 0, .slice none 0 0, .int .i64 0, .int .i64 0]) := BR.out.below hba
 replace HB : Hid (Below w.heap.size w ((w1.alloc (.cells #[.slice c.va c.vs.length c.vc, .slice c.pa c.ps.length c.pc, .slice c.qa c.qs.length c.qc, .int .i64 c.cs, .int .i64 c.nx] 42)))) := HB.out.trans (hba.mono HB.out.size)
 have BO : Hid (Bx ((w1.alloc (.cells #[.slice c.va c.vs.length c.vc, .slice c.pa c.ps.length c.pc, .slice c.qa c.qs.length c.qc, .int .i64 c.cs, .int .i64 c.nx] 42))) w1.heap.size [.slice c.va c.vs.length c.vc, .slice c.pa c.ps.length c.pc, .slice c.qa c.qs.length c.qc, .int .i64 c.cs, .int .i64 c.nx]) := Bx.new w1 [.slice c.va c.vs.length c.vc, .slice c.pa c.ps.length c.pc, .slice c.qa c.qs.length c.qc, .int .i64 c.cs, .int .i64 c.nx] 42
 clear hba
 generalize (w1.alloc (.cells #[.slice c.va c.vs.length c.vc, .slice c.pa c.ps.length c.pc, .slice c.qa c.qs.length c.qc, .int .i64 c.cs, .int .i64 c.nx] 42)) = w2 at *
 have z2 : w1.heap.size + 1 ≤ w2.heap.size := Nat.le_of_eq zq.symm
 clear zq
 have x0 := BA.out.c0
 have x1 := BA.out.c1
 have x2 := BA.out.c2
 have x3 := BA.out.c3
 have x4 := BA.out.c4
 go_wp2_with fail
 refine (CO.out _ HB.out).mono ?_
 rintro e w3 ⟨⟨old, rfl⟩, hb3⟩
 have z3 : w2.heap.size ≤ w3.heap.size := hb3.size
 replace BA : Hid (Bx w3 w.heap.size [.slice b.va b.vs.length b.vc, .slice b.pa b.ps.length b.pc, .slice b.qa b.qs.length b.qc, .int .i64 b.cs, .int .i64 b.nx]) := BA.out.below hb3
 replace BR : Hid (Bx w3 (w.heap.size + 1) [.slice none 0 0, .slice none 0 0, .slice none 0 0, .int .i64 0, .int .i64 0]) := BR.out.below hb3
 replace HB : Hid (Below w.heap.size w w3) := HB.out.trans (hb3.mono HB.out.size)
 replace BO : Hid (Bx w3 w1.heap.size [.slice c.va c.vs.length c.vc, .slice c.pa c.ps.length c.pc, .slice c.qa c.qs.length c.qc, .int .i64 c.cs, .int .i64 c.nx]) := BO.out.below hb3
 clear hb3 x0 x1 x2 x3 x4
 have o1 := BO.out.c1
 have of1 := BO.out.fz 1
 have hlt0 : w1.heap.size < w3.heap.size := BO.out.lt
 go_upto_region 4 with fail
 clear o1 of1 hlt0
 have hse : (w3.setCell ⟨w1.heap.size, 1, none⟩ (.slice (some ⟨w3.heap.size, 0, none⟩) 0 0)).heap.size = w3.heap.size := by simp [World.setCell]
 have hk : Kn [w1.heap.size] w3 (w3.setCell ⟨w1.heap.size, 1, none⟩ (.slice (some ⟨w3.heap.size, 0, none⟩) 0 0)) := Kn.set w3 (w1.heap.size) 1 (.slice (some ⟨w3.heap.size, 0, none⟩) 0 0)
 replace BA : Hid (Bx ((w3.setCell ⟨w1.heap.size, 1, none⟩ (.slice (some ⟨w3.heap.size, 0, none⟩) 0 0))) w.heap.size [.slice b.va b.vs.length b.vc, .slice b.pa b.ps.length b.pc, .slice b.qa b.qs.length b.qc, .int .i64 b.cs, .int .i64 b.nx]) := BA.out.kn (hk) (by intro hm; simp only [List.mem_cons, List.not_mem_nil, or_false] at hm; omega)
 replace BR : Hid (Bx ((w3.setCell ⟨w1.heap.size, 1, none⟩ (.slice (some ⟨w3.heap.size, 0, none⟩) 0 0))) (w.heap.size + 1) [.slice none 0 0, .slice none 0 0, .slice none 0 0, .int .i64 0, .int .i64 0]) := BR.out.kn (hk) (by intro hm; simp only [List.mem_cons, List.not_mem_nil, or_false] at hm; omega)
 replace HB : Hid (Below w.heap.size w ((w3.setCell ⟨w1.heap.size, 1, none⟩ (.slice (some ⟨w3.heap.size, 0, none⟩) 0 0)))) := HB.out.trans ((hk).below (by have := HB.out.size; omega) (by intro x hx; simp only [List.mem_cons, List.not_mem_nil, or_false] at hx; omega))
 replace BO : Hid (Bx ((w3.setCell ⟨w1.heap.size, 1, none⟩ (.slice (some ⟨w3.heap.size, 0, none⟩) 0 0))) w1.heap.size [.slice c.va c.vs.length c.vc, .slice (some ⟨w3.heap.size, 0, none⟩) 0 0, .slice c.qa c.qs.length c.qc, .int .i64 c.cs, .int .i64 c.nx]) := BO.out.set 1 (.slice (some ⟨w3.heap.size, 0, none⟩) 0 0)
 have hba : Below (w3.setCell ⟨w1.heap.size, 1, none⟩ (.slice (some ⟨w3.heap.size, 0, none⟩) 0 0)).heap.size (w3.setCell ⟨w1.heap.size, 1, none⟩ (.slice (some ⟨w3.heap.size, 0, none⟩) 0 0)) ((w3.setCell ⟨w1.heap.size, 1, none⟩ (.slice (some ⟨w3.heap.size, 0, none⟩) 0 0)).alloc (.cells #[] 62)) := (belowRefl _).alloc (Nat.le_refl _) _
 replace BA : Hid (Bx (((w3.setCell ⟨w1.heap.size, 1, none⟩ (.slice (some ⟨w3.heap.size, 0, none⟩) 0 0)).alloc (.cells #[] 62))) w.heap.size [.slice b.va b.vs.length b.vc, .slice b.pa b.ps.length b.pc, .slice b.qa b.qs.length b.qc, .int .i64 b.cs, .int .i64 b.nx]) := BA.out.below hba
 replace BR : Hid (Bx (((w3.setCell ⟨w1.heap.size, 1, none⟩ (.slice (some ⟨w3.heap.size, 0, none⟩) 0 0)).alloc (.cells #[] 62))) (w.heap.size + 1) [.slice none 0 0, .slice none 0 0, .slice none 0 0, .int .i64 0, .int .i64 0]) := BR.out.below hba
 replace HB : Hid (Below w.heap.size w (((w3.setCell ⟨w1.heap.size, 1, none⟩ (.slice (some ⟨w3.heap.size, 0, none⟩) 0 0)).alloc (.cells #[] 62)))) := HB.out.trans (hba.mono HB.out.size)
 replace BO : Hid (Bx (((w3.setCell ⟨w1.heap.size, 1, none⟩ (.slice (some ⟨w3.heap.size, 0, none⟩) 0 0)).alloc (.cells #[] 62))) w1.heap.size [.slice c.va c.vs.length c.vc, .slice (some ⟨w3.heap.size, 0, none⟩) 0 0, .slice c.qa c.qs.length c.qc, .int .i64 c.cs, .int .i64 c.nx]) := BO.out.below hba
 have zq : ((w3.setCell ⟨w1.heap.size, 1, none⟩ (.slice (some ⟨w3.heap.size, 0, none⟩) 0 0)).alloc (.cells #[] 62)).heap.size = w3.heap.size + 1 := by rw [World.size_alloc, hse]
 have HL0 : Hid (Lies encT 62 ((w3.setCell ⟨w1.heap.size, 1, none⟩ (.slice (some ⟨w3.heap.size, 0, none⟩) 0 0)).alloc (.cells #[] 62)) w3.heap.size ((w3.setCell ⟨w1.heap.size, 1, none⟩ (.slice (some ⟨w3.heap.size, 0, none⟩) 0 0)).alloc (.cells #[] 62)).heap.size (.slice (some ⟨w3.heap.size, 0, none⟩) 0 0) []) := by
  have h := GOwn.empty (E := encT) (e := 62) (w3.setCell ⟨w1.heap.size, 1, none⟩ (.slice (some ⟨w3.heap.size, 0, none⟩) 0 0)) w3.heap.size (by rw [hse]; exact Nat.le_refl _)
  rw [hse] at h
  exact Lies.of h
 clear hba hk hse
 generalize ((w3.setCell ⟨w1.heap.size, 1, none⟩ (.slice (some ⟨w3.heap.size, 0, none⟩) 0 0)).alloc (.cells #[] 62)) = w4 at *
 have z4 : w3.heap.size + 1 ≤ w4.heap.size := Nat.le_of_eq zq.symm
 have y4 : w4.heap.size ≤ w3.heap.size + 1 := Nat.le_of_eq zq
 clear zq
 go_wp2
 go_loopw [7] (fun s wr => ∃ (k : Nat) (F : List Ta) (a1 : Option Addr) (c1 n1 : Nat), k ≤ b.ps.length ∧ s = .int .i64 k ∧ Hid (n1 = F.length ∧ n1 ≤ k) ∧ Hid (Lies encT 62 wr w3.heap.size wr.heap.size (.slice a1 n1 c1) F) ∧ Hid (Bx wr w1.heap.size [.slice c.va c.vs.length c.vc, .slice a1 n1 c1, .slice c.qa c.qs.length c.qc, .int .i64 c.cs, .int .i64 c.nx]) ∧ Hid (Kn [w1.heap.size, w3.heap.size] w4 wr)) (fun s _ => b.ps.length - (intOf s).toNat)
 case atStart => exact ⟨0, [], _, _, _, Nat.zero_le _, rfl, ⟨rfl, Nat.le_refl _⟩, HL0, BO, Kn.refl _ _⟩
 case round =>
  clear HL0 BO
  obtain ⟨k, F, a1, c1, n1, hk, rfl, HFL, HLw, BO, HK⟩ := hrel
  have zr := HK.out.size
  by_cases hlt : k < b.ps.length
  ·have hlt' : (k : Int) < (b.ps.length : Int) := by omega
   have h0 : (0 : Int) ≤ (k : Int) := by omega
   obtain ⟨zp_, zq_, _, _, hT⟩ := HP.out.p.ea _ (List.getElem_mem hlt)
   obtain ⟨bl, ol, hqa, hbl, hc, -⟩ := HP.out.rows.p.cls k hlt
   have hfx : TFit b.ps[k].t := HF.out.p.2 _ (List.mem_map.2 ⟨_, List.getElem_mem hlt, rfl⟩)
   have hln : F.length ≤ 100000000 := by have := HFL.out.1; have := HFL.out.2; omega
   obtain ⟨x, hx⟩ : ∃ x, x = b.ps[k] := ⟨_, rfl⟩
   rw [← hx] at hc hfx hT
   clear hx
   have KB : Hid (∀ W, Kn [w1.heap.size, w3.heap.size] w4 W → Below w.heap.size w W) := fun W h => HB.out.trans (h.below HB.out.size (by intro x hx; simp only [List.mem_cons, List.not_mem_nil, or_false] at hx; omega))
   have HC : Hid (Cls w bl (ol + k * 8) x) := hc
   have HS : Hid (∀ W, Kn [w1.heap.size, w3.heap.size] w4 W → W.cell? ⟨w.heap.size, 1, none⟩ = some (.slice (some ⟨bl, ol, none⟩) b.ps.length b.pc) ∧ W.cell? ⟨bl, ol + k * 8, none⟩ = some (.int .i64 x.t.id) ∧ W.cell? ⟨bl, ol + k * 8 + 1, none⟩ = some (.int .i64 x.t.st) ∧ W.cell? ⟨bl, ol + k * 8 + 2, none⟩ = some (.int .i64 x.t.snap) ∧ W.cell? ⟨bl, ol + k * 8 + 3, none⟩ = some (.int .i64 x.t.cs) ∧ W.cell? ⟨bl, ol + k * 8 + 4, none⟩ = some (.slice x.ra x.t.rs.length x.rc) ∧ W.cell? ⟨bl, ol + k * 8 + 5, none⟩ = some (.slice x.wa x.t.ws.length x.wc) ∧ W.cell? ⟨bl, ol + k * 8 + 6, none⟩ = some (.bool x.t.out) ∧ W.cell? ⟨bl, ol + k * 8 + 7, none⟩ = some (.string x.t.nm)) := fun W h => by
    have hq := (BA.out.kn h (by intro hm; simp only [List.mem_cons, List.not_mem_nil, or_false] at hm; omega)).c1
    rw [hqa] at hq
    have hcl := HC.out.low (KB.out W h) hbl
    exact ⟨hq, hcl.c0, hcl.c1, hcl.c2, hcl.c3, hcl.c4, hcl.c5, hcl.c6, hcl.c7⟩
   have Kd : Hid (Kn [w1.heap.size, w3.heap.size] w4 wr.drew) := HK.out.trans (Kn.ofBelow ((belowRefl wr).drew))
   have Bd : Hid (Bx wr.drew w1.heap.size [.slice c.va c.vs.length c.vc, .slice a1 n1 c1, .slice c.qa c.qs.length c.qc, .int .i64 c.cs, .int .i64 c.nx]) := BO.out.drew
   obtain ⟨zm, _, _, hR, hW⟩ := hT.ex
   have CTd := hide (scopyT x.t x.ra x.wa x.rc x.wc zp_ zm (Nat.le_trans hfx.1 (by omega)) (Nat.le_trans hfx.2.2.1 (by omega)) wr.drew (hR.own.below (KB.out _ Kd.out)) (hW.own.below (KB.out _ Kd.out)))
   clear hc hT hR hW hfx hqa
   obtain ⟨x1, -, -, -, r3, -, -, -, -⟩ := HS.out _ HK.out
   by_cases hgt : old < x.t.cs
   ·have hd3 : decide (old < x.t.cs) = true := decide_eq_true hgt
    go_wp2
    refine wp_region_held_drew (S := fun w' => w'.cell? ⟨w.heap.size, 1, none⟩ = some (.slice (some ⟨bl, ol, none⟩) b.ps.length b.pc) ∧ w'.cell? ⟨bl, ol + k * 8, none⟩ = some (.int .i64 x.t.id) ∧ w'.cell? ⟨bl, ol + k * 8 + 1, none⟩ = some (.int .i64 x.t.st) ∧ w'.cell? ⟨bl, ol + k * 8 + 2, none⟩ = some (.int .i64 x.t.snap) ∧ w'.cell? ⟨bl, ol + k * 8 + 3, none⟩ = some (.int .i64 x.t.cs) ∧ w'.cell? ⟨bl, ol + k * 8 + 4, none⟩ = some (.slice x.ra x.t.rs.length x.rc) ∧ w'.cell? ⟨bl, ol + k * 8 + 5, none⟩ = some (.slice x.wa x.t.ws.length x.wc) ∧ w'.cell? ⟨bl, ol + k * 8 + 6, none⟩ = some (.bool x.t.out) ∧ w'.cell? ⟨bl, ol + k * 8 + 7, none⟩ = some (.string x.t.nm)) (by kernel_rfl) (HS.out _ Kd.out) (fun hHeld => ?_)
    clear x1 r3 hgt hd3
    (refine ti 0 ?_; simp only [Act.put, tA, tB, tD, tE, tF])
    (refine ti 2 ?_; simp only [Act.put, tA, tB, tC, tD, tE, tF])
    (refine ti 3 ?_; simp only [Act.put, tA, tB, tC, tD, tE, tF])
    (refine ti 4 ?_; simp only [Act.put, tA, tB, tC, tD, tE, tF])
    (refine ti 5 ?_; simp only [Act.put, tA, tB, tC, tD, tE, tF])
    (refine ti 6 ?_; simp only [Act.put, tA, tB, tC, tD, tE, tF])
    refine wpAnyH_ready (rs := [1, 7]) (by kernel_rfl) (by simp) ?_
    refine AllReadyH.cons rfl (fun K hK => ?_) (AllReadyH.cons rfl (fun K hK => ?_) AllReadyH.nil)
    focus
     have y2 := Bd.out.c1
     go_simp
     refine hK.out _ _ (HS.out _ Kd.out) (fun _ => ?_)
     clear hK K y2
     refine wpAnyH_ready (rs := [7]) (by kernel_rfl) (by simp) ?_
     refine AllReadyH.cons rfl (fun K hK => ?_) AllReadyH.nil
    all_goals
     go_simp
     go_wp2_with fail
     refine CTd.out.mono ?_
     rintro e w5 ⟨ra2, rc2, wa2, wc2, rfl, -, hb4⟩
     have HU := hide (undrew hb4)
     have zu := HU.out.size
     have K5 : Hid (Kn [w1.heap.size, w3.heap.size] w4 w5) := HK.out.trans (Kn.ofBelow HU.out)
     have B5 : Hid (Bx w5 w1.heap.size [.slice c.va c.vs.length c.vc, .slice a1 n1 c1, .slice c.qa c.qs.length c.qc, .int .i64 c.cs, .int .i64 c.nx]) := BO.out.below HU.out
     have O5 := hide (HLw.out.own.below HU.out)
     clear hb4 HU
     go_wp2_with fail
     refine hK.out _ _ (HS.out _ K5.out) (fun _ => ?_)
     clear hK K
    focus
     refine wpAnyH_ready (rs := [8]) (by kernel_rfl) (by simp) ?_
     refine AllReadyH.cons rfl (fun K hK => ?_) AllReadyH.nil
    rotate_left
    refine wpAnyH_ready (rs := [1, 8]) (by kernel_rfl) (by simp) ?_
    refine AllReadyH.cons rfl (fun K hK => ?_) (AllReadyH.cons rfl (fun K hK => ?_) AllReadyH.nil)
    focus
     have y2 := B5.out.c1
     go_simp
     refine hK.out _ _ (HS.out _ K5.out) (fun _ => ?_)
     clear hK K y2
     refine wpAnyH_ready (rs := [8]) (by kernel_rfl) (by simp) ?_
     refine AllReadyH.cons rfl (fun K hK => ?_) AllReadyH.nil
    all_goals
     go_simp
     have hba : Below w5.heap.size w5 (w5.alloc (.cells #[.int .i64 x.t.id, .int .i64 x.t.st, .int .i64 x.t.snap, .int .i64 x.t.cs, .slice ra2 x.t.rs.length rc2, .slice wa2 x.t.ws.length wc2, .bool x.t.out, .string x.t.nm] 62)) := (belowRefl w5).alloc (Nat.le_refl _) _
     have HBK : Hid ((w5.alloc (.cells #[.int .i64 x.t.id, .int .i64 x.t.st, .int .i64 x.t.snap, .int .i64 x.t.cs, .slice ra2 x.t.rs.length rc2, .slice wa2 x.t.ws.length wc2, .bool x.t.out, .string x.t.nm] 62)).heap[w5.heap.size]? = some (.cells (encT.enc (⟨x.t, ra2, rc2, wa2, wc2⟩ : Ta)).toArray 62 (0, 0))) := heap_alloc_new w5 _
     have K6 := hide (K5.out.trans (Kn.ofBelow hba))
     have B6 := hide (B5.out.below hba)
     have O6 := hide (O5.out.below hba)
     have zq : (w5.alloc (.cells #[.int .i64 x.t.id, .int .i64 x.t.st, .int .i64 x.t.snap, .int .i64 x.t.cs, .slice ra2 x.t.rs.length rc2, .slice wa2 x.t.ws.length wc2, .bool x.t.out, .string x.t.nm] 62)).heap.size = w5.heap.size + 1 := World.size_alloc _ _
     clear hba K5 O5
     generalize w5.alloc (.cells #[.int .i64 x.t.id, .int .i64 x.t.st, .int .i64 x.t.snap, .int .i64 x.t.cs, .slice ra2 x.t.rs.length rc2, .slice wa2 x.t.ws.length wc2, .bool x.t.out, .string x.t.nm] 62) = w6 at *
     refine hK.out _ _ (HS.out _ K6.out) (fun _ => ?_)
     clear hK K
    rotate_left
    focus
     refine wpAnyH_ready (rs := [1]) (by kernel_rfl) (by simp) ?_
     refine AllReadyH.cons rfl (fun K hK => ?_) AllReadyH.nil
     have y2b := B5.out.c1
     have y2 := B6.out.c1
     go_simp
     refine hK.out _ _ (HS.out _ K6.out) (fun _ => ?_)
     clear hK K y2
     clear y2b
    all_goals
     refine wpAnyH_ready (rs := [9]) (by kernel_rfl) (by simp) ?_
     refine AllReadyH.cons rfl (fun K hK => ?_) AllReadyH.nil
     have hbb : w3.heap.size ≤ w6.heap.size := by omega
     refine stepAppK (E := encT) 40 62 104 _ Tryz.underlying40 Tryz.info62 rfl (by omega) rfl _ _ rfl (v := .slice a1 n1 c1) (⟨x.t, ra2, rc2, wa2, wc2⟩ : Ta) tone rfl O6.out rfl HBK.out hln hbb ?_
     intro g2 cap2 w7 ho6 hg6 hg7 hlt6
     have z7 : w6.heap.size ≤ w7.heap.size := hg6.size
     have HLw7 : Hid (Lies encT 62 w7 w3.heap.size w7.heap.size (.slice (some ⟨g2, 0, none⟩) (F.length + 1) cap2) (F ++ [(⟨x.t, ra2, rc2, wa2, wc2⟩ : Ta)])) := Lies.of ho6
     have K7 : Hid (Kn [w1.heap.size, w3.heap.size] w4 w7) := K6.out.transG hg6 (fun g e => by
      have h1 := HLw.out.lo g e
      simp only [List.mem_cons, List.not_mem_nil, or_false]
      omega)
     have B7 : Hid (Bx w7 w1.heap.size [.slice c.va c.vs.length c.vc, .slice a1 n1 c1, .slice c.qa c.qs.length c.qc, .int .i64 c.cs, .int .i64 c.nx]) := B6.out.grownR hg6 (fun g e => by have h1 := HLw.out.lo g e; omega)
     clear ho6 hg6 hg7 hlt6 O6 HBK hbb zq K6 B6
     refine hK.out _ _ (HS.out _ K7.out) (fun _ => ?_)
     clear hK K
     (refine ti 10 ?_; simp only [Act.put, tA, tB, tC, tD, tE, tF])
     refine wpAnyH_ready (rs := [11]) (by kernel_rfl) (by simp) ?_
     refine AllReadyH.cons rfl (fun K hK => ?_) AllReadyH.nil
     have y2 := B7.out.c1
     have fy2 := B7.out.fz 1
     go_simp
     have K8 : Hid (Kn [w1.heap.size, w3.heap.size] w4 (w7.setCell ⟨w1.heap.size, 1, none⟩ (.slice (some ⟨g2, 0, none⟩) (F.length + 1) cap2))) := K7.out.transU (Kn.set w7 w1.heap.size 1 (.slice (some ⟨g2, 0, none⟩) (F.length + 1) cap2)) (by intro x hx; simp only [List.mem_cons, List.not_mem_nil, or_false] at hx ⊢; omega)
     have B8 : Hid (Bx (w7.setCell ⟨w1.heap.size, 1, none⟩ (.slice (some ⟨g2, 0, none⟩) (F.length + 1) cap2)) w1.heap.size [.slice c.va c.vs.length c.vc, .slice (some ⟨g2, 0, none⟩) (F.length + 1) cap2, .slice c.qa c.qs.length c.qc, .int .i64 c.cs, .int .i64 c.nx]) := B7.out.set 1 _
     have z8 : (w7.setCell ⟨w1.heap.size, 1, none⟩ (.slice (some ⟨g2, 0, none⟩) (F.length + 1) cap2)).heap.size = w7.heap.size := by simp [World.setCell]
     have HLw8 : Hid (Lies encT 62 (w7.setCell ⟨w1.heap.size, 1, none⟩ (.slice (some ⟨g2, 0, none⟩) (F.length + 1) cap2)) w3.heap.size (w7.setCell ⟨w1.heap.size, 1, none⟩ (.slice (some ⟨g2, 0, none⟩) (F.length + 1) cap2)).heap.size (.slice (some ⟨g2, 0, none⟩) (F.length + 1) cap2) (F ++ [(⟨x.t, ra2, rc2, wa2, wc2⟩ : Ta)])) := (HLw7.out.kn (Kn.set w7 w1.heap.size 1 (.slice (some ⟨g2, 0, none⟩) (F.length + 1) cap2)) (by intro x hx; simp only [List.mem_cons, List.not_mem_nil, or_false] at hx; omega)).mono (Nat.le_refl _) (by omega)
     have HFL8 : Hid (F.length + 1 = (F ++ [(⟨x.t, ra2, rc2, wa2, wc2⟩ : Ta)]).length ∧ F.length + 1 ≤ k + 1) := ⟨by rw [List.length_append]; rfl, Nat.succ_le_succ (by have := HFL.out.1; have := HFL.out.2; omega)⟩
     refine hK.out _ _ (HS.out _ K8.out) (fun _ => ?_)
     clear hK K y2 fy2 z8
     refine wpAnyH_done (by kernel_rfl) ?_ _
     go_wp2
     go_roundw
     case rel => exact ⟨k + 1, _, _, _, _, by omega, by go_num, HFL8, HLw8, B8, K8⟩
     case measure => simp [intOf]; omega
   ·have hd3 : decide (old < x.t.cs) = false := decide_eq_false hgt
    clear Kd Bd CTd
    go_wp2
    go_roundw
    case rel => exact ⟨k + 1, F, a1, c1, n1, by omega, by go_num, ⟨HFL.out.1, Nat.le_succ_of_le HFL.out.2⟩, HLw, BO, HK⟩
    case measure => simp [intOf]; omega
  ·have hd : ¬ (k : Int) < (b.ps.length : Int) := by omega
   have z_ := BO.out.lt
   replace BA : Hid (Bx wr w.heap.size [.slice b.va b.vs.length b.vc, .slice b.pa b.ps.length b.pc, .slice b.qa b.qs.length b.qc, .int .i64 b.cs, .int .i64 b.nx]) := BA.out.kn HK.out (by intro hm; simp only [List.mem_cons, List.not_mem_nil, or_false] at hm; omega)
   replace BR : Hid (Bx wr (w.heap.size + 1) [.slice none 0 0, .slice none 0 0, .slice none 0 0, .int .i64 0, .int .i64 0]) := BR.out.kn HK.out (by intro hm; simp only [List.mem_cons, List.not_mem_nil, or_false] at hm; omega)
   replace HB : Hid (Below w.heap.size w wr) := HB.out.trans (HK.out.below HB.out.size (by intro x hx; simp only [List.mem_cons, List.not_mem_nil, or_false] at hx; omega))
   clear HLw HFL
   have x1 := BA.out.c1
   go_upto_region 9 with fail
   clear x1
   have x0 := BA.out.c0
   go_wp2_with fail
   refine (strim b.vs b.va b.vc old (Nat.le_trans HF.out.vl (by omega)) _ (HP.out.below HB.out).rows.v).mono ?_
   rintro e w5_ ⟨a2, c2, rfl, ho, hb5⟩
   have z5 : wr.heap.size ≤ w5_.heap.size := hb5.size
   clear ho
   replace BA : Hid (Bx w5_ w.heap.size [.slice b.va b.vs.length b.vc, .slice b.pa b.ps.length b.pc, .slice b.qa b.qs.length b.qc, .int .i64 b.cs, .int .i64 b.nx]) := BA.out.below hb5
   replace BR : Hid (Bx w5_ (w.heap.size + 1) [.slice none 0 0, .slice none 0 0, .slice none 0 0, .int .i64 0, .int .i64 0]) := BR.out.below hb5
   replace HB : Hid (Below w.heap.size w w5_) := HB.out.trans (hb5.mono HB.out.size)
   replace BO : Hid (Bx w5_ w1.heap.size [.slice c.va c.vs.length c.vc, .slice a1 n1 c1, .slice c.qa c.qs.length c.qc, .int .i64 c.cs, .int .i64 c.nx]) := BO.out.below hb5
   clear hb5 x0
   have o0 := BO.out.c0
   have of0 := BO.out.fz 0
   go_upto_region 10 with fail
   clear o0 of0
   have zq : (w5_.setCell ⟨w1.heap.size, 0, none⟩ (.slice a2 (trimB old b.vs).length c2)).heap.size = w5_.heap.size := by simp [World.setCell]
   have hk : Kn [w1.heap.size] w5_ (w5_.setCell ⟨w1.heap.size, 0, none⟩ (.slice a2 (trimB old b.vs).length c2)) := Kn.set w5_ (w1.heap.size) 0 (.slice a2 (trimB old b.vs).length c2)
   replace BA : Hid (Bx ((w5_.setCell ⟨w1.heap.size, 0, none⟩ (.slice a2 (trimB old b.vs).length c2))) w.heap.size [.slice b.va b.vs.length b.vc, .slice b.pa b.ps.length b.pc, .slice b.qa b.qs.length b.qc, .int .i64 b.cs, .int .i64 b.nx]) := BA.out.kn (hk) (by intro hm; simp only [List.mem_cons, List.not_mem_nil, or_false] at hm; omega)
   replace BR : Hid (Bx ((w5_.setCell ⟨w1.heap.size, 0, none⟩ (.slice a2 (trimB old b.vs).length c2))) (w.heap.size + 1) [.slice none 0 0, .slice none 0 0, .slice none 0 0, .int .i64 0, .int .i64 0]) := BR.out.kn (hk) (by intro hm; simp only [List.mem_cons, List.not_mem_nil, or_false] at hm; omega)
   replace HB : Hid (Below w.heap.size w ((w5_.setCell ⟨w1.heap.size, 0, none⟩ (.slice a2 (trimB old b.vs).length c2)))) := HB.out.trans ((hk).below (by have := HB.out.size; omega) (by intro x hx; simp only [List.mem_cons, List.not_mem_nil, or_false] at hx; omega))
   replace BO : Hid (Bx ((w5_.setCell ⟨w1.heap.size, 0, none⟩ (.slice a2 (trimB old b.vs).length c2))) w1.heap.size [.slice a2 (trimB old b.vs).length c2, .slice a1 n1 c1, .slice c.qa c.qs.length c.qc, .int .i64 c.cs, .int .i64 c.nx]) := BO.out.set 0 (.slice a2 (trimB old b.vs).length c2)
   clear hk
   generalize (w5_.setCell ⟨w1.heap.size, 0, none⟩ (.slice a2 (trimB old b.vs).length c2)) = w6 at *
   have z6 : w5_.heap.size ≤ w6.heap.size := Nat.le_of_eq zq.symm
   have y6 : w6.heap.size ≤ w5_.heap.size := Nat.le_of_eq zq
   clear zq
   have o0 := BO.out.c0
   have o1 := BO.out.c1
   have o2 := BO.out.c2
   have o3 := BO.out.c3
   have o4 := BO.out.c4
   have z0 := BR.out.c0
   have zf0 := BR.out.fz 0
   have z1 := BR.out.c1
   have zf1 := BR.out.fz 1
   have z2 := BR.out.c2
   have zf2 := BR.out.fz 2
   have z3 := BR.out.c3
   have zf3 := BR.out.fz 3
   have z4 := BR.out.c4
   have zf4 := BR.out.fz 4
   have hk : Kn [w.heap.size + 1] w6 (((((w6.setCell ⟨w.heap.size + 1, 0, none⟩ (.slice a2 (trimB old b.vs).length c2)).setCell ⟨w.heap.size + 1, 1, none⟩ (.slice a1 n1 c1)).setCell ⟨w.heap.size + 1, 2, none⟩ (.slice c.qa c.qs.length c.qc)).setCell ⟨w.heap.size + 1, 3, none⟩ (.int .i64 c.cs)).setCell ⟨w.heap.size + 1, 4, none⟩ (.int .i64 c.nx)) := kn_s5 w6 (w.heap.size + 1) (.slice a2 (trimB old b.vs).length c2) (.slice a1 n1 c1) (.slice c.qa c.qs.length c.qc) (.int .i64 c.cs) (.int .i64 c.nx)
   have zq : (((((w6.setCell ⟨w.heap.size + 1, 0, none⟩ (.slice a2 (trimB old b.vs).length c2)).setCell ⟨w.heap.size + 1, 1, none⟩ (.slice a1 n1 c1)).setCell ⟨w.heap.size + 1, 2, none⟩ (.slice c.qa c.qs.length c.qc)).setCell ⟨w.heap.size + 1, 3, none⟩ (.int .i64 c.cs)).setCell ⟨w.heap.size + 1, 4, none⟩ (.int .i64 c.nx)).heap.size = w6.heap.size := by simp [World.setCell]
   have HBf : Hid (Below w.heap.size w (((((w6.setCell ⟨w.heap.size + 1, 0, none⟩ (.slice a2 (trimB old b.vs).length c2)).setCell ⟨w.heap.size + 1, 1, none⟩ (.slice a1 n1 c1)).setCell ⟨w.heap.size + 1, 2, none⟩ (.slice c.qa c.qs.length c.qc)).setCell ⟨w.heap.size + 1, 3, none⟩ (.int .i64 c.cs)).setCell ⟨w.heap.size + 1, 4, none⟩ (.int .i64 c.nx))) := HB.out.trans (hk.below HB.out.size (by intro x hx; simp only [List.mem_cons, List.not_mem_nil, or_false] at hx; omega))
   clear hk zq HB
   go_wp2
   refine bodyPost_ret (v := .agg #[.slice a2 (trimB old b.vs).length c2, .slice a1 n1 c1, .slice c.qa c.qs.length c.qc, .int .i64 c.cs, .int .i64 c.nx]) (by simp [results, Tryz.results31, go_sem, z0, z1, z2, z3, z4]) rfl ⟨_, _, _, _, _, _, _, _, _, _, _, rfl, HBf.out⟩

end Go.Proofs.YtmijppfppigjcaaGreat

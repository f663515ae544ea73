/- What stays: whether a base is right, as the program asks it. -/
import Derived.Test.YtjeicgibddfifaaGreatPa17
import Derived.Test.YtjeicgibddfifaaGreatPa11
import Derived.Deep.RegionHeld3
import Derived.Deep.Cut
import Derived.Deep.CutRange
import Derived.Laws.EntriesVeiled
namespace Go.Proofs.YtjeicgibddfifaaGreat
open Go.RowKit
open KM
attribute [local go_sem ↓] Go.wp_at_zero Go.wp_at_succ

set_option maxRecDepth 100000 in
set_option maxHeartbeats 2000000 in
theorem asc36 (xs : List Ta) (a : Option Addr) (c n : Nat) (hx : n = xs.length) (hn : n ≤ 10000000) (w : World) (hp : TRows w a xs) :
  Calls Tryz.prog 64 #[.agg #[.slice a n c, .func (.func 135) #[] #[]]] w fun e w' => e = .returned (.bool (ascIB (xs.map fun x : Ta => x.t.cs))) ∧ Below w.heap.size w w' := by
 have HB0 : Hid (Below w.heap.size w (w.alloc (.cells #[.slice a n c, .func (.func 135) #[] #[]] 102))) := (belowRefl w).alloc (Nat.le_refl _) _
 have H := hide (keys58 xs a c n hx hn (w.alloc (.cells #[.slice a n c, .func (.func 135) #[] #[]] 102)) (hp.below HB0.out))
 have HX : Hid (n = (xs.map fun x : Ta => x.t.cs).length) := by show _ = _; rw [List.length_map, hx]
 clear hp hx
 go_enter Tryz.func64, Tryz.ntmps64
 go_wp2_with fail
 refine H.out.mono ?_
 rintro e w1 ⟨a1, c1, rfl, ho, hb1⟩
 have HB1 : Hid (Below w.heap.size w w1) := HB0.out.trans (hb1.mono HB0.out.size)
 have RO : Hid (GRow encI w1 a1 (xs.map fun x : Ta => x.t.cs)) := by have h := ho; rw [HX.out] at h; exact h.grow
 clear ho hb1 H
 go_wp2_with fail
 refine (asc59 (xs.map fun x : Ta => x.t.cs) a1 c1 n HX.out (by omega) _ RO.out).mono ?_
 rintro e w2 ⟨rfl, hb2⟩
 have HB2 : Hid (Below w.heap.size w w2) := HB1.out.trans (hb2.mono HB1.out.size)
 clear hb2
 go_wp2
 go_ret
 exact ⟨rfl, HB2.out⟩

set_option maxRecDepth 100000 in
set_option maxHeartbeats 2000000 in
theorem asc40 (xs : List Ta) (a : Option Addr) (c n : Nat) (hx : n = xs.length) (hn : n ≤ 10000000) (w : World) (hp : TRows w a xs) :
  Calls Tryz.prog 102 #[.agg #[.slice a n c, .func (.func 136) #[] #[]]] w fun e w' => e = .returned (.bool (ascSB (xs.map fun x : Ta => x.t.nm))) ∧ Below w.heap.size w w' := by
 have HB0 : Hid (Below w.heap.size w (w.alloc (.cells #[.slice a n c, .func (.func 136) #[] #[]] 137))) := (belowRefl w).alloc (Nat.le_refl _) _
 have H := hide (keys63 xs a c n hx hn (w.alloc (.cells #[.slice a n c, .func (.func 136) #[] #[]] 137)) (hp.below HB0.out))
 have HX : Hid (n = (xs.map fun x : Ta => x.t.nm).length) := by show _ = _; rw [List.length_map, hx]
 clear hp hx
 go_enter Tryz.func102, Tryz.ntmps102
 go_wp2_with fail
 refine H.out.mono ?_
 rintro e w1 ⟨a1, c1, rfl, ho, hb1⟩
 have HB1 : Hid (Below w.heap.size w w1) := HB0.out.trans (hb1.mono HB0.out.size)
 have RO : Hid (GRow encS w1 a1 (xs.map fun x : Ta => x.t.nm)) := by have h := ho; rw [HX.out] at h; exact h.grow
 clear ho hb1 H
 go_wp2_with fail
 refine (asc64 (xs.map fun x : Ta => x.t.nm) a1 c1 n HX.out (by omega) _ RO.out).mono ?_
 rintro e w2 ⟨rfl, hb2⟩
 have HB2 : Hid (Below w.heap.size w w2) := HB1.out.trans (hb2.mono HB1.out.size)
 clear hb2
 go_wp2
 go_ret
 exact ⟨rfl, HB2.out⟩

set_option maxRecDepth 100000 in
set_option maxHeartbeats 2000000 in
theorem unlike44 (xs : List Ta) (a : Option Addr) (c n : Nat) (hx : n = xs.length) (hn : n ≤ 10000000) (w : World) (hp : TRows w a xs) :
  Calls Tryz.prog 65 #[.agg #[.slice a n c, .func (.func 105) #[] #[]]] w fun e w' => e = .returned (.bool (ascIB (sortI (xs.map fun x : Ta => x.t.id)))) ∧ Below w.heap.size w w' := by
 have HB0 : Hid (Below w.heap.size w (w.alloc (.cells #[.slice a n c, .func (.func 105) #[] #[]] 102))) := (belowRefl w).alloc (Nat.le_refl _) _
 have H := hide (keys67 xs a c n hx hn (w.alloc (.cells #[.slice a n c, .func (.func 105) #[] #[]] 102)) (hp.below HB0.out))
 have HX : Hid (n = (xs.map fun x : Ta => x.t.id).length) := by show _ = _; rw [List.length_map, hx]
 clear hp hx
 go_enter Tryz.func65, Tryz.ntmps65
 go_wp2_with fail
 refine H.out.mono ?_
 rintro e w1 ⟨a1, c1, rfl, ho, hb1⟩
 have HB1 : Hid (Below w.heap.size w w1) := HB0.out.trans (hb1.mono HB0.out.size)
 have hbs : w.heap.size ≤ (w.alloc (.cells #[.slice a n c, .func (.func 105) #[] #[]] 102)).heap.size + 1 := by simp; omega
 have RO : Hid (GOwn encI 3 w1 w.heap.size (.slice a1 n c1) (xs.map fun x : Ta => x.t.id)) := GOwn.mono ho hbs
 have H2 := hide (sort89 (xs.map fun x : Ta => x.t.id) w.heap.size (.slice a1 n c1) w1 (by rw [← HX.out]; omega) RO.out)
 clear ho hb1 H hbs
 go_wp2_with fail
 refine H2.out.mono ?_
 rintro e w2 ⟨rfl, ho2, hb2⟩
 have HB2 : Hid (Below w.heap.size w w2) := HB1.out.trans hb2
 have HX2 : Hid (n = (sortI (xs.map fun x : Ta => x.t.id)).length) := by show _ = _; rw [sortI_len]; exact HX.out
 have RO2 : Hid (GRow encI w2 a1 (sortI (xs.map fun x : Ta => x.t.id))) := by have h := ho2; rw [HX2.out] at h; exact h.grow
 clear ho2 hb2 H2
 go_wp2_with fail
 refine (asc59 (sortI (xs.map fun x : Ta => x.t.id)) a1 c1 n HX2.out (by omega) _ RO2.out).mono ?_
 rintro e w3 ⟨rfl, hb3⟩
 have HB3 : Hid (Below w.heap.size w w3) := HB2.out.trans (hb3.mono HB2.out.size)
 clear hb3
 go_wp2
 go_ret
 exact ⟨rfl, HB3.out⟩

def pastB (b : Bb) : Bool := decide (b.ps.length ≤ 12) && (ascIB (b.ps.map fun x : Ta => x.t.cs) && (!(b.ps.any (fun x : Ta => decide (b.cs < x.t.cs))) && b.ps.all (inStB 3)))
def readyOkB (b : Bb) : Bool := decide (b.qs.length ≤ 3) && (ascSB (b.qs.map fun x : Ta => x.t.nm) && (!(b.qs.any (fun x : Ta => decide (b.cs < x.t.snap))) && b.qs.all (inStB 2)))
def idsB (b : Bb) : Bool := ascIB (sortI ((b.ps ++ b.qs).map fun x : Ta => x.t.id)) && !((b.ps ++ b.qs).any (fun x : Ta => decide (b.nx - 1 < x.t.id)))

set_option maxRecDepth 100000 in
set_option maxHeartbeats 4000000 in
theorem past19 (b : Bb) (hf : BFit b) (w : World) (hp : BRows w b) :
  Calls Tryz.prog 56 #[.agg #[.slice b.va b.vs.length b.vc, .slice b.pa b.ps.length b.pc, .slice b.qa b.qs.length b.qc, .int .i64 b.cs, .int .i64 b.nx]] w fun e w' => e = .returned (.bool (pastB b)) ∧ Below w.heap.size w w' := by
 have BA0 : Hid (Bx (w.alloc (.cells #[.slice b.va b.vs.length b.vc, .slice b.pa b.ps.length b.pc, .slice b.qa b.qs.length b.qc, .int .i64 b.cs, .int .i64 b.nx] 33)) w.heap.size [.slice b.va b.vs.length b.vc, .slice b.pa b.ps.length b.pc, .slice b.qa b.qs.length b.qc, .int .i64 b.cs, .int .i64 b.nx]) := Bx.new w [.slice b.va b.vs.length b.vc, .slice b.pa b.ps.length b.pc, .slice b.qa b.qs.length b.qc, .int .i64 b.cs, .int .i64 b.nx] 33
 have HB0 : Hid (Below w.heap.size w (w.alloc (.cells #[.slice b.va b.vs.length b.vc, .slice b.pa b.ps.length b.pc, .slice b.qa b.qs.length b.qc, .int .i64 b.cs, .int .i64 b.nx] 33))) := (belowRefl w).alloc (Nat.le_refl _) _
 have HP : Hid (TRows w b.pa b.ps) := hp.p
 have C1 : Hid (∀ W : World, Below w.heap.size w W → Calls Tryz.prog 64 #[.agg #[.slice b.pa b.ps.length b.pc, .func (.func 135) #[] #[]]] W fun e w' => e = .returned (.bool (ascIB (b.ps.map fun x : Ta => x.t.cs))) ∧ Below W.heap.size W w') := fun W h => asc36 b.ps b.pa b.pc b.ps.length rfl (Nat.le_trans hf.pl (by omega)) W (HP.out.below h)
 have C2 : Hid (∀ W : World, Below w.heap.size w W → Calls Tryz.prog 61 #[.agg #[.slice b.pa b.ps.length b.pc, .func (.func 135) #[] #[]], .int .i64 b.cs] W fun e w' => e = .returned (.bool (b.ps.any (fun x : Ta => decide (b.cs < x.t.cs)))) ∧ Below W.heap.size W w') := fun W h => any58 b.ps b.pa b.pc b.ps.length rfl (Nat.le_trans hf.pl (by omega)) b.cs W (HP.out.below h)
 have C3 : Hid (∀ W : World, Below w.heap.size w W → Calls Tryz.prog 59 #[.slice b.pa b.ps.length b.pc, .int .i64 3] W fun e w' => e = .returned (.bool (b.ps.all (inStB 3))) ∧ Below W.heap.size W w') := fun W h => allin38 b.ps b.pa b.pc b.ps.length 3 rfl (Nat.le_trans hf.pl (by omega)) hf.p W (HP.out.below h)
 clear hp hf HP
 unfold pastB
 obtain ⟨rl, hrl⟩ : ∃ rl, rl = decide (b.ps.length ≤ 12) := ⟨_, rfl⟩
 have HRL : Hid (decide ((b.ps.length : Int) ≤ 12) = rl) := by show _ = _; rw [hrl]; simp [show ((b.ps.length : Int) ≤ 12) ↔ (b.ps.length ≤ 12) by omega]
 rw [← hrl]
 clear hrl
 generalize ascIB (b.ps.map fun x : Ta => x.t.cs) = ra at *
 generalize b.ps.any (fun x : Ta => decide (b.cs < x.t.cs)) = rb at *
 generalize b.ps.all (inStB 3) = rg at *
 go_enter Tryz.func56, Tryz.ntmps56
 go_wp2_with fail
 refine (by35 b.pa b.pc b.ps.length _).mono ?_
 rintro e w1 ⟨rfl, hb⟩
 have HB1 : Hid (Below w.heap.size w w1) := HB0.out.trans (hb.mono HB0.out.size)
 have BA1 : Hid (Bx w1 w.heap.size [.slice b.va b.vs.length b.vc, .slice b.pa b.ps.length b.pc, .slice b.qa b.qs.length b.qc, .int .i64 b.cs, .int .i64 b.nx]) := BA0.out.below hb
 clear hb HB0 BA0
 go_upto_region 2 with fail
 have hba : Below w1.heap.size w1 (w1.alloc (.cells #[.slice b.pa b.ps.length b.pc, .func (.func 135) #[] #[]] 102)) := (belowRefl w1).alloc (Nat.le_refl _) _
 have HB2 : Hid (Below w.heap.size w (w1.alloc (.cells #[.slice b.pa b.ps.length b.pc, .func (.func 135) #[] #[]] 102))) := HB1.out.trans (hba.mono HB1.out.size)
 have BA2 : Hid (Bx (w1.alloc (.cells #[.slice b.pa b.ps.length b.pc, .func (.func 135) #[] #[]] 102)) w.heap.size [.slice b.va b.vs.length b.vc, .slice b.pa b.ps.length b.pc, .slice b.qa b.qs.length b.qc, .int .i64 b.cs, .int .i64 b.nx]) := BA1.out.below hba
 have BK2 : Hid (Bx (w1.alloc (.cells #[.slice b.pa b.ps.length b.pc, .func (.func 135) #[] #[]] 102)) w1.heap.size [.slice b.pa b.ps.length b.pc, .func (.func 135) #[] #[]]) := Bx.new w1 [.slice b.pa b.ps.length b.pc, .func (.func 135) #[] #[]] 102
 clear hba HB1 BA1
 generalize (w1.alloc (.cells #[.slice b.pa b.ps.length b.pc, .func (.func 135) #[] #[]] 102)) = w2 at *
 have x1 := BA2.out.c1
 have hrl0 := HRL.out
 cases rl
 ·go_wp2
  go_ret
  exact ⟨rfl, HB2.out⟩
 have k0 := BK2.out.c0
 have k1 := BK2.out.c1
 go_wp2_with fail
 refine (C1.out _ HB2.out).mono ?_
 rintro e w3 ⟨rfl, hb⟩
 have HB3 : Hid (Below w.heap.size w w3) := HB2.out.trans (hb.mono HB2.out.size)
 have BA3 : Hid (Bx w3 w.heap.size [.slice b.va b.vs.length b.vc, .slice b.pa b.ps.length b.pc, .slice b.qa b.qs.length b.qc, .int .i64 b.cs, .int .i64 b.nx]) := BA2.out.below hb
 have BK3 : Hid (Bx w3 w1.heap.size [.slice b.pa b.ps.length b.pc, .func (.func 135) #[] #[]]) := BK2.out.below hb
 clear hb HB2 BA2 BK2
 clear x1 k0 k1
 cases ra
 ·go_wp2
  go_ret
  exact ⟨rfl, HB3.out⟩
 have k0 := BK3.out.c0
 have k1 := BK3.out.c1
 have x3 := BA3.out.c3
 go_wp2_with fail
 refine (C2.out _ HB3.out).mono ?_
 rintro e w4 ⟨rfl, hb⟩
 have HB4 : Hid (Below w.heap.size w w4) := HB3.out.trans (hb.mono HB3.out.size)
 have BA4 : Hid (Bx w4 w.heap.size [.slice b.va b.vs.length b.vc, .slice b.pa b.ps.length b.pc, .slice b.qa b.qs.length b.qc, .int .i64 b.cs, .int .i64 b.nx]) := BA3.out.below hb
 have BK4 : Hid (Bx w4 w1.heap.size [.slice b.pa b.ps.length b.pc, .func (.func 135) #[] #[]]) := BK3.out.below hb
 clear hb HB3 BA3 BK3
 clear x3 k0 k1
 cases rb
 case true =>
  go_wp2
  go_ret
  exact ⟨rfl, HB4.out⟩
 have x1 := BA4.out.c1
 go_wp2_with fail
 refine (C3.out _ HB4.out).mono ?_
 rintro e w5 ⟨rfl, hb⟩
 have HB5 : Hid (Below w.heap.size w w5) := HB4.out.trans (hb.mono HB4.out.size)
 have BA5 : Hid (Bx w5 w.heap.size [.slice b.va b.vs.length b.vc, .slice b.pa b.ps.length b.pc, .slice b.qa b.qs.length b.qc, .int .i64 b.cs, .int .i64 b.nx]) := BA4.out.below hb
 have BK5 : Hid (Bx w5 w1.heap.size [.slice b.pa b.ps.length b.pc, .func (.func 135) #[] #[]]) := BK4.out.below hb
 clear hb HB4 BA4 BK4
 go_wp2
 go_ret
 exact ⟨by simp, HB5.out⟩

end Go.Proofs.YtjeicgibddfifaaGreat

namespace Go.Proofs.YtjeicgibddfifaaGreat
open Go.RowKit
open KM
attribute [local go_sem ↓] Go.wp_at_zero Go.wp_at_succ

set_option maxRecDepth 100000 in
set_option maxHeartbeats 4000000 in
theorem ready20 (b : Bb) (hf : BFit b) (w : World) (hp : BRows w b) :
  Calls Tryz.prog 57 #[.agg #[.slice b.va b.vs.length b.vc, .slice b.pa b.ps.length b.pc, .slice b.qa b.qs.length b.qc, .int .i64 b.cs, .int .i64 b.nx]] w fun e w' => e = .returned (.bool (readyOkB b)) ∧ Below w.heap.size w w' := by
 have BA0 : Hid (Bx (w.alloc (.cells #[.slice b.va b.vs.length b.vc, .slice b.pa b.ps.length b.pc, .slice b.qa b.qs.length b.qc, .int .i64 b.cs, .int .i64 b.nx] 33)) w.heap.size [.slice b.va b.vs.length b.vc, .slice b.pa b.ps.length b.pc, .slice b.qa b.qs.length b.qc, .int .i64 b.cs, .int .i64 b.nx]) := Bx.new w [.slice b.va b.vs.length b.vc, .slice b.pa b.ps.length b.pc, .slice b.qa b.qs.length b.qc, .int .i64 b.cs, .int .i64 b.nx] 33
 have HB0 : Hid (Below w.heap.size w (w.alloc (.cells #[.slice b.va b.vs.length b.vc, .slice b.pa b.ps.length b.pc, .slice b.qa b.qs.length b.qc, .int .i64 b.cs, .int .i64 b.nx] 33))) := (belowRefl w).alloc (Nat.le_refl _) _
 have HP : Hid (TRows w b.qa b.qs) := hp.q
 have C0 : Hid (∀ W : World, Calls Tryz.prog 101 #[.slice b.qa b.qs.length b.qc] W fun e w' => e = .returned (.agg #[.slice b.qa b.qs.length b.qc, .func (.func 136) #[] #[]]) ∧ Below W.heap.size W w') := fun W => by39 b.qa b.qc b.qs.length W
 have C0s : Hid (∀ W : World, Calls Tryz.prog 60 #[.slice b.qa b.qs.length b.qc] W fun e w' => e = .returned (.agg #[.slice b.qa b.qs.length b.qc, .func (.func 103) #[] #[]]) ∧ Below W.heap.size W w') := fun W => by41 b.qa b.qc b.qs.length W
 have C1 : Hid (∀ W : World, Below w.heap.size w W → Calls Tryz.prog 102 #[.agg #[.slice b.qa b.qs.length b.qc, .func (.func 136) #[] #[]]] W fun e w' => e = .returned (.bool (ascSB (b.qs.map fun x : Ta => x.t.nm))) ∧ Below W.heap.size W w') := fun W h => asc40 b.qs b.qa b.qc b.qs.length rfl (Nat.le_trans hf.ql (by omega)) W (HP.out.below h)
 have C2 : Hid (∀ W : World, Below w.heap.size w W → Calls Tryz.prog 61 #[.agg #[.slice b.qa b.qs.length b.qc, .func (.func 103) #[] #[]], .int .i64 b.cs] W fun e w' => e = .returned (.bool (b.qs.any (fun x : Ta => decide (b.cs < x.t.snap)))) ∧ Below W.heap.size W w') := fun W h => any66 b.qs b.qa b.qc b.qs.length rfl (Nat.le_trans hf.ql (by omega)) b.cs W (HP.out.below h)
 have C3 : Hid (∀ W : World, Below w.heap.size w W → Calls Tryz.prog 59 #[.slice b.qa b.qs.length b.qc, .int .i64 2] W fun e w' => e = .returned (.bool (b.qs.all (inStB 2))) ∧ Below W.heap.size W w') := fun W h => allin38 b.qs b.qa b.qc b.qs.length 2 rfl (Nat.le_trans hf.ql (by omega)) hf.q W (HP.out.below h)
 clear hp hf HP
 unfold readyOkB
 obtain ⟨rl, hrl⟩ : ∃ rl, rl = decide (b.qs.length ≤ 3) := ⟨_, rfl⟩
 have HRL : Hid (decide ((3 : Int) < (b.qs.length : Int)) = !rl) := by show _ = _; rw [hrl]; by_cases h : b.qs.length ≤ 3 <;> simp [h] <;> omega
 rw [← hrl]
 clear hrl
 generalize ascSB (b.qs.map fun x : Ta => x.t.nm) = ra at *
 generalize b.qs.any (fun x : Ta => decide (b.cs < x.t.snap)) = rb at *
 generalize b.qs.all (inStB 2) = rg at *
 have x2 := BA0.out.c2
 have hrl0 := HRL.out
 cases rl
 ·simp only [Bool.not_false] at hrl0
  go_enter Tryz.func57, Tryz.ntmps57
  go_wp2
  go_ret
  exact ⟨rfl, HB0.out⟩
 simp only [Bool.not_true] at hrl0
 go_enter Tryz.func57, Tryz.ntmps57
 go_wp2_with fail
 refine (C0.out _).mono ?_
 rintro e w1 ⟨rfl, hb⟩
 have HB1 : Hid (Below w.heap.size w w1) := HB0.out.trans (hb.mono HB0.out.size)
 have BA1 : Hid (Bx w1 w.heap.size [.slice b.va b.vs.length b.vc, .slice b.pa b.ps.length b.pc, .slice b.qa b.qs.length b.qc, .int .i64 b.cs, .int .i64 b.nx]) := BA0.out.below hb
 clear hb HB0 BA0
 clear x2
 go_wp2_with fail
 refine (C1.out _ HB1.out).mono ?_
 rintro e w2 ⟨rfl, hb⟩
 have HB2 : Hid (Below w.heap.size w w2) := HB1.out.trans (hb.mono HB1.out.size)
 have BA2 : Hid (Bx w2 w.heap.size [.slice b.va b.vs.length b.vc, .slice b.pa b.ps.length b.pc, .slice b.qa b.qs.length b.qc, .int .i64 b.cs, .int .i64 b.nx]) := BA1.out.below hb
 clear hb HB1 BA1
 cases ra
 ·go_wp2
  go_ret
  exact ⟨rfl, HB2.out⟩
 go_wp2
 refine wp_region_held_drew (S := fun w' => w'.cell? ⟨w.heap.size, 0, none⟩ = some (.slice b.va b.vs.length b.vc) ∧ w'.cell? ⟨w.heap.size, 1, none⟩ = some (.slice b.pa b.ps.length b.pc) ∧ w'.cell? ⟨w.heap.size, 2, none⟩ = some (.slice b.qa b.qs.length b.qc) ∧ w'.cell? ⟨w.heap.size, 3, none⟩ = some (.int .i64 b.cs) ∧ w'.cell? ⟨w.heap.size, 4, none⟩ = some (.int .i64 b.nx)) (by kernel_rfl) ⟨BA2.out.c0, BA2.out.c1, BA2.out.c2, BA2.out.c3, BA2.out.c4⟩ (fun hHeld => ?_)
 (refine wpAnyH_take (i := 0) (v := ?_) rfl (by kernel_rfl) (by kernel_rfl) (by kernel_rfl) (fun _ _ _ h => h) (Or.inl ⟨by rfl, ?_⟩) (by assumption) ?_; rotate_left; (focus (intro w hSw; (try dsimp only at hSw); go_simp; (try with_reducible rfl); done)); simp only [Act.put, List.getElem_toArray, List.getElem_cons_zero, List.setIfInBounds_toArray, List.set_cons_zero, List.set_cons_succ])
 (refine wpAnyH_take (i := 1) (v := ?_) rfl (by kernel_rfl) (by kernel_rfl) (by kernel_rfl) (fun _ _ _ h => h) (Or.inl ⟨by rfl, ?_⟩) (by assumption) ?_; rotate_left; (focus (intro w hSw; (try dsimp only at hSw); go_simp; (try with_reducible rfl); done)); simp only [Act.put, List.getElem_toArray, List.getElem_cons_zero, List.getElem_cons_succ, List.setIfInBounds_toArray, List.set_cons_zero, List.set_cons_succ])
 (refine wpAnyH_take (i := 3) (v := ?_) rfl (by kernel_rfl) (by kernel_rfl) (by kernel_rfl) (fun _ _ _ h => h) (Or.inl ⟨by rfl, ?_⟩) (by assumption) ?_; rotate_left; (focus (intro w hSw; (try dsimp only at hSw); go_simp; (try with_reducible rfl); done)); simp only [Act.put, List.getElem_toArray, List.getElem_cons_zero, List.getElem_cons_succ, List.setIfInBounds_toArray, List.set_cons_zero, List.set_cons_succ])
 (refine wpAnyH_take (i := 4) (v := ?_) rfl (by kernel_rfl) (by kernel_rfl) (by kernel_rfl) (fun _ _ _ h => h) (Or.inl ⟨by rfl, ?_⟩) (by assumption) ?_; rotate_left; (focus (intro w hSw; (try dsimp only at hSw); go_simp; (try with_reducible rfl); done)); simp only [Act.put, List.getElem_toArray, List.getElem_cons_zero, List.getElem_cons_succ, List.setIfInBounds_toArray, List.set_cons_zero, List.set_cons_succ])
 refine wpAnyH_ready (rs := [2]) (by kernel_rfl) (by simp) ?_
 refine (AllReadyH.cons rfl (fun K hK => ?_) AllReadyH.nil)
 go_simp
 go_wp2_with fail
 refine (C0s.out _).mono ?_
 rintro e w3 ⟨rfl, hb9⟩
 have hb := undrew hb9
 have HB3 : Hid (Below w.heap.size w w3) := HB2.out.trans (hb.mono HB2.out.size)
 have BA3 : Hid (Bx w3 w.heap.size [.slice b.va b.vs.length b.vc, .slice b.pa b.ps.length b.pc, .slice b.qa b.qs.length b.qc, .int .i64 b.cs, .int .i64 b.nx]) := BA2.out.below hb
 clear hb HB2 BA2
 clear hb9
 go_wp2_with fail
 refine hK.out _ _ ⟨BA3.out.c0, BA3.out.c1, BA3.out.c2, BA3.out.c3, BA3.out.c4⟩ (fun hHeld3 => ?_)
 clear hK K
 refine wpAnyH_ready (rs := [5]) (by kernel_rfl) (by simp) ?_
 refine (AllReadyH.cons rfl (fun K hK => ?_) AllReadyH.nil)
 go_simp
 go_wp2_with fail
 refine (C2.out _ HB3.out).mono ?_
 rintro e w4 ⟨rfl, hb9⟩
 have hb := hb9
 have HB4 : Hid (Below w.heap.size w w4) := HB3.out.trans (hb.mono HB3.out.size)
 have BA4 : Hid (Bx w4 w.heap.size [.slice b.va b.vs.length b.vc, .slice b.pa b.ps.length b.pc, .slice b.qa b.qs.length b.qc, .int .i64 b.cs, .int .i64 b.nx]) := BA3.out.below hb
 clear hb HB3 BA3
 clear hb9
 go_wp2_with fail
 refine hK.out _ _ ⟨BA4.out.c0, BA4.out.c1, BA4.out.c2, BA4.out.c3, BA4.out.c4⟩ (fun hHeld4 => ?_)
 clear hK K
 (refine wpAnyH_take (i := 6) (v := ?_) rfl (by kernel_rfl) (by kernel_rfl) (by kernel_rfl) (fun _ _ _ h => h) (Or.inl ⟨by rfl, ?_⟩) (by assumption) ?_; rotate_left; (focus (intro w hSw; (try dsimp only at hSw); go_simp; (try with_reducible rfl); done)); simp only [Act.put, List.getElem_toArray, List.getElem_cons_zero, List.getElem_cons_succ, List.setIfInBounds_toArray, List.set_cons_zero, List.set_cons_succ])
 (refine wpAnyH_take (i := 7) (v := ?_) rfl (by kernel_rfl) (by kernel_rfl) (by kernel_rfl) (fun _ _ _ h => h) (Or.inl ⟨by rfl, ?_⟩) (by assumption) ?_; rotate_left; (focus (intro w hSw; (try dsimp only at hSw); go_simp; (try with_reducible rfl); done)); simp only [Act.put, List.getElem_toArray, List.getElem_cons_zero, List.getElem_cons_succ, List.setIfInBounds_toArray, List.set_cons_zero, List.set_cons_succ])
 cases rb
 ·(refine wpAnyH_take (i := 8) (v := ?_) rfl (by kernel_rfl) (by kernel_rfl) (by kernel_rfl) (fun _ _ _ h => h) (Or.inl ⟨by rfl, ?_⟩) (by assumption) ?_; rotate_left; (focus (intro w hSw; (try dsimp only at hSw); go_simp; (try with_reducible rfl); done)); simp only [Act.put, List.getElem_toArray, List.getElem_cons_zero, List.getElem_cons_succ, List.setIfInBounds_toArray, List.set_cons_zero, List.set_cons_succ])
  (refine wpAnyH_take (i := 9) (v := ?_) rfl (by kernel_rfl) (by kernel_rfl) (by kernel_rfl) (fun _ _ _ h => h) (Or.inl ⟨by rfl, ?_⟩) (by assumption) ?_; rotate_left; (focus (intro w hSw; (try dsimp only at hSw); go_simp; (try with_reducible rfl); done)); simp only [Act.put, List.getElem_toArray, List.getElem_cons_zero, List.getElem_cons_succ, List.setIfInBounds_toArray, List.set_cons_zero, List.set_cons_succ])
  refine wpAnyH_ready (rs := [10]) (by kernel_rfl) (by simp) ?_
  refine (AllReadyH.cons rfl (fun K hK => ?_) AllReadyH.nil)
  go_simp
  go_wp2_with fail
  refine (C3.out _ HB4.out).mono ?_
  rintro e w5 ⟨rfl, hb9⟩
  have hb := hb9
  have HB5 : Hid (Below w.heap.size w w5) := HB4.out.trans (hb.mono HB4.out.size)
  have BA5 : Hid (Bx w5 w.heap.size [.slice b.va b.vs.length b.vc, .slice b.pa b.ps.length b.pc, .slice b.qa b.qs.length b.qc, .int .i64 b.cs, .int .i64 b.nx]) := BA4.out.below hb
  clear hb HB4 BA4
  clear hb9
  go_wp2_with fail
  refine hK.out _ _ ⟨BA5.out.c0, BA5.out.c1, BA5.out.c2, BA5.out.c3, BA5.out.c4⟩ (fun hHeld5 => ?_)
  clear hK K
  (refine wpAnyH_take (i := 11) (v := ?_) rfl (by kernel_rfl) (by kernel_rfl) (by kernel_rfl) (fun _ _ _ h => h) (Or.inl ⟨by rfl, ?_⟩) (by assumption) ?_; rotate_left; (focus (intro w hSw; (try dsimp only at hSw); go_simp; (try with_reducible rfl); done)); simp only [Act.put, List.getElem_toArray, List.getElem_cons_zero, List.getElem_cons_succ, List.setIfInBounds_toArray, List.set_cons_zero, List.set_cons_succ])
  (refine wpAnyH_take (i := 12) (v := ?_) rfl (by kernel_rfl) (by kernel_rfl) (by kernel_rfl) (fun _ _ _ h => h) (Or.inl ⟨by rfl, ?_⟩) (by assumption) ?_; rotate_left; (focus (intro w hSw; (try dsimp only at hSw); go_simp; (try with_reducible rfl); done)); simp only [Act.put, List.getElem_toArray, List.getElem_cons_zero, List.getElem_cons_succ, List.setIfInBounds_toArray, List.set_cons_zero, List.set_cons_succ])
  refine wpAnyH_done (by kernel_rfl) ?_ _
  go_wp2
  go_ret
  exact ⟨by simp, HB5.out⟩
 ·(refine wpAnyH_take (i := 8) (v := undef) rfl (by kernel_rfl) (by kernel_rfl) (by kernel_rfl) (fun _ _ _ h => h) (Or.inr ⟨by rfl, rfl⟩) (by assumption) ?_; simp only [Act.put, List.getElem_toArray, List.getElem_cons_zero, List.getElem_cons_succ, List.setIfInBounds_toArray, List.set_cons_zero, List.set_cons_succ])
  (refine wpAnyH_take (i := 9) (v := undef) rfl (by kernel_rfl) (by kernel_rfl) (by kernel_rfl) (fun _ _ _ h => h) (Or.inr ⟨by rfl, rfl⟩) (by assumption) ?_; simp only [Act.put, List.getElem_toArray, List.getElem_cons_zero, List.getElem_cons_succ, List.setIfInBounds_toArray, List.set_cons_zero, List.set_cons_succ])
  (refine wpAnyH_take (i := 10) (v := undef) rfl (by kernel_rfl) (by kernel_rfl) (by kernel_rfl) (fun _ _ _ h => h) (Or.inr ⟨by rfl, rfl⟩) (by assumption) ?_; simp only [Act.put, List.getElem_toArray, List.getElem_cons_zero, List.getElem_cons_succ, List.setIfInBounds_toArray, List.set_cons_zero, List.set_cons_succ])
  (refine wpAnyH_take (i := 11) (v := ?_) rfl (by kernel_rfl) (by kernel_rfl) (by kernel_rfl) (fun _ _ _ h => h) (Or.inl ⟨by rfl, ?_⟩) (by assumption) ?_; rotate_left; (focus (intro w hSw; (try dsimp only at hSw); go_simp; (try with_reducible rfl); done)); simp only [Act.put, List.getElem_toArray, List.getElem_cons_zero, List.getElem_cons_succ, List.setIfInBounds_toArray, List.set_cons_zero, List.set_cons_succ])
  (refine wpAnyH_take (i := 12) (v := ?_) rfl (by kernel_rfl) (by kernel_rfl) (by kernel_rfl) (fun _ _ _ h => h) (Or.inl ⟨by rfl, ?_⟩) (by assumption) ?_; rotate_left; (focus (intro w hSw; (try dsimp only at hSw); go_simp; (try with_reducible rfl); done)); simp only [Act.put, List.getElem_toArray, List.getElem_cons_zero, List.getElem_cons_succ, List.setIfInBounds_toArray, List.set_cons_zero, List.set_cons_succ])
  refine wpAnyH_done (by kernel_rfl) ?_ _
  go_wp2
  go_ret
  exact ⟨rfl, HB4.out⟩

set_option maxRecDepth 100000 in
set_option maxHeartbeats 4000000 in
theorem ids21 (b : Bb) (hf : BFit b) (hpa : b.pa = none → b.ps.length = 0 ∧ b.pc = 0) (hqa : b.qa = none → b.qs.length = 0 ∧ b.qc = 0) (hn1 : 1 ≤ b.nx) (hn2 : b.nx ≤ 9999) (w : World) (hp : BRows w b) :
  Calls Tryz.prog 58 #[.agg #[.slice b.va b.vs.length b.vc, .slice b.pa b.ps.length b.pc, .slice b.qa b.qs.length b.qc, .int .i64 b.cs, .int .i64 b.nx]] w fun e w' => e = .returned (.bool (idsB b)) ∧ Below w.heap.size w w' := by
 have BA0 : Hid (Bx ((w.alloc (.cells #[.slice b.va b.vs.length b.vc, .slice b.pa b.ps.length b.pc, .slice b.qa b.qs.length b.qc, .int .i64 b.cs, .int .i64 b.nx] 33)).alloc (.cells #[.slice b.pa b.ps.length b.pc, .slice b.qa b.qs.length b.qc] 31)) w.heap.size [.slice b.va b.vs.length b.vc, .slice b.pa b.ps.length b.pc, .slice b.qa b.qs.length b.qc, .int .i64 b.cs, .int .i64 b.nx]) := (Bx.new w [.slice b.va b.vs.length b.vc, .slice b.pa b.ps.length b.pc, .slice b.qa b.qs.length b.qc, .int .i64 b.cs, .int .i64 b.nx] 33).alloc _
 have HB0 : Hid (Below w.heap.size w ((w.alloc (.cells #[.slice b.va b.vs.length b.vc, .slice b.pa b.ps.length b.pc, .slice b.qa b.qs.length b.qc, .int .i64 b.cs, .int .i64 b.nx] 33)).alloc (.cells #[.slice b.pa b.ps.length b.pc, .slice b.qa b.qs.length b.qc] 31))) := ((belowRefl w).alloc (Nat.le_refl _) _).alloc (by simp) _
 have RS : Hid (GRow encSl ((w.alloc (.cells #[.slice b.va b.vs.length b.vc, .slice b.pa b.ps.length b.pc, .slice b.qa b.qs.length b.qc, .int .i64 b.cs, .int .i64 b.nx] 33)).alloc (.cells #[.slice b.pa b.ps.length b.pc, .slice b.qa b.qs.length b.qc] 31)) (some ⟨w.heap.size + 1, 0, none⟩) [⟨b.pa, b.ps.length, b.pc, b.ps⟩, ⟨b.qa, b.qs.length, b.qc, b.qs⟩]) := fun _ => ⟨w.heap.size + 1, 0, rfl, by simp, fun j hj i hi => by
  obtain rfl : i = 0 := by simpa [encSl] using hi
  have : j = 0 ∨ j = 1 := by simp at hj; omega
  rcases this with rfl | rfl
  ·simp [encSl]
  ·simp [encSl]⟩
 have ES : Hid (sums [⟨b.pa, b.ps.length, b.pc, b.ps⟩, ⟨b.qa, b.qs.length, b.qc, b.qs⟩] = b.ps ++ b.qs) := by show _ = _; simp [sums]
 have hlen : (b.ps ++ b.qs).length ≤ 10000000 := by rw [List.length_append]; have := hf.pl; have := hf.ql; omega
 have CC := hide (concat43 [⟨b.pa, b.ps.length, b.pc, b.ps⟩, ⟨b.qa, b.qs.length, b.qc, b.qs⟩] (some ⟨w.heap.size + 1, 0, none⟩) 2 2 rfl (by omega) (by rw [ES.out]; exact hlen) ((w.alloc (.cells #[.slice b.va b.vs.length b.vc, .slice b.pa b.ps.length b.pc, .slice b.qa b.qs.length b.qc, .int .i64 b.cs, .int .i64 b.nx] 33)).alloc (.cells #[.slice b.pa b.ps.length b.pc, .slice b.qa b.qs.length b.qc] 31)) RS.out (fun s hs => by
  rcases List.mem_cons.1 hs with rfl | hs
  ·exact ⟨rfl, (hp.p.below HB0.out).row, hpa⟩
  ·obtain rfl := List.mem_singleton.1 hs
   exact ⟨rfl, (hp.q.below HB0.out).row, hqa⟩))
 rw [ES.out] at CC
 have HM : Hid (∀ x ∈ b.ps ++ b.qs, TRow w x.t x.ra x.wa) := fun x hx => by
  rcases List.mem_append.1 hx with h | h
  ·exact hp.p.each x h
  ·exact hp.q.each x h
 have C1 : Hid (∀ (W : World) (a1 : Option Addr) (c1 n1 : Nat), n1 = (b.ps ++ b.qs).length → Below w.heap.size w W → GRow encT W a1 (b.ps ++ b.qs) → Calls Tryz.prog 65 #[.agg #[.slice a1 n1 c1, .func (.func 105) #[] #[]]] W fun e w' => e = .returned (.bool (ascIB (sortI ((b.ps ++ b.qs).map fun x : Ta => x.t.id)))) ∧ Below W.heap.size W w') := fun W a1 c1 n1 h1 h2 h3 => unlike44 (b.ps ++ b.qs) a1 c1 n1 h1 (by rw [h1]; exact hlen) W ⟨h3, fun x hx => (HM.out x hx).below h2⟩
 have C2 : Hid (∀ (W : World) (a1 : Option Addr) (c1 n1 : Nat), n1 = (b.ps ++ b.qs).length → Below w.heap.size w W → GRow encT W a1 (b.ps ++ b.qs) → Calls Tryz.prog 61 #[.agg #[.slice a1 n1 c1, .func (.func 105) #[] #[]], .int .i64 (b.nx - 1)] W fun e w' => e = .returned (.bool ((b.ps ++ b.qs).any (fun x : Ta => decide (b.nx - 1 < x.t.id)))) ∧ Below W.heap.size W w') := fun W a1 c1 n1 h1 h2 h3 => any67 (b.ps ++ b.qs) a1 c1 n1 h1 (by rw [h1]; exact hlen) (b.nx - 1) W ⟨h3, fun x hx => (HM.out x hx).below h2⟩
 have ew : IntKind.i64.wrap (b.nx - 1) = b.nx - 1 := by rw [IntKind.wrap_i64]; omega
 unfold idsB
 clear hp hf HM RS ES hpa hqa hlen
 generalize ascIB (sortI ((b.ps ++ b.qs).map fun x : Ta => x.t.id)) = ra at *
 generalize (b.ps ++ b.qs).any (fun x : Ta => decide (b.nx - 1 < x.t.id)) = rb at *
 obtain ⟨zs, hzs⟩ : ∃ zs, zs = b.ps ++ b.qs := ⟨_, rfl⟩
 rw [← hzs] at CC C1 C2
 clear hzs
 go_enter Tryz.func58, Tryz.ntmps58
 go_wp2_with fail
 refine CC.out.mono ?_
 rintro e w2 ⟨a1, c1, n1, rfl, hn1, ho, hb⟩
 have HN1 : Hid (n1 = zs.length) := hn1
 have RZ2 : Hid (GRow encT w2 a1 zs) := by subst hn1; exact ho.grow
 clear hn1 ho
 have HB2 : Hid (Below w.heap.size w w2) := HB0.out.trans (hb.mono HB0.out.size)
 have BA2 : Hid (Bx w2 w.heap.size [.slice b.va b.vs.length b.vc, .slice b.pa b.ps.length b.pc, .slice b.qa b.qs.length b.qc, .int .i64 b.cs, .int .i64 b.nx]) := BA0.out.below hb
 clear hb HB0 BA0
 go_wp2_with fail
 refine (by42 a1 c1 n1 _).mono ?_
 rintro e w3 ⟨rfl, hb⟩
 have RZ3 : Hid (GRow encT w3 a1 zs) := RZ2.out.below hb
 have HB3 : Hid (Below w.heap.size w w3) := HB2.out.trans (hb.mono HB2.out.size)
 have BA3 : Hid (Bx w3 w.heap.size [.slice b.va b.vs.length b.vc, .slice b.pa b.ps.length b.pc, .slice b.qa b.qs.length b.qc, .int .i64 b.cs, .int .i64 b.nx]) := BA2.out.below hb
 clear hb HB2 BA2
 go_upto_region 2 with fail
 have hba : Below w3.heap.size w3 (w3.alloc (.cells #[.slice a1 n1 c1, .func (.func 105) #[] #[]] 102)) := (belowRefl w3).alloc (Nat.le_refl _) _
 have HB4 : Hid (Below w.heap.size w (w3.alloc (.cells #[.slice a1 n1 c1, .func (.func 105) #[] #[]] 102))) := HB3.out.trans (hba.mono HB3.out.size)
 have BA4 : Hid (Bx (w3.alloc (.cells #[.slice a1 n1 c1, .func (.func 105) #[] #[]] 102)) w.heap.size [.slice b.va b.vs.length b.vc, .slice b.pa b.ps.length b.pc, .slice b.qa b.qs.length b.qc, .int .i64 b.cs, .int .i64 b.nx]) := BA3.out.below hba
 have BK4 : Hid (Bx (w3.alloc (.cells #[.slice a1 n1 c1, .func (.func 105) #[] #[]] 102)) w3.heap.size [.slice a1 n1 c1, .func (.func 105) #[] #[]]) := Bx.new w3 [.slice a1 n1 c1, .func (.func 105) #[] #[]] 102
 have RZ4 : Hid (GRow encT (w3.alloc (.cells #[.slice a1 n1 c1, .func (.func 105) #[] #[]] 102)) a1 zs) := RZ3.out.below hba
 clear hba HB3 BA3
 generalize (w3.alloc (.cells #[.slice a1 n1 c1, .func (.func 105) #[] #[]] 102)) = w4 at *
 have k0 := BK4.out.c0
 have k1 := BK4.out.c1
 go_wp2_with fail
 refine (C1.out _ a1 c1 n1 HN1.out HB4.out RZ4.out).mono ?_
 rintro e w5 ⟨rfl, hb⟩
 have RZ5 : Hid (GRow encT w5 a1 zs) := RZ4.out.below hb
 have HB5 : Hid (Below w.heap.size w w5) := HB4.out.trans (hb.mono HB4.out.size)
 have BA5 : Hid (Bx w5 w.heap.size [.slice b.va b.vs.length b.vc, .slice b.pa b.ps.length b.pc, .slice b.qa b.qs.length b.qc, .int .i64 b.cs, .int .i64 b.nx]) := BA4.out.below hb
 have BK5 : Hid (Bx w5 w3.heap.size [.slice a1 n1 c1, .func (.func 105) #[] #[]]) := BK4.out.below hb
 clear hb HB4 BA4 BK4
 clear k0 k1
 cases ra
 ·go_wp2
  go_ret
  exact ⟨rfl, HB5.out⟩
 have k0 := BK5.out.c0
 have k1 := BK5.out.c1
 have x4 := BA5.out.c4
 go_wp2_with fail
 refine (C2.out _ a1 c1 n1 HN1.out HB5.out RZ5.out).mono ?_
 rintro e w6 ⟨rfl, hb⟩
 have HB6 : Hid (Below w.heap.size w w6) := HB5.out.trans (hb.mono HB5.out.size)
 have BA6 : Hid (Bx w6 w.heap.size [.slice b.va b.vs.length b.vc, .slice b.pa b.ps.length b.pc, .slice b.qa b.qs.length b.qc, .int .i64 b.cs, .int .i64 b.nx]) := BA5.out.below hb
 have BK6 : Hid (Bx w6 w3.heap.size [.slice a1 n1 c1, .func (.func 105) #[] #[]]) := BK5.out.below hb
 clear hb HB5 BA5 BK5
 go_wp2
 go_ret
 exact ⟨by simp, HB6.out⟩

end Go.Proofs.YtjeicgibddfifaaGreat

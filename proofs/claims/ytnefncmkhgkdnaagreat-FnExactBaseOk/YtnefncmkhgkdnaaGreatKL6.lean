/- What stays: whether a base is right, as the program asks it. -/
import Derived.Test.YtnefncmkhgkdnaaGreatS2
import Derived.Test.YtnefncmkhgkdnaaGreatKL3
import Derived.Test.YtnefncmkhgkdnaaGreatKL3s
import Derived.Test.YtnefncmkhgkdnaaGreatKL5
import Derived.Test.YtnefncmkhgkdnaaGreatV3
import Derived.Deep.RegionHeld3
import Derived.Deep.Cut
import Derived.Deep.CutRange
import Derived.Laws.EntriesVeiled
namespace Go.Proofs.YtnefncmkhgkdnaaGreat
open Go.RowKit
open KM
attribute [local go_sem ↓] Go.wp_at_zero Go.wp_at_succ

set_option maxRecDepth 100000 in
set_option maxHeartbeats 2000000 in
theorem asc36 (xs : List Ta) (a : Option Addr) (c n : Nat) (hx : n = xs.length) (hn : n ≤ 10000000) (w : World) (hp : TRows w a xs) :
    Calls Tryz.prog 36 #[.agg #[.slice a n c, .func (.func 58) #[] #[]]] w fun e w' => e = .returned (.bool (ascIB (xs.map fun x : Ta => x.t.cs))) ∧ Below w.heap.size w w' := by
  have HB0 : Hid (Below w.heap.size w (w.alloc (.cells #[.slice a n c, .func (.func 58) #[] #[]] 75))) := (belowRefl w).alloc (Nat.le_refl _) _
  have H := hide (keys58 xs a c n hx hn (w.alloc (.cells #[.slice a n c, .func (.func 58) #[] #[]] 75)) (hp.below HB0.out))
  have HX : Hid (n = (xs.map fun x : Ta => x.t.cs).length) := by show _ = _; rw [List.length_map, hx]
  clear hp hx
  go_enter Tryz.func36, Tryz.ntmps36
  go_wp2_with fail
  refine H.out.mono ?_
  rintro e w1 ⟨a1, c1, rfl, ho, hb1⟩
  have HB1 : Hid (Below w.heap.size w w1) := HB0.out.trans (hb1.mono HB0.out.size)
  have RO : Hid (GRow encI w1 a1 (xs.map fun x : Ta => x.t.cs)) := by have h := ho; rw [HX.out] at h; exact h.grow
  clear ho hb1 H
  go_wp2_with fail
  refine (asc59 (xs.map fun x : Ta => x.t.cs) a1 c1 n HX.out (by omega) _ RO.out).mono ?_
  rintro e w2 ⟨rfl, hb2⟩
  have HB2 : Hid (Below w.heap.size w w2) := HB1.out.trans (hb2.mono HB1.out.size)
  clear hb2
  go_wp2
  go_ret
  exact ⟨rfl, HB2.out⟩

set_option maxRecDepth 100000 in
set_option maxHeartbeats 2000000 in
theorem asc40 (xs : List Ta) (a : Option Addr) (c n : Nat) (hx : n = xs.length) (hn : n ≤ 10000000) (w : World) (hp : TRows w a xs) :
    Calls Tryz.prog 40 #[.agg #[.slice a n c, .func (.func 63) #[] #[]]] w fun e w' => e = .returned (.bool (ascSB (xs.map fun x : Ta => x.t.nm))) ∧ Below w.heap.size w w' := by
  have HB0 : Hid (Below w.heap.size w (w.alloc (.cells #[.slice a n c, .func (.func 63) #[] #[]] 81))) := (belowRefl w).alloc (Nat.le_refl _) _
  have H := hide (keys63 xs a c n hx hn (w.alloc (.cells #[.slice a n c, .func (.func 63) #[] #[]] 81)) (hp.below HB0.out))
  have HX : Hid (n = (xs.map fun x : Ta => x.t.nm).length) := by show _ = _; rw [List.length_map, hx]
  clear hp hx
  go_enter Tryz.func40, Tryz.ntmps40
  go_wp2_with fail
  refine H.out.mono ?_
  rintro e w1 ⟨a1, c1, rfl, ho, hb1⟩
  have HB1 : Hid (Below w.heap.size w w1) := HB0.out.trans (hb1.mono HB0.out.size)
  have RO : Hid (GRow encS w1 a1 (xs.map fun x : Ta => x.t.nm)) := by have h := ho; rw [HX.out] at h; exact h.grow
  clear ho hb1 H
  go_wp2_with fail
  refine (asc64 (xs.map fun x : Ta => x.t.nm) a1 c1 n HX.out (by omega) _ RO.out).mono ?_
  rintro e w2 ⟨rfl, hb2⟩
  have HB2 : Hid (Below w.heap.size w w2) := HB1.out.trans (hb2.mono HB1.out.size)
  clear hb2
  go_wp2
  go_ret
  exact ⟨rfl, HB2.out⟩

set_option maxRecDepth 100000 in
set_option maxHeartbeats 2000000 in
theorem unlike44 (xs : List Ta) (a : Option Addr) (c n : Nat) (hx : n = xs.length) (hn : n ≤ 10000000) (w : World) (hp : TRows w a xs) :
    Calls Tryz.prog 44 #[.agg #[.slice a n c, .func (.func 67) #[] #[]]] w fun e w' => e = .returned (.bool (ascIB (sortI (xs.map fun x : Ta => x.t.id)))) ∧ Below w.heap.size w w' := by
  have HB0 : Hid (Below w.heap.size w (w.alloc (.cells #[.slice a n c, .func (.func 67) #[] #[]] 75))) := (belowRefl w).alloc (Nat.le_refl _) _
  have H := hide (keys67 xs a c n hx hn (w.alloc (.cells #[.slice a n c, .func (.func 67) #[] #[]] 75)) (hp.below HB0.out))
  have HX : Hid (n = (xs.map fun x : Ta => x.t.id).length) := by show _ = _; rw [List.length_map, hx]
  clear hp hx
  go_enter Tryz.func44, Tryz.ntmps44
  go_wp2_with fail
  refine H.out.mono ?_
  rintro e w1 ⟨a1, c1, rfl, ho, hb1⟩
  have HB1 : Hid (Below w.heap.size w w1) := HB0.out.trans (hb1.mono HB0.out.size)
  have hbs : w.heap.size ≤ (w.alloc (.cells #[.slice a n c, .func (.func 67) #[] #[]] 75)).heap.size + 1 := by simp; omega
  have RO : Hid (GOwn encI 3 w1 w.heap.size (.slice a1 n c1) (xs.map fun x : Ta => x.t.id)) := GOwn.mono ho hbs
  have H2 := hide (sort89 (xs.map fun x : Ta => x.t.id) w.heap.size (.slice a1 n c1) w1 (by rw [← HX.out]; omega) RO.out)
  clear ho hb1 H hbs
  go_wp2_with fail
  refine H2.out.mono ?_
  rintro e w2 ⟨rfl, ho2, hb2⟩
  have HB2 : Hid (Below w.heap.size w w2) := HB1.out.trans hb2
  have HX2 : Hid (n = (sortI (xs.map fun x : Ta => x.t.id)).length) := by show _ = _; rw [sortI_len]; exact HX.out
  have RO2 : Hid (GRow encI w2 a1 (sortI (xs.map fun x : Ta => x.t.id))) := by have h := ho2; rw [HX2.out] at h; exact h.grow
  clear ho2 hb2 H2
  go_wp2_with fail
  refine (asc59 (sortI (xs.map fun x : Ta => x.t.id)) a1 c1 n HX2.out (by omega) _ RO2.out).mono ?_
  rintro e w3 ⟨rfl, hb3⟩
  have HB3 : Hid (Below w.heap.size w w3) := HB2.out.trans (hb3.mono HB2.out.size)
  clear hb3
  go_wp2
  go_ret
  exact ⟨rfl, HB3.out⟩

/-- whether those that were let through are right -/
def pastB (b : Bb) : Bool := decide (b.ps.length ≤ 12) && (ascIB (b.ps.map fun x : Ta => x.t.cs) && (!(b.ps.any (fun x : Ta => decide (b.cs < x.t.cs))) && b.ps.all (inStB 3)))
def readyOkB (b : Bb) : Bool := decide (b.qs.length ≤ 3) && (ascSB (b.qs.map fun x : Ta => x.t.nm) && (!(b.qs.any (fun x : Ta => decide (b.cs < x.t.snap))) && b.qs.all (inStB 2)))
def idsB (b : Bb) : Bool := ascIB (sortI ((b.ps ++ b.qs).map fun x : Ta => x.t.id)) && !((b.ps ++ b.qs).any (fun x : Ta => decide (b.nx - 1 < x.t.id)))

set_option maxRecDepth 100000 in
set_option maxHeartbeats 4000000 in
theorem past19 (b : Bb) (hf : BFit b) (w : World) (hp : BRows w b) :
    Calls Tryz.prog 19 #[.agg #[.slice b.va b.vs.length b.vc, .slice b.pa b.ps.length b.pc, .slice b.qa b.qs.length b.qc, .int .i64 b.cs, .int .i64 b.nx]] w fun e w' => e = .returned (.bool (pastB b)) ∧ Below w.heap.size w w' := by
  have BA0 : Hid (Bx (w.alloc (.cells #[.slice b.va b.vs.length b.vc, .slice b.pa b.ps.length b.pc, .slice b.qa b.qs.length b.qc, .int .i64 b.cs, .int .i64 b.nx] 31)) w.heap.size [.slice b.va b.vs.length b.vc, .slice b.pa b.ps.length b.pc, .slice b.qa b.qs.length b.qc, .int .i64 b.cs, .int .i64 b.nx]) := Bx.new w [.slice b.va b.vs.length b.vc, .slice b.pa b.ps.length b.pc, .slice b.qa b.qs.length b.qc, .int .i64 b.cs, .int .i64 b.nx] 31
  have HB0 : Hid (Below w.heap.size w (w.alloc (.cells #[.slice b.va b.vs.length b.vc, .slice b.pa b.ps.length b.pc, .slice b.qa b.qs.length b.qc, .int .i64 b.cs, .int .i64 b.nx] 31))) := (belowRefl w).alloc (Nat.le_refl _) _
  have HP : Hid (TRows w b.pa b.ps) := hp.p
  have C1 : Hid (∀ W : World, Below w.heap.size w W → Calls Tryz.prog 36 #[.agg #[.slice b.pa b.ps.length b.pc, .func (.func 58) #[] #[]]] W fun e w' => e = .returned (.bool (ascIB (b.ps.map fun x : Ta => x.t.cs))) ∧ Below W.heap.size W w') := fun W h => asc36 b.ps b.pa b.pc b.ps.length rfl (Nat.le_trans hf.pl (by omega)) W (HP.out.below h)
  have C2 : Hid (∀ W : World, Below w.heap.size w W → Calls Tryz.prog 37 #[.agg #[.slice b.pa b.ps.length b.pc, .func (.func 58) #[] #[]], .int .i64 b.cs] W fun e w' => e = .returned (.bool (b.ps.any (fun x : Ta => decide (b.cs < x.t.cs)))) ∧ Below W.heap.size W w') := fun W h => any58 b.ps b.pa b.pc b.ps.length rfl (Nat.le_trans hf.pl (by omega)) b.cs W (HP.out.below h)
  have C3 : Hid (∀ W : World, Below w.heap.size w W → Calls Tryz.prog 38 #[.slice b.pa b.ps.length b.pc, .int .i64 3] W fun e w' => e = .returned (.bool (b.ps.all (inStB 3))) ∧ Below W.heap.size W w') := fun W h => allin38 b.ps b.pa b.pc b.ps.length 3 rfl (Nat.le_trans hf.pl (by omega)) hf.p W (HP.out.below h)
  clear hp hf HP
  unfold pastB
  obtain ⟨rl, hrl⟩ : ∃ rl, rl = decide (b.ps.length ≤ 12) := ⟨_, rfl⟩
  have HRL : Hid (decide ((b.ps.length : Int) ≤ 12) = rl) := by show _ = _; rw [hrl]; simp [show ((b.ps.length : Int) ≤ 12) ↔ (b.ps.length ≤ 12) by omega]
  rw [← hrl]
  clear hrl
  generalize ascIB (b.ps.map fun x : Ta => x.t.cs) = ra at *
  generalize b.ps.any (fun x : Ta => decide (b.cs < x.t.cs)) = rb at *
  generalize b.ps.all (inStB 3) = rg at *
  go_enter Tryz.func19, Tryz.ntmps19
  go_wp2_with fail
  refine (by35 b.pa b.pc b.ps.length _).mono ?_
  rintro e w1 ⟨rfl, hb⟩
  have HB1 : Hid (Below w.heap.size w w1) := HB0.out.trans (hb.mono HB0.out.size)
  have BA1 : Hid (Bx w1 w.heap.size [.slice b.va b.vs.length b.vc, .slice b.pa b.ps.length b.pc, .slice b.qa b.qs.length b.qc, .int .i64 b.cs, .int .i64 b.nx]) := BA0.out.below hb
  clear hb HB0 BA0
  go_upto_region 2 with fail
  have hba : Below w1.heap.size w1 (w1.alloc (.cells #[.slice b.pa b.ps.length b.pc, .func (.func 58) #[] #[]] 75)) := (belowRefl w1).alloc (Nat.le_refl _) _
  have HB2 : Hid (Below w.heap.size w (w1.alloc (.cells #[.slice b.pa b.ps.length b.pc, .func (.func 58) #[] #[]] 75))) := HB1.out.trans (hba.mono HB1.out.size)
  have BA2 : Hid (Bx (w1.alloc (.cells #[.slice b.pa b.ps.length b.pc, .func (.func 58) #[] #[]] 75)) w.heap.size [.slice b.va b.vs.length b.vc, .slice b.pa b.ps.length b.pc, .slice b.qa b.qs.length b.qc, .int .i64 b.cs, .int .i64 b.nx]) := BA1.out.below hba
  have BK2 : Hid (Bx (w1.alloc (.cells #[.slice b.pa b.ps.length b.pc, .func (.func 58) #[] #[]] 75)) w1.heap.size [.slice b.pa b.ps.length b.pc, .func (.func 58) #[] #[]]) := Bx.new w1 [.slice b.pa b.ps.length b.pc, .func (.func 58) #[] #[]] 75
  clear hba HB1 BA1
  generalize (w1.alloc (.cells #[.slice b.pa b.ps.length b.pc, .func (.func 58) #[] #[]] 75)) = w2 at *
  have x1 := BA2.out.c1
  have hrl0 := HRL.out
  cases rl
  · go_wp2
    go_ret
    exact ⟨rfl, HB2.out⟩
  have k0 := BK2.out.c0
  have k1 := BK2.out.c1
  go_wp2_with fail
  refine (C1.out _ HB2.out).mono ?_
  rintro e w3 ⟨rfl, hb⟩
  have HB3 : Hid (Below w.heap.size w w3) := HB2.out.trans (hb.mono HB2.out.size)
  have BA3 : Hid (Bx w3 w.heap.size [.slice b.va b.vs.length b.vc, .slice b.pa b.ps.length b.pc, .slice b.qa b.qs.length b.qc, .int .i64 b.cs, .int .i64 b.nx]) := BA2.out.below hb
  have BK3 : Hid (Bx w3 w1.heap.size [.slice b.pa b.ps.length b.pc, .func (.func 58) #[] #[]]) := BK2.out.below hb
  clear hb HB2 BA2 BK2
  clear x1 k0 k1
  cases ra
  · go_wp2
    go_ret
    exact ⟨rfl, HB3.out⟩
  have k0 := BK3.out.c0
  have k1 := BK3.out.c1
  have x3 := BA3.out.c3
  go_wp2_with fail
  refine (C2.out _ HB3.out).mono ?_
  rintro e w4 ⟨rfl, hb⟩
  have HB4 : Hid (Below w.heap.size w w4) := HB3.out.trans (hb.mono HB3.out.size)
  have BA4 : Hid (Bx w4 w.heap.size [.slice b.va b.vs.length b.vc, .slice b.pa b.ps.length b.pc, .slice b.qa b.qs.length b.qc, .int .i64 b.cs, .int .i64 b.nx]) := BA3.out.below hb
  have BK4 : Hid (Bx w4 w1.heap.size [.slice b.pa b.ps.length b.pc, .func (.func 58) #[] #[]]) := BK3.out.below hb
  clear hb HB3 BA3 BK3
  clear x3 k0 k1
  cases rb
  case true =>
    go_wp2
    go_ret
    exact ⟨rfl, HB4.out⟩
  have x1 := BA4.out.c1
  go_wp2_with fail
  refine (C3.out _ HB4.out).mono ?_
  rintro e w5 ⟨rfl, hb⟩
  have HB5 : Hid (Below w.heap.size w w5) := HB4.out.trans (hb.mono HB4.out.size)
  have BA5 : Hid (Bx w5 w.heap.size [.slice b.va b.vs.length b.vc, .slice b.pa b.ps.length b.pc, .slice b.qa b.qs.length b.qc, .int .i64 b.cs, .int .i64 b.nx]) := BA4.out.below hb
  have BK5 : Hid (Bx w5 w1.heap.size [.slice b.pa b.ps.length b.pc, .func (.func 58) #[] #[]]) := BK4.out.below hb
  clear hb HB4 BA4 BK4
  go_wp2
  go_ret
  exact ⟨by simp, HB5.out⟩


end Go.Proofs.YtnefncmkhgkdnaaGreat

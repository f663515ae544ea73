/- A list of transactions by a number: above, without. -/
import Derived.Test.YtmijppfppigjcaaGreatPd19
import Derived.Test.YtmijppfppigjcaaGreatPd06
import Derived.Laws.EntriesVeiled
import Derived.Deep.RegionHeld3
import Derived.Deep.Cut
import Derived.Deep.CutRange
import Derived.Test.YtmijppfppigjcaaGreatPd15
import Derived.Test.YtmijppfppigjcaaGreatPd20
import Derived.Test.YtmijppfppigjcaaGreatPd12
import Derived.Test.YtmijppfppigjcaaGreatPd18
namespace Go.Proofs.YtmijppfppigjcaaGreat
open Go.RowKit
open KM
open VM
attribute [local go_sem ↓] Go.wp_at_zero Go.wp_at_succ

def aboveC (i : Int) (x : Ta) : Bool := decide (i < x.t.cs)
def otherA (i : Int) (x : Ta) : Bool := !(x.t.id == i)

set_option maxRecDepth 100000 in
set_option maxHeartbeats 2000000 in
theorem stays205 (x i : Int) (lb : Nat) (w : World) (hb : Bx w lb [.int .i64 i]) :
  Calls Tryz.prog 138 #[.int .i64 x, .pointer (some ⟨lb, 0, none⟩)] w fun e w' => e = .returned (.bool (!(x == i))) ∧ Below w.heap.size w w' := by
 have c0 := hb.c0
 go_enter Tryz.func138, Tryz.ntmps138
 go_wp2
 go_ret
 exact ⟨rfl, belowRefl w⟩

set_option maxRecDepth 100000 in
set_option maxHeartbeats 4000000 in
theorem keptC (xs : List Ta) (a : Option Addr) (c n : Nat) (hx : n = xs.length) (hn : n ≤ 10000000) (i : Int) (lb : Nat) (w : World) (hp : TRows w a xs) (hl : Bx w lb [.int .i64 i]) :
  Calls Tryz.prog 105 #[.agg #[.slice a n c, .func (.func 104) #[] #[]], .func (.func 106) #[] #[.pointer (some ⟨lb, 0, none⟩)]] w fun e w' => ∃ (a1 : Option Addr) (c1 n1 : Nat), e = .returned (.slice a1 n1 c1) ∧ n1 = (xs.filter (aboveC i)).length ∧ GOwn encT 62 w' (w.heap.size + 1) (.slice a1 n1 c1) (xs.filter (aboveC i)) ∧ Below w.heap.size w w' := by
 have BA0 : Hid (Bx (w.alloc (.cells #[.slice a n c, .func (.func 104) #[] #[]] 131)) w.heap.size [.slice a n c, .func (.func 104) #[] #[]]) := Bx.new w [.slice a n c, .func (.func 104) #[] #[]] 131
 have HB0 : Hid (Below w.heap.size w (w.alloc (.cells #[.slice a n c, .func (.func 104) #[] #[]] 131))) := (belowRefl w).alloc (Nat.le_refl _) _
 have HP : Hid (TRows w a xs) := hp
 have HL : Hid (Bx w lb [.int .i64 i]) := hl
 have HX : Hid (n = xs.length) := hx
 clear hp hx hl
 go_enter Tryz.func105, Tryz.ntmps105
 go_upto_region 1 with fail
 generalize (w.alloc (.cells #[.slice a n c, .func (.func 104) #[] #[]] 131)) = w0 at *
 have x0 := BA0.out.c0
 go_wp2
 go_loopw [5, 11] (fun v t wr => ∃ k : Nat, k ≤ n ∧ t = .int .i64 k ∧ Hid (GOwn encT 62 wr (w.heap.size + 1) v ((xs.take k).filter (aboveC i))) ∧ Hid (Below w.heap.size w wr) ∧ Hid (Bx wr w.heap.size [.slice a n c, .func (.func 104) #[] #[]])) (fun _ t _ => n - (intOf t).toNat)
 case atStart => exact ⟨0, Nat.zero_le _, rfl, GOwn.nil _ _, HB0, BA0⟩
 case round =>
  clear BA0 HB0 x0
  obtain ⟨k, hk, rfl, HO, HB, BA⟩ := hrel
  by_cases hlt : k < n
  ·have hlt' : (k : Int) < (n : Int) := by omega
   have h0 : (0 : Int) ≤ (k : Int) := by omega
   have hkx : k < xs.length := by rw [← HX.out]; exact hlt
   obtain ⟨b, o, rfl, hbl, hc, -⟩ := (HP.out.below HB.out).cls k hkx
   have HYes : Hid (aboveC i xs[k] = true → (xs.take (k + 1)).filter (aboveC i) = (xs.take k).filter (aboveC i) ++ [xs[k]]) := fun h => by show _ = _; rw [filter_take _ xs k hkx, h]; rfl
   have HNo : Hid (aboveC i xs[k] = false → (xs.take (k + 1)).filter (aboveC i) = (xs.take k).filter (aboveC i)) := fun h => by show _ = _; rw [filter_take _ xs k hkx, h]; simp
   have HLn : Hid (((xs.take k).filter (aboveC i)).length ≤ 100000000) := Nat.le_trans (List.length_filter_le _ _) (Nat.le_trans (List.length_take_le _ _) (by omega))
   obtain ⟨x, hx⟩ : ∃ x, x = xs[k] := ⟨_, rfl⟩
   rw [← hx] at hc HYes HNo
   clear hx hkx
   have r0 := hc.c0
   have r1 := hc.c1
   have r2 := hc.c2
   have r3 := hc.c3
   have r4 := hc.c4
   have r5 := hc.c5
   have r6 := hc.c6
   have r7 := hc.c7
   clear hc
   obtain ⟨F, hF⟩ : ∃ F, F = (xs.take k).filter (aboveC i) := ⟨_, rfl⟩
   rw [← hF] at HO HYes HNo HLn
   clear hF
   have hln := HLn.out
   have HB1 : Hid (Below w.heap.size w (wr.alloc (.cells #[.int .i64 x.t.id, .int .i64 x.t.st, .int .i64 x.t.snap, .int .i64 x.t.cs, .slice x.ra x.t.rs.length x.rc, .slice x.wa x.t.ws.length x.wc, .bool x.t.out, .string x.t.nm] 62))) := HB.out.alloc HB.out.size _
   have BX1 : Hid (Bx (wr.alloc (.cells #[.int .i64 x.t.id, .int .i64 x.t.st, .int .i64 x.t.snap, .int .i64 x.t.cs, .slice x.ra x.t.rs.length x.rc, .slice x.wa x.t.ws.length x.wc, .bool x.t.out, .string x.t.nm] 62)) wr.heap.size [.int .i64 x.t.id, .int .i64 x.t.st, .int .i64 x.t.snap, .int .i64 x.t.cs, .slice x.ra x.t.rs.length x.rc, .slice x.wa x.t.ws.length x.wc, .bool x.t.out, .string x.t.nm]) := Bx.new wr [.int .i64 x.t.id, .int .i64 x.t.st, .int .i64 x.t.snap, .int .i64 x.t.cs, .slice x.ra x.t.rs.length x.rc, .slice x.wa x.t.ws.length x.wc, .bool x.t.out, .string x.t.nm] 62
   have BA1 : Hid (Bx (wr.alloc (.cells #[.int .i64 x.t.id, .int .i64 x.t.st, .int .i64 x.t.snap, .int .i64 x.t.cs, .slice x.ra x.t.rs.length x.rc, .slice x.wa x.t.ws.length x.wc, .bool x.t.out, .string x.t.nm] 62)) w.heap.size [.slice (some ⟨b, o, none⟩) n c, .func (.func 104) #[] #[]]) := BA.out.alloc _
   have O1 := hide (HO.out.alloc (.cells #[.int .i64 x.t.id, .int .i64 x.t.st, .int .i64 x.t.snap, .int .i64 x.t.cs, .slice x.ra x.t.rs.length x.rc, .slice x.wa x.t.ws.length x.wc, .bool x.t.out, .string x.t.nm] 62))
   go_upto_region 5 with fail
   clear r0 r1 r2 r3 r4 r5 r6 r7 BA HO HB
   generalize (wr.alloc (.cells #[.int .i64 x.t.id, .int .i64 x.t.st, .int .i64 x.t.snap, .int .i64 x.t.cs, .slice x.ra x.t.rs.length x.rc, .slice x.wa x.t.ws.length x.wc, .bool x.t.out, .string x.t.nm] 62)) = w1 at *
   have y1 := BA1.out.c1
   have x0 := BX1.out.c0
   have x1 := BX1.out.c1
   have x2 := BX1.out.c2
   have x3 := BX1.out.c3
   have x4 := BX1.out.c4
   have x5 := BX1.out.c5
   have x6 := BX1.out.c6
   have x7 := BX1.out.c7
   go_wp2_with fail
   refine (key58 x _).mono ?_
   rintro e w2 ⟨rfl, hb2⟩
   have HB2 : Hid (Below w.heap.size w w2) := HB1.out.trans (hb2.mono HB1.out.size)
   have O2 := hide (O1.out.below hb2)
   have BA2 := hide (BA1.out.below hb2)
   have BX2 := hide (BX1.out.below hb2)
   clear hb2 y1 x0 x1 x2 x3 x4 x5 x6 x7 BA1 BX1 O1
   go_wp2_with fail
   refine (stays80 x.t.cs i lb _ (HL.out.below HB2.out)).mono ?_
   rintro e w3 ⟨rfl, hb3⟩
   have HB3 : Hid (Below w.heap.size w w3) := HB2.out.trans (hb3.mono HB2.out.size)
   have O3 := hide (O2.out.below hb3)
   have BA3 := hide (BA2.out.below hb3)
   have BX3 := hide (BX2.out.below hb3)
   have hsz2 := BA3.out.lt
   clear hb3 BA2 BX2 O2
   cases hq : (decide (i < x.t.cs))
   ·have HE := hide (HNo.out (by unfold aboveC; rw [hq]))
    clear HYes HNo
    go_wp2
    go_roundw
    case rel => exact ⟨k + 1, by omega, by go_num, by rw [HE.out]; exact O3, HB3, BA3⟩
    case measure => simp [intOf]; omega
   ·have HE := hide (HYes.out (by unfold aboveC; rw [hq]))
    clear HYes HNo
    have x0 := BX3.out.c0
    have x1 := BX3.out.c1
    have x2 := BX3.out.c2
    have x3 := BX3.out.c3
    have x4 := BX3.out.c4
    have x5 := BX3.out.c5
    have x6 := BX3.out.c6
    have x7 := BX3.out.c7
    have HBK : Hid ((w3.alloc (.cells #[.int .i64 x.t.id, .int .i64 x.t.st, .int .i64 x.t.snap, .int .i64 x.t.cs, .slice x.ra x.t.rs.length x.rc, .slice x.wa x.t.ws.length x.wc, .bool x.t.out, .string x.t.nm] 62)).heap[w3.heap.size]? = some (.cells (encT.enc x).toArray 62 (0, 0))) := heap_alloc_new w3 _
    have O3a := hide (O3.out.alloc (.cells #[.int .i64 x.t.id, .int .i64 x.t.st, .int .i64 x.t.snap, .int .i64 x.t.cs, .slice x.ra x.t.rs.length x.rc, .slice x.wa x.t.ws.length x.wc, .bool x.t.out, .string x.t.nm] 62))
    go_wp2_with (at_builtin; refine wpAppK (E := encT) 40 62 104 _ Tryz.underlying40 Tryz.info62 rfl (by omega) rfl _ _ rfl x tone rfl O3a.out rfl HBK.out hln (by simp; omega) ?_)
    intro g' cap w4 ho4 hg4 hg5 hlt4
    have hb4 : Below (w.heap.size + 1) w3 w4 := ((Below.refl _ _).alloc (Nat.succ_le_of_lt hsz2) _).trans ((Below.refl _ _).grown hg4 (by simp; omega) (fun j hj => (World.ownsRow.lt O3a.out j hj).1))
    have O4 : Hid (GOwn encT 62 w4 (w.heap.size + 1) (.slice (some ⟨g', 0, none⟩) (F.length + 1) cap) (F ++ [x])) := ho4
    have HB4 : Hid (Below w.heap.size w w4) := HB3.out.trans (hb4.mono (Nat.le_succ _))
    have BA4 := hide (bx_low BA3.out hb4 (Nat.lt_succ_self _))
    clear ho4 hb4 hg4 hg5 hlt4 O3a O3 HBK x0 x1 x2 x3 x4 x5 x6 x7
    go_wp2
    go_roundw
    case rel => exact ⟨k + 1, by omega, by go_num, by rw [HE.out]; exact O4, HB4, BA4⟩
    case measure => simp [intOf]; omega
  ·have hd : ¬ (k : Int) < (n : Int) := by omega
   have HE : Hid (xs.take k = xs) := List.take_of_length_le (by rw [← HX.out]; omega)
   rw [HE.out] at HO
   obtain ⟨a1, c1, rfl, _⟩ := HO.out.row
   obtain ⟨n1, hn1⟩ : ∃ n1, n1 = (xs.filter (aboveC i)).length := ⟨_, rfl⟩
   rw [← hn1] at HO ⊢
   have HN1 : Hid (n1 = (xs.filter (aboveC i)).length) := hn1
   clear hn1
   go_wp2
   go_ret
   exact ⟨a1, c1, n1, rfl, HN1.out, HO.out, HB.out⟩

set_option maxRecDepth 100000 in
set_option maxHeartbeats 4000000 in
theorem keptI (xs : List Ta) (a : Option Addr) (c n : Nat) (hx : n = xs.length) (hn : n ≤ 10000000) (i : Int) (lb : Nat) (w : World) (hp : TRows w a xs) (hl : Bx w lb [.int .i64 i]) :
  Calls Tryz.prog 105 #[.agg #[.slice a n c, .func (.func 137) #[] #[]], .func (.func 138) #[] #[.pointer (some ⟨lb, 0, none⟩)]] w fun e w' => ∃ (a1 : Option Addr) (c1 n1 : Nat), e = .returned (.slice a1 n1 c1) ∧ n1 = (xs.filter (otherA i)).length ∧ GOwn encT 62 w' (w.heap.size + 1) (.slice a1 n1 c1) (xs.filter (otherA i)) ∧ Below w.heap.size w w' := by
 have BA0 : Hid (Bx (w.alloc (.cells #[.slice a n c, .func (.func 137) #[] #[]] 131)) w.heap.size [.slice a n c, .func (.func 137) #[] #[]]) := Bx.new w [.slice a n c, .func (.func 137) #[] #[]] 131
 have HB0 : Hid (Below w.heap.size w (w.alloc (.cells #[.slice a n c, .func (.func 137) #[] #[]] 131))) := (belowRefl w).alloc (Nat.le_refl _) _
 have HP : Hid (TRows w a xs) := hp
 have HL : Hid (Bx w lb [.int .i64 i]) := hl
 have HX : Hid (n = xs.length) := hx
 clear hp hx hl
 go_enter Tryz.func105, Tryz.ntmps105
 go_upto_region 1 with fail
 generalize (w.alloc (.cells #[.slice a n c, .func (.func 137) #[] #[]] 131)) = w0 at *
 have x0 := BA0.out.c0
 go_wp2
 go_loopw [5, 11] (fun v t wr => ∃ k : Nat, k ≤ n ∧ t = .int .i64 k ∧ Hid (GOwn encT 62 wr (w.heap.size + 1) v ((xs.take k).filter (otherA i))) ∧ Hid (Below w.heap.size w wr) ∧ Hid (Bx wr w.heap.size [.slice a n c, .func (.func 137) #[] #[]])) (fun _ t _ => n - (intOf t).toNat)
 case atStart => exact ⟨0, Nat.zero_le _, rfl, GOwn.nil _ _, HB0, BA0⟩
 case round =>
  clear BA0 HB0 x0
  obtain ⟨k, hk, rfl, HO, HB, BA⟩ := hrel
  by_cases hlt : k < n
  ·have hlt' : (k : Int) < (n : Int) := by omega
   have h0 : (0 : Int) ≤ (k : Int) := by omega
   have hkx : k < xs.length := by rw [← HX.out]; exact hlt
   obtain ⟨b, o, rfl, hbl, hc, -⟩ := (HP.out.below HB.out).cls k hkx
   have HYes : Hid (otherA i xs[k] = true → (xs.take (k + 1)).filter (otherA i) = (xs.take k).filter (otherA i) ++ [xs[k]]) := fun h => by show _ = _; rw [filter_take _ xs k hkx, h]; rfl
   have HNo : Hid (otherA i xs[k] = false → (xs.take (k + 1)).filter (otherA i) = (xs.take k).filter (otherA i)) := fun h => by show _ = _; rw [filter_take _ xs k hkx, h]; simp
   have HLn : Hid (((xs.take k).filter (otherA i)).length ≤ 100000000) := Nat.le_trans (List.length_filter_le _ _) (Nat.le_trans (List.length_take_le _ _) (by omega))
   obtain ⟨x, hx⟩ : ∃ x, x = xs[k] := ⟨_, rfl⟩
   rw [← hx] at hc HYes HNo
   clear hx hkx
   have r0 := hc.c0
   have r1 := hc.c1
   have r2 := hc.c2
   have r3 := hc.c3
   have r4 := hc.c4
   have r5 := hc.c5
   have r6 := hc.c6
   have r7 := hc.c7
   clear hc
   obtain ⟨F, hF⟩ : ∃ F, F = (xs.take k).filter (otherA i) := ⟨_, rfl⟩
   rw [← hF] at HO HYes HNo HLn
   clear hF
   have hln := HLn.out
   have HB1 : Hid (Below w.heap.size w (wr.alloc (.cells #[.int .i64 x.t.id, .int .i64 x.t.st, .int .i64 x.t.snap, .int .i64 x.t.cs, .slice x.ra x.t.rs.length x.rc, .slice x.wa x.t.ws.length x.wc, .bool x.t.out, .string x.t.nm] 62))) := HB.out.alloc HB.out.size _
   have BX1 : Hid (Bx (wr.alloc (.cells #[.int .i64 x.t.id, .int .i64 x.t.st, .int .i64 x.t.snap, .int .i64 x.t.cs, .slice x.ra x.t.rs.length x.rc, .slice x.wa x.t.ws.length x.wc, .bool x.t.out, .string x.t.nm] 62)) wr.heap.size [.int .i64 x.t.id, .int .i64 x.t.st, .int .i64 x.t.snap, .int .i64 x.t.cs, .slice x.ra x.t.rs.length x.rc, .slice x.wa x.t.ws.length x.wc, .bool x.t.out, .string x.t.nm]) := Bx.new wr [.int .i64 x.t.id, .int .i64 x.t.st, .int .i64 x.t.snap, .int .i64 x.t.cs, .slice x.ra x.t.rs.length x.rc, .slice x.wa x.t.ws.length x.wc, .bool x.t.out, .string x.t.nm] 62
   have BA1 : Hid (Bx (wr.alloc (.cells #[.int .i64 x.t.id, .int .i64 x.t.st, .int .i64 x.t.snap, .int .i64 x.t.cs, .slice x.ra x.t.rs.length x.rc, .slice x.wa x.t.ws.length x.wc, .bool x.t.out, .string x.t.nm] 62)) w.heap.size [.slice (some ⟨b, o, none⟩) n c, .func (.func 137) #[] #[]]) := BA.out.alloc _
   have O1 := hide (HO.out.alloc (.cells #[.int .i64 x.t.id, .int .i64 x.t.st, .int .i64 x.t.snap, .int .i64 x.t.cs, .slice x.ra x.t.rs.length x.rc, .slice x.wa x.t.ws.length x.wc, .bool x.t.out, .string x.t.nm] 62))
   go_upto_region 5 with fail
   clear r0 r1 r2 r3 r4 r5 r6 r7 BA HO HB
   generalize (wr.alloc (.cells #[.int .i64 x.t.id, .int .i64 x.t.st, .int .i64 x.t.snap, .int .i64 x.t.cs, .slice x.ra x.t.rs.length x.rc, .slice x.wa x.t.ws.length x.wc, .bool x.t.out, .string x.t.nm] 62)) = w1 at *
   have y1 := BA1.out.c1
   have x0 := BX1.out.c0
   have x1 := BX1.out.c1
   have x2 := BX1.out.c2
   have x3 := BX1.out.c3
   have x4 := BX1.out.c4
   have x5 := BX1.out.c5
   have x6 := BX1.out.c6
   have x7 := BX1.out.c7
   go_wp2_with fail
   refine (key67 x _).mono ?_
   rintro e w2 ⟨rfl, hb2⟩
   have HB2 : Hid (Below w.heap.size w w2) := HB1.out.trans (hb2.mono HB1.out.size)
   have O2 := hide (O1.out.below hb2)
   have BA2 := hide (BA1.out.below hb2)
   have BX2 := hide (BX1.out.below hb2)
   clear hb2 y1 x0 x1 x2 x3 x4 x5 x6 x7 BA1 BX1 O1
   go_wp2_with fail
   refine (stays205 x.t.id i lb _ (HL.out.below HB2.out)).mono ?_
   rintro e w3 ⟨rfl, hb3⟩
   have HB3 : Hid (Below w.heap.size w w3) := HB2.out.trans (hb3.mono HB2.out.size)
   have O3 := hide (O2.out.below hb3)
   have BA3 := hide (BA2.out.below hb3)
   have BX3 := hide (BX2.out.below hb3)
   have hsz2 := BA3.out.lt
   clear hb3 BA2 BX2 O2
   cases hq : (x.t.id == i)
   ·have HE := hide (HYes.out (by unfold otherA; rw [hq]; rfl))
    clear HYes HNo
    have x0 := BX3.out.c0
    have x1 := BX3.out.c1
    have x2 := BX3.out.c2
    have x3 := BX3.out.c3
    have x4 := BX3.out.c4
    have x5 := BX3.out.c5
    have x6 := BX3.out.c6
    have x7 := BX3.out.c7
    have HBK : Hid ((w3.alloc (.cells #[.int .i64 x.t.id, .int .i64 x.t.st, .int .i64 x.t.snap, .int .i64 x.t.cs, .slice x.ra x.t.rs.length x.rc, .slice x.wa x.t.ws.length x.wc, .bool x.t.out, .string x.t.nm] 62)).heap[w3.heap.size]? = some (.cells (encT.enc x).toArray 62 (0, 0))) := heap_alloc_new w3 _
    have O3a := hide (O3.out.alloc (.cells #[.int .i64 x.t.id, .int .i64 x.t.st, .int .i64 x.t.snap, .int .i64 x.t.cs, .slice x.ra x.t.rs.length x.rc, .slice x.wa x.t.ws.length x.wc, .bool x.t.out, .string x.t.nm] 62))
    go_wp2_with (at_builtin; refine wpAppK (E := encT) 40 62 104 _ Tryz.underlying40 Tryz.info62 rfl (by omega) rfl _ _ rfl x tone rfl O3a.out rfl HBK.out hln (by simp; omega) ?_)
    intro g' cap w4 ho4 hg4 hg5 hlt4
    have hb4 : Below (w.heap.size + 1) w3 w4 := ((Below.refl _ _).alloc (Nat.succ_le_of_lt hsz2) _).trans ((Below.refl _ _).grown hg4 (by simp; omega) (fun j hj => (World.ownsRow.lt O3a.out j hj).1))
    have O4 : Hid (GOwn encT 62 w4 (w.heap.size + 1) (.slice (some ⟨g', 0, none⟩) (F.length + 1) cap) (F ++ [x])) := ho4
    have HB4 : Hid (Below w.heap.size w w4) := HB3.out.trans (hb4.mono (Nat.le_succ _))
    have BA4 := hide (bx_low BA3.out hb4 (Nat.lt_succ_self _))
    clear ho4 hb4 hg4 hg5 hlt4 O3a O3 HBK x0 x1 x2 x3 x4 x5 x6 x7
    go_wp2
    go_roundw
    case rel => exact ⟨k + 1, by omega, by go_num, by rw [HE.out]; exact O4, HB4, BA4⟩
    case measure => simp [intOf]; omega
   ·have HE := hide (HNo.out (by unfold otherA; rw [hq]; rfl))
    clear HYes HNo
    go_wp2
    go_roundw
    case rel => exact ⟨k + 1, by omega, by go_num, by rw [HE.out]; exact O3, HB3, BA3⟩
    case measure => simp [intOf]; omega
  ·have hd : ¬ (k : Int) < (n : Int) := by omega
   have HE : Hid (xs.take k = xs) := List.take_of_length_le (by rw [← HX.out]; omega)
   rw [HE.out] at HO
   obtain ⟨a1, c1, rfl, _⟩ := HO.out.row
   obtain ⟨n1, hn1⟩ : ∃ n1, n1 = (xs.filter (otherA i)).length := ⟨_, rfl⟩
   rw [← hn1] at HO ⊢
   have HN1 : Hid (n1 = (xs.filter (otherA i)).length) := hn1
   clear hn1
   go_wp2
   go_ret
   exact ⟨a1, c1, n1, rfl, HN1.out, HO.out, HB.out⟩

set_option maxRecDepth 100000 in
set_option maxHeartbeats 2000000 in
theorem aboveC118 (xs : List Ta) (a : Option Addr) (c n : Nat) (hx : n = xs.length) (hn : n ≤ 10000000) (i : Int) (w : World) (hp : TRows w a xs) :
  Calls Tryz.prog 70 #[.agg #[.slice a n c, .func (.func 104) #[] #[]], .int .i64 i] w fun e w' => ∃ (a1 : Option Addr) (c1 n1 : Nat), e = .returned (.slice a1 n1 c1) ∧ n1 = (xs.filter (aboveC i)).length ∧ GOwn encT 62 w' w.heap.size (.slice a1 n1 c1) (xs.filter (aboveC i)) ∧ Below w.heap.size w w' := by
 have HB0 : Hid (Below w.heap.size w ((w.alloc (.cells #[.slice a n c, .func (.func 104) #[] #[]] 131)).alloc (.cells #[.int .i64 i] 3))) := ((belowRefl w).alloc (Nat.le_refl _) _).alloc (by simp) _
 have BL : Hid (Bx ((w.alloc (.cells #[.slice a n c, .func (.func 104) #[] #[]] 131)).alloc (.cells #[.int .i64 i] 3)) (w.heap.size + 1) [.int .i64 i]) := by
  have h := Bx.new (w.alloc (.cells #[.slice a n c, .func (.func 104) #[] #[]] 131)) [.int .i64 i] 3
  rw [show (w.alloc (.cells #[.slice a n c, .func (.func 104) #[] #[]] 131)).heap.size = w.heap.size + 1 by simp] at h
  exact h
 have H := hide (keptC xs a c n hx hn i (w.heap.size + 1) ((w.alloc (.cells #[.slice a n c, .func (.func 104) #[] #[]] 131)).alloc (.cells #[.int .i64 i] 3)) (hp.below HB0.out) BL.out)
 have hbs : w.heap.size ≤ ((w.alloc (.cells #[.slice a n c, .func (.func 104) #[] #[]] 131)).alloc (.cells #[.int .i64 i] 3)).heap.size + 1 := by simp; omega
 obtain ⟨bs, hbe⟩ : ∃ bs, bs = ((w.alloc (.cells #[.slice a n c, .func (.func 104) #[] #[]] 131)).alloc (.cells #[.int .i64 i] 3)).heap.size + 1 := ⟨_, rfl⟩
 rw [← hbe] at hbs
 have BS : Hid (((w.alloc (.cells #[.slice a n c, .func (.func 104) #[] #[]] 131)).alloc (.cells #[.int .i64 i] 3)).heap.size + 1 = bs) := hbe.symm
 clear hp hx BL hbe
 go_enter Tryz.func70, Tryz.ntmps70
 go_wp2_with fail
 refine H.out.mono ?_
 rintro e w1 ⟨a1, c1, n1, rfl, hn1, ho, hb1⟩
 have HB1 : Hid (Below w.heap.size w w1) := HB0.out.trans (hb1.mono HB0.out.size)
 have HN1 : Hid (n1 = (xs.filter (aboveC i)).length) := hn1
 have HO1 : Hid (GOwn encT 62 w1 w.heap.size (.slice a1 n1 c1) (xs.filter (aboveC i))) := GOwn.mono ho (by rw [BS.out]; exact hbs)
 clear hb1 hn1 H ho
 go_wp2
 go_ret
 exact ⟨a1, c1, n1, rfl, HN1.out, HO1.out, HB1.out⟩

set_option maxRecDepth 100000 in
set_option maxHeartbeats 2000000 in
theorem withoutI (xs : List Ta) (a : Option Addr) (c n : Nat) (hx : n = xs.length) (hn : n ≤ 10000000) (i : Int) (w : World) (hp : TRows w a xs) :
  Calls Tryz.prog 99 #[.agg #[.slice a n c, .func (.func 137) #[] #[]], .int .i64 i] w fun e w' => ∃ (a1 : Option Addr) (c1 n1 : Nat), e = .returned (.slice a1 n1 c1) ∧ n1 = (xs.filter (otherA i)).length ∧ GOwn encT 62 w' w.heap.size (.slice a1 n1 c1) (xs.filter (otherA i)) ∧ Below w.heap.size w w' := by
 have HB0 : Hid (Below w.heap.size w ((w.alloc (.cells #[.slice a n c, .func (.func 137) #[] #[]] 131)).alloc (.cells #[.int .i64 i] 3))) := ((belowRefl w).alloc (Nat.le_refl _) _).alloc (by simp) _
 have BL : Hid (Bx ((w.alloc (.cells #[.slice a n c, .func (.func 137) #[] #[]] 131)).alloc (.cells #[.int .i64 i] 3)) (w.heap.size + 1) [.int .i64 i]) := by
  have h := Bx.new (w.alloc (.cells #[.slice a n c, .func (.func 137) #[] #[]] 131)) [.int .i64 i] 3
  rw [show (w.alloc (.cells #[.slice a n c, .func (.func 137) #[] #[]] 131)).heap.size = w.heap.size + 1 by simp] at h
  exact h
 have H := hide (keptI xs a c n hx hn i (w.heap.size + 1) ((w.alloc (.cells #[.slice a n c, .func (.func 137) #[] #[]] 131)).alloc (.cells #[.int .i64 i] 3)) (hp.below HB0.out) BL.out)
 have hbs : w.heap.size ≤ ((w.alloc (.cells #[.slice a n c, .func (.func 137) #[] #[]] 131)).alloc (.cells #[.int .i64 i] 3)).heap.size + 1 := by simp; omega
 obtain ⟨bs, hbe⟩ : ∃ bs, bs = ((w.alloc (.cells #[.slice a n c, .func (.func 137) #[] #[]] 131)).alloc (.cells #[.int .i64 i] 3)).heap.size + 1 := ⟨_, rfl⟩
 rw [← hbe] at hbs
 have BS : Hid (((w.alloc (.cells #[.slice a n c, .func (.func 137) #[] #[]] 131)).alloc (.cells #[.int .i64 i] 3)).heap.size + 1 = bs) := hbe.symm
 clear hp hx BL hbe
 go_enter Tryz.func99, Tryz.ntmps99
 go_wp2_with fail
 refine H.out.mono ?_
 rintro e w1 ⟨a1, c1, n1, rfl, hn1, ho, hb1⟩
 have HB1 : Hid (Below w.heap.size w w1) := HB0.out.trans (hb1.mono HB0.out.size)
 have HN1 : Hid (n1 = (xs.filter (otherA i)).length) := hn1
 have HO1 : Hid (GOwn encT 62 w1 w.heap.size (.slice a1 n1 c1) (xs.filter (otherA i))) := GOwn.mono ho (by rw [BS.out]; exact hbs)
 clear hb1 hn1 H ho
 go_wp2
 go_ret
 exact ⟨a1, c1, n1, rfl, HN1.out, HO1.out, HB1.out⟩

end Go.Proofs.YtmijppfppigjcaaGreat

namespace Go.Proofs.YtmijppfppigjcaaGreat
open Go.RowKit
open KM
open VM
attribute [local go_sem ↓] Go.wp_at_zero Go.wp_at_succ

set_option maxRecDepth 100000 in
set_option maxHeartbeats 2000000 in
theorem keys66 (xs : List Ta) (a : Option Addr) (c n : Nat) (hx : n = xs.length) (hn : n ≤ 10000000) (w : World) (hp : TRows w a xs) :
  Calls Tryz.prog 142 #[.agg #[.slice a n c, .func (.func 141) #[] #[]]] w fun e w' => ∃ (a1 : Option Addr) (c1 : Nat), e = .returned (.slice a1 n c1) ∧ GOwn encI 3 w' (w.heap.size + 1) (.slice a1 n c1) (xs.map fun x : Ta => x.t.snap) ∧ Below w.heap.size w w' := by
 have BA0 : Hid (Bx (w.alloc (.cells #[.slice a n c, .func (.func 141) #[] #[]] 131)) w.heap.size [.slice a n c, .func (.func 141) #[] #[]]) := Bx.new w [.slice a n c, .func (.func 141) #[] #[]] 131
 have HB0 : Hid (Below w.heap.size w (w.alloc (.cells #[.slice a n c, .func (.func 141) #[] #[]] 131))) := (belowRefl w).alloc (Nat.le_refl _) _
 have HP : Hid (TRows w a xs) := hp
 have HX : Hid (n = xs.length) := hx
 clear hp hx
 go_enter Tryz.func142, Tryz.ntmps142
 go_upto_region 1 with fail
 generalize (w.alloc (.cells #[.slice a n c, .func (.func 141) #[] #[]] 131)) = w0 at *
 have x0 := BA0.out.c0
 go_wp2
 go_loopw [3, 9] (fun v t wr => ∃ k : Nat, k ≤ n ∧ t = .int .i64 k ∧ Hid (GOwn encI 3 wr (w.heap.size + 1) v ((xs.take k).map fun x : Ta => x.t.snap)) ∧ Hid (Below w.heap.size w wr) ∧ Hid (Bx wr w.heap.size [.slice a n c, .func (.func 141) #[] #[]])) (fun _ t _ => n - (intOf t).toNat)
 case atStart => exact ⟨0, Nat.zero_le _, rfl, GOwn.nil _ _, HB0, BA0⟩
 case round =>
  clear BA0 HB0 x0
  obtain ⟨k, hk, rfl, HO, HB, BA⟩ := hrel
  by_cases hlt : k < n
  ·have hlt' : (k : Int) < (n : Int) := by omega
   have h0 : (0 : Int) ≤ (k : Int) := by omega
   have hkx : k < xs.length := by rw [← HX.out]; exact hlt
   obtain ⟨b, o, rfl, hbl, hc, -⟩ := (HP.out.below HB.out).cls k hkx
   have HNX : Hid (((xs.take (k + 1)).map fun x : Ta => x.t.snap) = ((xs.take k).map fun x : Ta => x.t.snap) ++ [xs[k].t.snap]) := by
    show _ = _
    rw [List.take_add_one, List.getElem?_eq_getElem hkx, List.map_append]
    rfl
   have HLn : Hid (((xs.take k).map fun x : Ta => x.t.snap).length ≤ 100000000) := by show _ ≤ _; rw [List.length_map]; exact Nat.le_trans (List.length_take_le _ _) (by omega)
   obtain ⟨x, hx⟩ : ∃ x, x = xs[k] := ⟨_, rfl⟩
   rw [← hx] at hc HNX
   clear hx hkx
   have r0 := hc.c0
   have r1 := hc.c1
   have r2 := hc.c2
   have r3 := hc.c3
   have r4 := hc.c4
   have r5 := hc.c5
   have r6 := hc.c6
   have r7 := hc.c7
   clear hc
   obtain ⟨F, hF⟩ : ∃ F, F = ((xs.take k).map fun x : Ta => x.t.snap) := ⟨_, rfl⟩
   rw [← hF] at HO HNX HLn
   clear hF
   have hln := HLn.out
   have HB1 : Hid (Below w.heap.size w (wr.alloc (.cells #[.int .i64 x.t.id, .int .i64 x.t.st, .int .i64 x.t.snap, .int .i64 x.t.cs, .slice x.ra x.t.rs.length x.rc, .slice x.wa x.t.ws.length x.wc, .bool x.t.out, .string x.t.nm] 62))) := HB.out.alloc HB.out.size _
   have BX1 : Hid (Bx (wr.alloc (.cells #[.int .i64 x.t.id, .int .i64 x.t.st, .int .i64 x.t.snap, .int .i64 x.t.cs, .slice x.ra x.t.rs.length x.rc, .slice x.wa x.t.ws.length x.wc, .bool x.t.out, .string x.t.nm] 62)) wr.heap.size [.int .i64 x.t.id, .int .i64 x.t.st, .int .i64 x.t.snap, .int .i64 x.t.cs, .slice x.ra x.t.rs.length x.rc, .slice x.wa x.t.ws.length x.wc, .bool x.t.out, .string x.t.nm]) := Bx.new wr [.int .i64 x.t.id, .int .i64 x.t.st, .int .i64 x.t.snap, .int .i64 x.t.cs, .slice x.ra x.t.rs.length x.rc, .slice x.wa x.t.ws.length x.wc, .bool x.t.out, .string x.t.nm] 62
   have BA1 : Hid (Bx (wr.alloc (.cells #[.int .i64 x.t.id, .int .i64 x.t.st, .int .i64 x.t.snap, .int .i64 x.t.cs, .slice x.ra x.t.rs.length x.rc, .slice x.wa x.t.ws.length x.wc, .bool x.t.out, .string x.t.nm] 62)) w.heap.size [.slice (some ⟨b, o, none⟩) n c, .func (.func 141) #[] #[]]) := BA.out.alloc _
   have O1 := hide (HO.out.alloc (.cells #[.int .i64 x.t.id, .int .i64 x.t.st, .int .i64 x.t.snap, .int .i64 x.t.cs, .slice x.ra x.t.rs.length x.rc, .slice x.wa x.t.ws.length x.wc, .bool x.t.out, .string x.t.nm] 62))
   go_upto_region 5 with fail
   clear r0 r1 r2 r3 r4 r5 r6 r7 BA HO HB
   generalize (wr.alloc (.cells #[.int .i64 x.t.id, .int .i64 x.t.st, .int .i64 x.t.snap, .int .i64 x.t.cs, .slice x.ra x.t.rs.length x.rc, .slice x.wa x.t.ws.length x.wc, .bool x.t.out, .string x.t.nm] 62)) = w1 at *
   have y1 := BA1.out.c1
   have x0 := BX1.out.c0
   have x1 := BX1.out.c1
   have x2 := BX1.out.c2
   have x3 := BX1.out.c3
   have x4 := BX1.out.c4
   have x5 := BX1.out.c5
   have x6 := BX1.out.c6
   have x7 := BX1.out.c7
   go_wp2_with fail
   refine (key66 x _).mono ?_
   rintro e w2 ⟨rfl, hb2⟩
   have HB2 : Hid (Below w.heap.size w w2) := HB1.out.trans (hb2.mono HB1.out.size)
   have O2 := hide (O1.out.below hb2)
   have BA2 := hide (BA1.out.below hb2)
   have hsz2 := BA2.out.lt
   clear hb2 y1 x0 x1 x2 x3 x4 x5 x6 x7
   obtain ⟨yy, hyy⟩ : ∃ yy, yy = x.t.snap := ⟨_, rfl⟩
   rw [← hyy] at HNX ⊢
   clear hyy
   have HBK : Hid ((w2.alloc (.cells #[.int .i64 yy] 3)).heap[w2.heap.size]? = some (.cells (encI.enc yy).toArray 3 (0, 0))) := heap_alloc_new w2 _
   have O2a := hide (O2.out.alloc (.cells #[.int .i64 yy] 3))
   obtain ⟨n0, hn0⟩ : ∃ n0, n0 = F.length := ⟨_, rfl⟩
   go_wp2_with (at_builtin; refine wpAppK (E := encI) 34 3 8 _ Tryz.underlying34 Tryz.info3 rfl (by omega) rfl _ _ rfl yy oneI rfl O2a.out rfl HBK.out hln (by simp; omega) ?_)
   intro g' cap w3 ho3 hg3 hg4 hlt3
   have hb3 : Below (w.heap.size + 1) w2 w3 := ((Below.refl _ _).alloc (Nat.succ_le_of_lt hsz2) _).trans ((Below.refl _ _).grown hg3 (by simp; omega) (fun j hj => (World.ownsRow.lt O2a.out j hj).1))
   have O3 : Hid (GOwn encI 3 w3 (w.heap.size + 1) (.slice (some ⟨g', 0, none⟩) (F.length + 1) cap) (F ++ [yy])) := ho3
   have HB3 : Hid (Below w.heap.size w w3) := HB2.out.trans (hb3.mono (Nat.le_succ _))
   have BA3 := hide (bx_low BA2.out hb3 (Nat.lt_succ_self _))
   clear ho3 hb3 hg3 hg4 hlt3 O2a O2 HBK hn0
   go_wp2
   go_roundw
   case rel => exact ⟨k + 1, by omega, by go_num, by rw [HNX.out]; exact O3, HB3, BA3⟩
   case measure => simp [intOf]; omega
  ·have hd : ¬ (k : Int) < (n : Int) := by omega
   have HE : Hid (xs.take k = xs) := List.take_of_length_le (by rw [← HX.out]; omega)
   rw [HE.out] at HO
   have HL : Hid ((xs.map fun x : Ta => x.t.snap).length = n) := by show _ = _; rw [List.length_map, HX.out]
   obtain ⟨a1, c1, rfl, _⟩ := HO.out.row
   rw [HL.out] at HO ⊢
   go_wp2
   go_ret
   exact ⟨a1, c1, rfl, HO.out, HB.out⟩

end Go.Proofs.YtmijppfppigjcaaGreat

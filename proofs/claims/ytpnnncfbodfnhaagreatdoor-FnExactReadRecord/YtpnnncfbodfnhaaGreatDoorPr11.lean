/- Lists of which each one has a key: those above a limit. -/
import Derived.Test.YtpnnncfbodfnhaaGreatDoorPr10
import Derived.Deep.RegionHeld3
import Derived.Deep.Cut
import Derived.Deep.CutRange
import Derived.Laws.EntriesVeiled
namespace Go.Proofs.YtpnnncfbodfnhaaGreatDoor
open Go.RowKit
open KM
attribute [local go_sem ↓] Go.wp_at_zero Go.wp_at_succ

theorem filter_len_any {α : Type} (p : α → Bool) (xs : List α) : decide ((0 : Int) < ((xs.filter p).length : Int)) = xs.any p := by
 rw [Bool.eq_iff_iff, decide_eq_true_eq, List.any_eq_true]
 constructor
 ·intro h
  have h' : 0 < (xs.filter p).length := by omega
  obtain ⟨x, hx⟩ := List.exists_mem_of_length_pos h'
  exact ⟨x, (List.mem_filter.1 hx).1, (List.mem_filter.1 hx).2⟩
 ·rintro ⟨x, hx, hp⟩
  have h' : 0 < (xs.filter p).length := List.length_pos_of_mem (List.mem_filter.2 ⟨hx, hp⟩)
  omega

theorem tone {y : Ta} : ∀ u ∈ encT.enc y, u.oneCell' = true := by
 intro u hu
 simp only [encT, List.mem_cons, List.not_mem_nil, or_false] at hu
 rcases hu with rfl | rfl | rfl | rfl | rfl | rfl | rfl | rfl <;> rfl

set_option maxRecDepth 100000 in
set_option maxHeartbeats 2000000 in
theorem stays80 (x lim : Int) (lb : Nat) (w : World) (hb : Bx w lb [.int .i64 lim]) :
  Calls Tryz.prog 165 #[.int .i64 x, .pointer (some ⟨lb, 0, none⟩)] w fun e w' => e = .returned (.bool (decide (lim < x))) ∧ Below w.heap.size w w' := by
 have c0 := hb.c0
 go_enter Tryz.func165, Tryz.ntmps165
 go_wp2
 go_ret
 exact ⟨rfl, belowRefl w⟩

set_option maxRecDepth 100000 in
set_option maxHeartbeats 2000000 in
theorem stays57 (x lim : Int) (lb : Nat) (w : World) (hb : Bx w lb [.int .i64 lim]) :
  Calls Tryz.prog 150 #[.int .i64 x, .pointer (some ⟨lb, 0, none⟩)] w fun e w' => e = .returned (.bool (decide (lim < x))) ∧ Below w.heap.size w w' := by
 have c0 := hb.c0
 go_enter Tryz.func150, Tryz.ntmps150
 go_wp2
 go_ret
 exact ⟨rfl, belowRefl w⟩

set_option maxRecDepth 100000 in
set_option maxHeartbeats 4000000 in
theorem kept58_80 (xs : List Ta) (a : Option Addr) (c n : Nat) (hx : n = xs.length) (hn : n ≤ 10000000) (lim : Int) (lb : Nat) (w : World) (hp : TRows w a xs) (hl : Bx w lb [.int .i64 lim]) :
  Calls Tryz.prog 164 #[.agg #[.slice a n c, .func (.func 151) #[] #[]], .func (.func 165) #[] #[.pointer (some ⟨lb, 0, none⟩)]] w fun e w' => ∃ (a1 : Option Addr) (c1 n1 : Nat), e = .returned (.slice a1 n1 c1) ∧ n1 = (xs.filter (fun x : Ta => decide (lim < x.t.cs))).length ∧ Below w.heap.size w w' := by
 have BA0 : Hid (Bx (w.alloc (.cells #[.slice a n c, .func (.func 151) #[] #[]] 189)) w.heap.size [.slice a n c, .func (.func 151) #[] #[]]) := Bx.new w [.slice a n c, .func (.func 151) #[] #[]] 189
 have HB0 : Hid (Below w.heap.size w (w.alloc (.cells #[.slice a n c, .func (.func 151) #[] #[]] 189))) := (belowRefl w).alloc (Nat.le_refl _) _
 have HP : Hid (TRows w a xs) := hp
 have HL : Hid (Bx w lb [.int .i64 lim]) := hl
 have HX : Hid (n = xs.length) := hx
 clear hp hx hl
 go_enter Tryz.func164, Tryz.ntmps164
 go_upto_region 1 with fail
 generalize (w.alloc (.cells #[.slice a n c, .func (.func 151) #[] #[]] 189)) = w0 at *
 have x0 := BA0.out.c0
 go_wp2
 go_loopw [5, 11] (fun v t wr => ∃ k : Nat, k ≤ n ∧ t = .int .i64 k ∧ Hid (GOwn encT 38 wr (w.heap.size + 1) v ((xs.take k).filter (fun x : Ta => decide (lim < x.t.cs)))) ∧ Hid (Below w.heap.size w wr) ∧ Hid (Bx wr w.heap.size [.slice a n c, .func (.func 151) #[] #[]])) (fun _ t _ => n - (intOf t).toNat)
 case atStart => exact ⟨0, Nat.zero_le _, rfl, GOwn.nil _ _, HB0, BA0⟩
 case round =>
  clear BA0 HB0 x0
  obtain ⟨k, hk, rfl, HO, HB, BA⟩ := hrel
  by_cases hlt : k < n
  ·have hlt' : (k : Int) < (n : Int) := by omega
   have h0 : (0 : Int) ≤ (k : Int) := by omega
   have hkx : k < xs.length := by rw [← HX.out]; exact hlt
   obtain ⟨b, o, rfl, hbl, hc, -⟩ := (HP.out.below HB.out).cls k hkx
   have HYes : Hid (decide (lim < xs[k].t.cs) = true → (xs.take (k + 1)).filter (fun x : Ta => decide (lim < x.t.cs)) = (xs.take k).filter (fun x : Ta => decide (lim < x.t.cs)) ++ [xs[k]]) := fun h => by show _ = _; rw [filter_take _ xs k hkx, h]; rfl
   have HNo : Hid (decide (lim < xs[k].t.cs) = false → (xs.take (k + 1)).filter (fun x : Ta => decide (lim < x.t.cs)) = (xs.take k).filter (fun x : Ta => decide (lim < x.t.cs))) := fun h => by show _ = _; rw [filter_take _ xs k hkx, h]; simp
   have HLn : Hid (((xs.take k).filter (fun x : Ta => decide (lim < x.t.cs))).length ≤ 100000000) := Nat.le_trans (List.length_filter_le _ _) (Nat.le_trans (List.length_take_le _ _) (by omega))
   obtain ⟨x, hx⟩ : ∃ x, x = xs[k] := ⟨_, rfl⟩
   rw [← hx] at hc HYes HNo
   clear hx hkx
   have r0 := hc.c0
   have r1 := hc.c1
   have r2 := hc.c2
   have r3 := hc.c3
   have r4 := hc.c4
   have r5 := hc.c5
   have r6 := hc.c6
   have r7 := hc.c7
   clear hc
   obtain ⟨F, hF⟩ : ∃ F, F = (xs.take k).filter (fun x : Ta => decide (lim < x.t.cs)) := ⟨_, rfl⟩
   rw [← hF] at HO HYes HNo HLn
   clear hF
   have hln := HLn.out
   have HB1 : Hid (Below w.heap.size w (wr.alloc (.cells #[.int .i64 x.t.id, .int .i64 x.t.st, .int .i64 x.t.snap, .int .i64 x.t.cs, .slice x.ra x.t.rs.length x.rc, .slice x.wa x.t.ws.length x.wc, .bool x.t.out, .string x.t.nm] 38))) := HB.out.alloc HB.out.size _
   have BX1 : Hid (Bx (wr.alloc (.cells #[.int .i64 x.t.id, .int .i64 x.t.st, .int .i64 x.t.snap, .int .i64 x.t.cs, .slice x.ra x.t.rs.length x.rc, .slice x.wa x.t.ws.length x.wc, .bool x.t.out, .string x.t.nm] 38)) wr.heap.size [.int .i64 x.t.id, .int .i64 x.t.st, .int .i64 x.t.snap, .int .i64 x.t.cs, .slice x.ra x.t.rs.length x.rc, .slice x.wa x.t.ws.length x.wc, .bool x.t.out, .string x.t.nm]) := Bx.new wr [.int .i64 x.t.id, .int .i64 x.t.st, .int .i64 x.t.snap, .int .i64 x.t.cs, .slice x.ra x.t.rs.length x.rc, .slice x.wa x.t.ws.length x.wc, .bool x.t.out, .string x.t.nm] 38
   have BA1 : Hid (Bx (wr.alloc (.cells #[.int .i64 x.t.id, .int .i64 x.t.st, .int .i64 x.t.snap, .int .i64 x.t.cs, .slice x.ra x.t.rs.length x.rc, .slice x.wa x.t.ws.length x.wc, .bool x.t.out, .string x.t.nm] 38)) w.heap.size [.slice (some ⟨b, o, none⟩) n c, .func (.func 151) #[] #[]]) := BA.out.alloc _
   have O1 := hide (HO.out.alloc (.cells #[.int .i64 x.t.id, .int .i64 x.t.st, .int .i64 x.t.snap, .int .i64 x.t.cs, .slice x.ra x.t.rs.length x.rc, .slice x.wa x.t.ws.length x.wc, .bool x.t.out, .string x.t.nm] 38))
   go_upto_region 5 with fail
   clear r0 r1 r2 r3 r4 r5 r6 r7 BA HO HB
   generalize (wr.alloc (.cells #[.int .i64 x.t.id, .int .i64 x.t.st, .int .i64 x.t.snap, .int .i64 x.t.cs, .slice x.ra x.t.rs.length x.rc, .slice x.wa x.t.ws.length x.wc, .bool x.t.out, .string x.t.nm] 38)) = w1 at *
   have y1 := BA1.out.c1
   have x0 := BX1.out.c0
   have x1 := BX1.out.c1
   have x2 := BX1.out.c2
   have x3 := BX1.out.c3
   have x4 := BX1.out.c4
   have x5 := BX1.out.c5
   have x6 := BX1.out.c6
   have x7 := BX1.out.c7
   go_wp2_with fail
   refine (key58 x _).mono ?_
   rintro e w2 ⟨rfl, hb2⟩
   have HB2 : Hid (Below w.heap.size w w2) := HB1.out.trans (hb2.mono HB1.out.size)
   have O2 := hide (O1.out.below hb2)
   have BA2 := hide (BA1.out.below hb2)
   have BX2 := hide (BX1.out.below hb2)
   clear hb2 y1 x0 x1 x2 x3 x4 x5 x6 x7 BA1 BX1 O1
   go_wp2_with fail
   refine (stays80 (x.t.cs) lim lb _ (HL.out.below HB2.out)).mono ?_
   rintro e w3 ⟨rfl, hb3⟩
   have HB3 : Hid (Below w.heap.size w w3) := HB2.out.trans (hb3.mono HB2.out.size)
   have O3 := hide (O2.out.below hb3)
   have BA3 := hide (BA2.out.below hb3)
   have BX3 := hide (BX2.out.below hb3)
   have hsz2 := BA3.out.lt
   clear hb3 BA2 BX2 O2
   rcases Bool.eq_false_or_eq_true (decide (lim < x.t.cs)) with hqd | hqd
   ·have HE := hide (HYes.out hqd)
    clear HYes HNo
    have x0 := BX3.out.c0
    have x1 := BX3.out.c1
    have x2 := BX3.out.c2
    have x3 := BX3.out.c3
    have x4 := BX3.out.c4
    have x5 := BX3.out.c5
    have x6 := BX3.out.c6
    have x7 := BX3.out.c7
    have HBK : Hid ((w3.alloc (.cells #[.int .i64 x.t.id, .int .i64 x.t.st, .int .i64 x.t.snap, .int .i64 x.t.cs, .slice x.ra x.t.rs.length x.rc, .slice x.wa x.t.ws.length x.wc, .bool x.t.out, .string x.t.nm] 38)).heap[w3.heap.size]? = some (.cells (encT.enc x).toArray 38 (0, 0))) := heap_alloc_new w3 _
    have O3a := hide (O3.out.alloc (.cells #[.int .i64 x.t.id, .int .i64 x.t.st, .int .i64 x.t.snap, .int .i64 x.t.cs, .slice x.ra x.t.rs.length x.rc, .slice x.wa x.t.ws.length x.wc, .bool x.t.out, .string x.t.nm] 38))
    go_wp2_with (at_builtin; refine wpAppK (E := encT) 40 38 104 _ Tryz.underlying40 Tryz.info38 rfl (by omega) rfl _ _ rfl x tone rfl O3a.out rfl HBK.out hln (by simp; omega) ?_)
    intro g' cap w4 ho4 hg4 hg5 hlt4
    have hb4 : Below (w.heap.size + 1) w3 w4 := ((Below.refl _ _).alloc (Nat.succ_le_of_lt hsz2) _).trans ((Below.refl _ _).grown hg4 (by simp; omega) (fun j hj => (World.ownsRow.lt O3a.out j hj).1))
    have O4 : Hid (GOwn encT 38 w4 (w.heap.size + 1) (.slice (some ⟨g', 0, none⟩) (F.length + 1) cap) (F ++ [x])) := ho4
    have HB4 : Hid (Below w.heap.size w w4) := HB3.out.trans (hb4.mono (Nat.le_succ _))
    have BA4 := hide (bx_low BA3.out hb4 (Nat.lt_succ_self _))
    clear ho4 hb4 hg4 hg5 hlt4 O3a O3 HBK x0 x1 x2 x3 x4 x5 x6 x7
    go_wp2
    go_roundw
    case rel => exact ⟨k + 1, by omega, by go_num, by rw [HE.out]; exact O4, HB4, BA4⟩
    case measure => simp [intOf]; omega
   ·have HE := hide (HNo.out hqd)
    clear HYes HNo
    go_wp2
    go_roundw
    case rel => exact ⟨k + 1, by omega, by go_num, by rw [HE.out]; exact O3, HB3, BA3⟩
    case measure => simp [intOf]; omega
  ·have hd : ¬ (k : Int) < (n : Int) := by omega
   have HE : Hid (xs.take k = xs) := List.take_of_length_le (by rw [← HX.out]; omega)
   rw [HE.out] at HO
   obtain ⟨a1, c1, rfl, _⟩ := HO.out.row
   obtain ⟨n1, hn1⟩ : ∃ n1, n1 = (xs.filter (fun x : Ta => decide (lim < x.t.cs))).length := ⟨_, rfl⟩
   rw [← hn1]
   have HN1 : Hid (n1 = (xs.filter (fun x : Ta => decide (lim < x.t.cs))).length) := hn1
   clear hn1
   go_wp2
   go_ret
   exact ⟨a1, c1, n1, rfl, HN1.out, HB.out⟩

set_option maxRecDepth 100000 in
set_option maxHeartbeats 2000000 in
theorem above58 (xs : List Ta) (a : Option Addr) (c n : Nat) (hx : n = xs.length) (hn : n ≤ 10000000) (lim : Int) (w : World) (hp : TRows w a xs) :
  Calls Tryz.prog 154 #[.agg #[.slice a n c, .func (.func 151) #[] #[]], .int .i64 lim] w fun e w' => ∃ (a1 : Option Addr) (c1 n1 : Nat), e = .returned (.slice a1 n1 c1) ∧ n1 = (xs.filter (fun x : Ta => decide (lim < x.t.cs))).length ∧ Below w.heap.size w w' := by
 have HB0 : Hid (Below w.heap.size w ((w.alloc (.cells #[.slice a n c, .func (.func 151) #[] #[]] 189)).alloc (.cells #[.int .i64 lim] 3))) := ((belowRefl w).alloc (Nat.le_refl _) _).alloc (by simp) _
 have BL : Hid (Bx ((w.alloc (.cells #[.slice a n c, .func (.func 151) #[] #[]] 189)).alloc (.cells #[.int .i64 lim] 3)) (w.heap.size + 1) [.int .i64 lim]) := by
  have h := Bx.new (w.alloc (.cells #[.slice a n c, .func (.func 151) #[] #[]] 189)) [.int .i64 lim] 3
  rw [show (w.alloc (.cells #[.slice a n c, .func (.func 151) #[] #[]] 189)).heap.size = w.heap.size + 1 by simp] at h
  exact h
 have H := hide (kept58_80 xs a c n hx hn lim (w.heap.size + 1) ((w.alloc (.cells #[.slice a n c, .func (.func 151) #[] #[]] 189)).alloc (.cells #[.int .i64 lim] 3)) (hp.below HB0.out) BL.out)
 clear hp hx BL
 go_enter Tryz.func154, Tryz.ntmps154
 go_wp2_with fail
 refine H.out.mono ?_
 rintro e w1 ⟨a1, c1, n1, rfl, hn1, hb1⟩
 have HB1 : Hid (Below w.heap.size w w1) := HB0.out.trans (hb1.mono HB0.out.size)
 have HN1 : Hid (n1 = (xs.filter (fun x : Ta => decide (lim < x.t.cs))).length) := hn1
 clear hb1 hn1 H
 go_wp2
 go_ret
 exact ⟨a1, c1, n1, rfl, HN1.out, HB1.out⟩

set_option maxRecDepth 100000 in
set_option maxHeartbeats 2000000 in
theorem any58 (xs : List Ta) (a : Option Addr) (c n : Nat) (hx : n = xs.length) (hn : n ≤ 10000000) (lim : Int) (w : World) (hp : TRows w a xs) :
  Calls Tryz.prog 138 #[.agg #[.slice a n c, .func (.func 151) #[] #[]], .int .i64 lim] w fun e w' => e = .returned (.bool (xs.any (fun x : Ta => decide (lim < x.t.cs)))) ∧ Below w.heap.size w w' := by
 have HB0 : Hid (Below w.heap.size w (w.alloc (.cells #[.slice a n c, .func (.func 151) #[] #[]] 189))) := (belowRefl w).alloc (Nat.le_refl _) _
 have H := hide (above58 xs a c n hx hn lim (w.alloc (.cells #[.slice a n c, .func (.func 151) #[] #[]] 189)) (hp.below HB0.out))
 clear hp hx
 go_enter Tryz.func138, Tryz.ntmps138
 go_wp2_with fail
 refine H.out.mono ?_
 rintro e w1 ⟨a1, c1, n1, rfl, hn1, hb1⟩
 have HB1 : Hid (Below w.heap.size w w1) := HB0.out.trans (hb1.mono HB0.out.size)
 have HR : Hid (decide ((0 : Int) < (n1 : Int)) = xs.any (fun x : Ta => decide (lim < x.t.cs))) := by show _ = _; rw [hn1]; exact filter_len_any _ _
 clear hb1 hn1 H
 go_wp2
 go_ret
 exact ⟨ret_bool (by simpa using HR.out), HB1.out⟩

set_option maxRecDepth 100000 in
set_option maxHeartbeats 4000000 in
theorem kept66_80 (xs : List Ta) (a : Option Addr) (c n : Nat) (hx : n = xs.length) (hn : n ≤ 10000000) (lim : Int) (lb : Nat) (w : World) (hp : TRows w a xs) (hl : Bx w lb [.int .i64 lim]) :
  Calls Tryz.prog 164 #[.agg #[.slice a n c, .func (.func 158) #[] #[]], .func (.func 165) #[] #[.pointer (some ⟨lb, 0, none⟩)]] w fun e w' => ∃ (a1 : Option Addr) (c1 n1 : Nat), e = .returned (.slice a1 n1 c1) ∧ n1 = (xs.filter (fun x : Ta => decide (lim < x.t.snap))).length ∧ Below w.heap.size w w' := by
 have BA0 : Hid (Bx (w.alloc (.cells #[.slice a n c, .func (.func 158) #[] #[]] 189)) w.heap.size [.slice a n c, .func (.func 158) #[] #[]]) := Bx.new w [.slice a n c, .func (.func 158) #[] #[]] 189
 have HB0 : Hid (Below w.heap.size w (w.alloc (.cells #[.slice a n c, .func (.func 158) #[] #[]] 189))) := (belowRefl w).alloc (Nat.le_refl _) _
 have HP : Hid (TRows w a xs) := hp
 have HL : Hid (Bx w lb [.int .i64 lim]) := hl
 have HX : Hid (n = xs.length) := hx
 clear hp hx hl
 go_enter Tryz.func164, Tryz.ntmps164
 go_upto_region 1 with fail
 generalize (w.alloc (.cells #[.slice a n c, .func (.func 158) #[] #[]] 189)) = w0 at *
 have x0 := BA0.out.c0
 go_wp2
 go_loopw [5, 11] (fun v t wr => ∃ k : Nat, k ≤ n ∧ t = .int .i64 k ∧ Hid (GOwn encT 38 wr (w.heap.size + 1) v ((xs.take k).filter (fun x : Ta => decide (lim < x.t.snap)))) ∧ Hid (Below w.heap.size w wr) ∧ Hid (Bx wr w.heap.size [.slice a n c, .func (.func 158) #[] #[]])) (fun _ t _ => n - (intOf t).toNat)
 case atStart => exact ⟨0, Nat.zero_le _, rfl, GOwn.nil _ _, HB0, BA0⟩
 case round =>
  clear BA0 HB0 x0
  obtain ⟨k, hk, rfl, HO, HB, BA⟩ := hrel
  by_cases hlt : k < n
  ·have hlt' : (k : Int) < (n : Int) := by omega
   have h0 : (0 : Int) ≤ (k : Int) := by omega
   have hkx : k < xs.length := by rw [← HX.out]; exact hlt
   obtain ⟨b, o, rfl, hbl, hc, -⟩ := (HP.out.below HB.out).cls k hkx
   have HYes : Hid (decide (lim < xs[k].t.snap) = true → (xs.take (k + 1)).filter (fun x : Ta => decide (lim < x.t.snap)) = (xs.take k).filter (fun x : Ta => decide (lim < x.t.snap)) ++ [xs[k]]) := fun h => by show _ = _; rw [filter_take _ xs k hkx, h]; rfl
   have HNo : Hid (decide (lim < xs[k].t.snap) = false → (xs.take (k + 1)).filter (fun x : Ta => decide (lim < x.t.snap)) = (xs.take k).filter (fun x : Ta => decide (lim < x.t.snap))) := fun h => by show _ = _; rw [filter_take _ xs k hkx, h]; simp
   have HLn : Hid (((xs.take k).filter (fun x : Ta => decide (lim < x.t.snap))).length ≤ 100000000) := Nat.le_trans (List.length_filter_le _ _) (Nat.le_trans (List.length_take_le _ _) (by omega))
   obtain ⟨x, hx⟩ : ∃ x, x = xs[k] := ⟨_, rfl⟩
   rw [← hx] at hc HYes HNo
   clear hx hkx
   have r0 := hc.c0
   have r1 := hc.c1
   have r2 := hc.c2
   have r3 := hc.c3
   have r4 := hc.c4
   have r5 := hc.c5
   have r6 := hc.c6
   have r7 := hc.c7
   clear hc
   obtain ⟨F, hF⟩ : ∃ F, F = (xs.take k).filter (fun x : Ta => decide (lim < x.t.snap)) := ⟨_, rfl⟩
   rw [← hF] at HO HYes HNo HLn
   clear hF
   have hln := HLn.out
   have HB1 : Hid (Below w.heap.size w (wr.alloc (.cells #[.int .i64 x.t.id, .int .i64 x.t.st, .int .i64 x.t.snap, .int .i64 x.t.cs, .slice x.ra x.t.rs.length x.rc, .slice x.wa x.t.ws.length x.wc, .bool x.t.out, .string x.t.nm] 38))) := HB.out.alloc HB.out.size _
   have BX1 : Hid (Bx (wr.alloc (.cells #[.int .i64 x.t.id, .int .i64 x.t.st, .int .i64 x.t.snap, .int .i64 x.t.cs, .slice x.ra x.t.rs.length x.rc, .slice x.wa x.t.ws.length x.wc, .bool x.t.out, .string x.t.nm] 38)) wr.heap.size [.int .i64 x.t.id, .int .i64 x.t.st, .int .i64 x.t.snap, .int .i64 x.t.cs, .slice x.ra x.t.rs.length x.rc, .slice x.wa x.t.ws.length x.wc, .bool x.t.out, .string x.t.nm]) := Bx.new wr [.int .i64 x.t.id, .int .i64 x.t.st, .int .i64 x.t.snap, .int .i64 x.t.cs, .slice x.ra x.t.rs.length x.rc, .slice x.wa x.t.ws.length x.wc, .bool x.t.out, .string x.t.nm] 38
   have BA1 : Hid (Bx (wr.alloc (.cells #[.int .i64 x.t.id, .int .i64 x.t.st, .int .i64 x.t.snap, .int .i64 x.t.cs, .slice x.ra x.t.rs.length x.rc, .slice x.wa x.t.ws.length x.wc, .bool x.t.out, .string x.t.nm] 38)) w.heap.size [.slice (some ⟨b, o, none⟩) n c, .func (.func 158) #[] #[]]) := BA.out.alloc _
   have O1 := hide (HO.out.alloc (.cells #[.int .i64 x.t.id, .int .i64 x.t.st, .int .i64 x.t.snap, .int .i64 x.t.cs, .slice x.ra x.t.rs.length x.rc, .slice x.wa x.t.ws.length x.wc, .bool x.t.out, .string x.t.nm] 38))
   go_upto_region 5 with fail
   clear r0 r1 r2 r3 r4 r5 r6 r7 BA HO HB
   generalize (wr.alloc (.cells #[.int .i64 x.t.id, .int .i64 x.t.st, .int .i64 x.t.snap, .int .i64 x.t.cs, .slice x.ra x.t.rs.length x.rc, .slice x.wa x.t.ws.length x.wc, .bool x.t.out, .string x.t.nm] 38)) = w1 at *
   have y1 := BA1.out.c1
   have x0 := BX1.out.c0
   have x1 := BX1.out.c1
   have x2 := BX1.out.c2
   have x3 := BX1.out.c3
   have x4 := BX1.out.c4
   have x5 := BX1.out.c5
   have x6 := BX1.out.c6
   have x7 := BX1.out.c7
   go_wp2_with fail
   refine (key66 x _).mono ?_
   rintro e w2 ⟨rfl, hb2⟩
   have HB2 : Hid (Below w.heap.size w w2) := HB1.out.trans (hb2.mono HB1.out.size)
   have O2 := hide (O1.out.below hb2)
   have BA2 := hide (BA1.out.below hb2)
   have BX2 := hide (BX1.out.below hb2)
   clear hb2 y1 x0 x1 x2 x3 x4 x5 x6 x7 BA1 BX1 O1
   go_wp2_with fail
   refine (stays80 (x.t.snap) lim lb _ (HL.out.below HB2.out)).mono ?_
   rintro e w3 ⟨rfl, hb3⟩
   have HB3 : Hid (Below w.heap.size w w3) := HB2.out.trans (hb3.mono HB2.out.size)
   have O3 := hide (O2.out.below hb3)
   have BA3 := hide (BA2.out.below hb3)
   have BX3 := hide (BX2.out.below hb3)
   have hsz2 := BA3.out.lt
   clear hb3 BA2 BX2 O2
   rcases Bool.eq_false_or_eq_true (decide (lim < x.t.snap)) with hqd | hqd
   ·have HE := hide (HYes.out hqd)
    clear HYes HNo
    have x0 := BX3.out.c0
    have x1 := BX3.out.c1
    have x2 := BX3.out.c2
    have x3 := BX3.out.c3
    have x4 := BX3.out.c4
    have x5 := BX3.out.c5
    have x6 := BX3.out.c6
    have x7 := BX3.out.c7
    have HBK : Hid ((w3.alloc (.cells #[.int .i64 x.t.id, .int .i64 x.t.st, .int .i64 x.t.snap, .int .i64 x.t.cs, .slice x.ra x.t.rs.length x.rc, .slice x.wa x.t.ws.length x.wc, .bool x.t.out, .string x.t.nm] 38)).heap[w3.heap.size]? = some (.cells (encT.enc x).toArray 38 (0, 0))) := heap_alloc_new w3 _
    have O3a := hide (O3.out.alloc (.cells #[.int .i64 x.t.id, .int .i64 x.t.st, .int .i64 x.t.snap, .int .i64 x.t.cs, .slice x.ra x.t.rs.length x.rc, .slice x.wa x.t.ws.length x.wc, .bool x.t.out, .string x.t.nm] 38))
    go_wp2_with (at_builtin; refine wpAppK (E := encT) 40 38 104 _ Tryz.underlying40 Tryz.info38 rfl (by omega) rfl _ _ rfl x tone rfl O3a.out rfl HBK.out hln (by simp; omega) ?_)
    intro g' cap w4 ho4 hg4 hg5 hlt4
    have hb4 : Below (w.heap.size + 1) w3 w4 := ((Below.refl _ _).alloc (Nat.succ_le_of_lt hsz2) _).trans ((Below.refl _ _).grown hg4 (by simp; omega) (fun j hj => (World.ownsRow.lt O3a.out j hj).1))
    have O4 : Hid (GOwn encT 38 w4 (w.heap.size + 1) (.slice (some ⟨g', 0, none⟩) (F.length + 1) cap) (F ++ [x])) := ho4
    have HB4 : Hid (Below w.heap.size w w4) := HB3.out.trans (hb4.mono (Nat.le_succ _))
    have BA4 := hide (bx_low BA3.out hb4 (Nat.lt_succ_self _))
    clear ho4 hb4 hg4 hg5 hlt4 O3a O3 HBK x0 x1 x2 x3 x4 x5 x6 x7
    go_wp2
    go_roundw
    case rel => exact ⟨k + 1, by omega, by go_num, by rw [HE.out]; exact O4, HB4, BA4⟩
    case measure => simp [intOf]; omega
   ·have HE := hide (HNo.out hqd)
    clear HYes HNo
    go_wp2
    go_roundw
    case rel => exact ⟨k + 1, by omega, by go_num, by rw [HE.out]; exact O3, HB3, BA3⟩
    case measure => simp [intOf]; omega
  ·have hd : ¬ (k : Int) < (n : Int) := by omega
   have HE : Hid (xs.take k = xs) := List.take_of_length_le (by rw [← HX.out]; omega)
   rw [HE.out] at HO
   obtain ⟨a1, c1, rfl, _⟩ := HO.out.row
   obtain ⟨n1, hn1⟩ : ∃ n1, n1 = (xs.filter (fun x : Ta => decide (lim < x.t.snap))).length := ⟨_, rfl⟩
   rw [← hn1]
   have HN1 : Hid (n1 = (xs.filter (fun x : Ta => decide (lim < x.t.snap))).length) := hn1
   clear hn1
   go_wp2
   go_ret
   exact ⟨a1, c1, n1, rfl, HN1.out, HB.out⟩

set_option maxRecDepth 100000 in
set_option maxHeartbeats 2000000 in
theorem above66 (xs : List Ta) (a : Option Addr) (c n : Nat) (hx : n = xs.length) (hn : n ≤ 10000000) (lim : Int) (w : World) (hp : TRows w a xs) :
  Calls Tryz.prog 154 #[.agg #[.slice a n c, .func (.func 158) #[] #[]], .int .i64 lim] w fun e w' => ∃ (a1 : Option Addr) (c1 n1 : Nat), e = .returned (.slice a1 n1 c1) ∧ n1 = (xs.filter (fun x : Ta => decide (lim < x.t.snap))).length ∧ Below w.heap.size w w' := by
 have HB0 : Hid (Below w.heap.size w ((w.alloc (.cells #[.slice a n c, .func (.func 158) #[] #[]] 189)).alloc (.cells #[.int .i64 lim] 3))) := ((belowRefl w).alloc (Nat.le_refl _) _).alloc (by simp) _
 have BL : Hid (Bx ((w.alloc (.cells #[.slice a n c, .func (.func 158) #[] #[]] 189)).alloc (.cells #[.int .i64 lim] 3)) (w.heap.size + 1) [.int .i64 lim]) := by
  have h := Bx.new (w.alloc (.cells #[.slice a n c, .func (.func 158) #[] #[]] 189)) [.int .i64 lim] 3
  rw [show (w.alloc (.cells #[.slice a n c, .func (.func 158) #[] #[]] 189)).heap.size = w.heap.size + 1 by simp] at h
  exact h
 have H := hide (kept66_80 xs a c n hx hn lim (w.heap.size + 1) ((w.alloc (.cells #[.slice a n c, .func (.func 158) #[] #[]] 189)).alloc (.cells #[.int .i64 lim] 3)) (hp.below HB0.out) BL.out)
 clear hp hx BL
 go_enter Tryz.func154, Tryz.ntmps154
 go_wp2_with fail
 refine H.out.mono ?_
 rintro e w1 ⟨a1, c1, n1, rfl, hn1, hb1⟩
 have HB1 : Hid (Below w.heap.size w w1) := HB0.out.trans (hb1.mono HB0.out.size)
 have HN1 : Hid (n1 = (xs.filter (fun x : Ta => decide (lim < x.t.snap))).length) := hn1
 clear hb1 hn1 H
 go_wp2
 go_ret
 exact ⟨a1, c1, n1, rfl, HN1.out, HB1.out⟩

set_option maxRecDepth 100000 in
set_option maxHeartbeats 2000000 in
theorem any66 (xs : List Ta) (a : Option Addr) (c n : Nat) (hx : n = xs.length) (hn : n ≤ 10000000) (lim : Int) (w : World) (hp : TRows w a xs) :
  Calls Tryz.prog 138 #[.agg #[.slice a n c, .func (.func 158) #[] #[]], .int .i64 lim] w fun e w' => e = .returned (.bool (xs.any (fun x : Ta => decide (lim < x.t.snap)))) ∧ Below w.heap.size w w' := by
 have HB0 : Hid (Below w.heap.size w (w.alloc (.cells #[.slice a n c, .func (.func 158) #[] #[]] 189))) := (belowRefl w).alloc (Nat.le_refl _) _
 have H := hide (above66 xs a c n hx hn lim (w.alloc (.cells #[.slice a n c, .func (.func 158) #[] #[]] 189)) (hp.below HB0.out))
 clear hp hx
 go_enter Tryz.func138, Tryz.ntmps138
 go_wp2_with fail
 refine H.out.mono ?_
 rintro e w1 ⟨a1, c1, n1, rfl, hn1, hb1⟩
 have HB1 : Hid (Below w.heap.size w w1) := HB0.out.trans (hb1.mono HB0.out.size)
 have HR : Hid (decide ((0 : Int) < (n1 : Int)) = xs.any (fun x : Ta => decide (lim < x.t.snap))) := by show _ = _; rw [hn1]; exact filter_len_any _ _
 clear hb1 hn1 H
 go_wp2
 go_ret
 exact ⟨ret_bool (by simpa using HR.out), HB1.out⟩

set_option maxRecDepth 100000 in
set_option maxHeartbeats 4000000 in
theorem kept67_80 (xs : List Ta) (a : Option Addr) (c n : Nat) (hx : n = xs.length) (hn : n ≤ 10000000) (lim : Int) (lb : Nat) (w : World) (hp : TRows w a xs) (hl : Bx w lb [.int .i64 lim]) :
  Calls Tryz.prog 164 #[.agg #[.slice a n c, .func (.func 159) #[] #[]], .func (.func 165) #[] #[.pointer (some ⟨lb, 0, none⟩)]] w fun e w' => ∃ (a1 : Option Addr) (c1 n1 : Nat), e = .returned (.slice a1 n1 c1) ∧ n1 = (xs.filter (fun x : Ta => decide (lim < x.t.id))).length ∧ Below w.heap.size w w' := by
 have BA0 : Hid (Bx (w.alloc (.cells #[.slice a n c, .func (.func 159) #[] #[]] 189)) w.heap.size [.slice a n c, .func (.func 159) #[] #[]]) := Bx.new w [.slice a n c, .func (.func 159) #[] #[]] 189
 have HB0 : Hid (Below w.heap.size w (w.alloc (.cells #[.slice a n c, .func (.func 159) #[] #[]] 189))) := (belowRefl w).alloc (Nat.le_refl _) _
 have HP : Hid (TRows w a xs) := hp
 have HL : Hid (Bx w lb [.int .i64 lim]) := hl
 have HX : Hid (n = xs.length) := hx
 clear hp hx hl
 go_enter Tryz.func164, Tryz.ntmps164
 go_upto_region 1 with fail
 generalize (w.alloc (.cells #[.slice a n c, .func (.func 159) #[] #[]] 189)) = w0 at *
 have x0 := BA0.out.c0
 go_wp2
 go_loopw [5, 11] (fun v t wr => ∃ k : Nat, k ≤ n ∧ t = .int .i64 k ∧ Hid (GOwn encT 38 wr (w.heap.size + 1) v ((xs.take k).filter (fun x : Ta => decide (lim < x.t.id)))) ∧ Hid (Below w.heap.size w wr) ∧ Hid (Bx wr w.heap.size [.slice a n c, .func (.func 159) #[] #[]])) (fun _ t _ => n - (intOf t).toNat)
 case atStart => exact ⟨0, Nat.zero_le _, rfl, GOwn.nil _ _, HB0, BA0⟩
 case round =>
  clear BA0 HB0 x0
  obtain ⟨k, hk, rfl, HO, HB, BA⟩ := hrel
  by_cases hlt : k < n
  ·have hlt' : (k : Int) < (n : Int) := by omega
   have h0 : (0 : Int) ≤ (k : Int) := by omega
   have hkx : k < xs.length := by rw [← HX.out]; exact hlt
   obtain ⟨b, o, rfl, hbl, hc, -⟩ := (HP.out.below HB.out).cls k hkx
   have HYes : Hid (decide (lim < xs[k].t.id) = true → (xs.take (k + 1)).filter (fun x : Ta => decide (lim < x.t.id)) = (xs.take k).filter (fun x : Ta => decide (lim < x.t.id)) ++ [xs[k]]) := fun h => by show _ = _; rw [filter_take _ xs k hkx, h]; rfl
   have HNo : Hid (decide (lim < xs[k].t.id) = false → (xs.take (k + 1)).filter (fun x : Ta => decide (lim < x.t.id)) = (xs.take k).filter (fun x : Ta => decide (lim < x.t.id))) := fun h => by show _ = _; rw [filter_take _ xs k hkx, h]; simp
   have HLn : Hid (((xs.take k).filter (fun x : Ta => decide (lim < x.t.id))).length ≤ 100000000) := Nat.le_trans (List.length_filter_le _ _) (Nat.le_trans (List.length_take_le _ _) (by omega))
   obtain ⟨x, hx⟩ : ∃ x, x = xs[k] := ⟨_, rfl⟩
   rw [← hx] at hc HYes HNo
   clear hx hkx
   have r0 := hc.c0
   have r1 := hc.c1
   have r2 := hc.c2
   have r3 := hc.c3
   have r4 := hc.c4
   have r5 := hc.c5
   have r6 := hc.c6
   have r7 := hc.c7
   clear hc
   obtain ⟨F, hF⟩ : ∃ F, F = (xs.take k).filter (fun x : Ta => decide (lim < x.t.id)) := ⟨_, rfl⟩
   rw [← hF] at HO HYes HNo HLn
   clear hF
   have hln := HLn.out
   have HB1 : Hid (Below w.heap.size w (wr.alloc (.cells #[.int .i64 x.t.id, .int .i64 x.t.st, .int .i64 x.t.snap, .int .i64 x.t.cs, .slice x.ra x.t.rs.length x.rc, .slice x.wa x.t.ws.length x.wc, .bool x.t.out, .string x.t.nm] 38))) := HB.out.alloc HB.out.size _
   have BX1 : Hid (Bx (wr.alloc (.cells #[.int .i64 x.t.id, .int .i64 x.t.st, .int .i64 x.t.snap, .int .i64 x.t.cs, .slice x.ra x.t.rs.length x.rc, .slice x.wa x.t.ws.length x.wc, .bool x.t.out, .string x.t.nm] 38)) wr.heap.size [.int .i64 x.t.id, .int .i64 x.t.st, .int .i64 x.t.snap, .int .i64 x.t.cs, .slice x.ra x.t.rs.length x.rc, .slice x.wa x.t.ws.length x.wc, .bool x.t.out, .string x.t.nm]) := Bx.new wr [.int .i64 x.t.id, .int .i64 x.t.st, .int .i64 x.t.snap, .int .i64 x.t.cs, .slice x.ra x.t.rs.length x.rc, .slice x.wa x.t.ws.length x.wc, .bool x.t.out, .string x.t.nm] 38
   have BA1 : Hid (Bx (wr.alloc (.cells #[.int .i64 x.t.id, .int .i64 x.t.st, .int .i64 x.t.snap, .int .i64 x.t.cs, .slice x.ra x.t.rs.length x.rc, .slice x.wa x.t.ws.length x.wc, .bool x.t.out, .string x.t.nm] 38)) w.heap.size [.slice (some ⟨b, o, none⟩) n c, .func (.func 159) #[] #[]]) := BA.out.alloc _
   have O1 := hide (HO.out.alloc (.cells #[.int .i64 x.t.id, .int .i64 x.t.st, .int .i64 x.t.snap, .int .i64 x.t.cs, .slice x.ra x.t.rs.length x.rc, .slice x.wa x.t.ws.length x.wc, .bool x.t.out, .string x.t.nm] 38))
   go_upto_region 5 with fail
   clear r0 r1 r2 r3 r4 r5 r6 r7 BA HO HB
   generalize (wr.alloc (.cells #[.int .i64 x.t.id, .int .i64 x.t.st, .int .i64 x.t.snap, .int .i64 x.t.cs, .slice x.ra x.t.rs.length x.rc, .slice x.wa x.t.ws.length x.wc, .bool x.t.out, .string x.t.nm] 38)) = w1 at *
   have y1 := BA1.out.c1
   have x0 := BX1.out.c0
   have x1 := BX1.out.c1
   have x2 := BX1.out.c2
   have x3 := BX1.out.c3
   have x4 := BX1.out.c4
   have x5 := BX1.out.c5
   have x6 := BX1.out.c6
   have x7 := BX1.out.c7
   go_wp2_with fail
   refine (key67 x _).mono ?_
   rintro e w2 ⟨rfl, hb2⟩
   have HB2 : Hid (Below w.heap.size w w2) := HB1.out.trans (hb2.mono HB1.out.size)
   have O2 := hide (O1.out.below hb2)
   have BA2 := hide (BA1.out.below hb2)
   have BX2 := hide (BX1.out.below hb2)
   clear hb2 y1 x0 x1 x2 x3 x4 x5 x6 x7 BA1 BX1 O1
   go_wp2_with fail
   refine (stays80 (x.t.id) lim lb _ (HL.out.below HB2.out)).mono ?_
   rintro e w3 ⟨rfl, hb3⟩
   have HB3 : Hid (Below w.heap.size w w3) := HB2.out.trans (hb3.mono HB2.out.size)
   have O3 := hide (O2.out.below hb3)
   have BA3 := hide (BA2.out.below hb3)
   have BX3 := hide (BX2.out.below hb3)
   have hsz2 := BA3.out.lt
   clear hb3 BA2 BX2 O2
   rcases Bool.eq_false_or_eq_true (decide (lim < x.t.id)) with hqd | hqd
   ·have HE := hide (HYes.out hqd)
    clear HYes HNo
    have x0 := BX3.out.c0
    have x1 := BX3.out.c1
    have x2 := BX3.out.c2
    have x3 := BX3.out.c3
    have x4 := BX3.out.c4
    have x5 := BX3.out.c5
    have x6 := BX3.out.c6
    have x7 := BX3.out.c7
    have HBK : Hid ((w3.alloc (.cells #[.int .i64 x.t.id, .int .i64 x.t.st, .int .i64 x.t.snap, .int .i64 x.t.cs, .slice x.ra x.t.rs.length x.rc, .slice x.wa x.t.ws.length x.wc, .bool x.t.out, .string x.t.nm] 38)).heap[w3.heap.size]? = some (.cells (encT.enc x).toArray 38 (0, 0))) := heap_alloc_new w3 _
    have O3a := hide (O3.out.alloc (.cells #[.int .i64 x.t.id, .int .i64 x.t.st, .int .i64 x.t.snap, .int .i64 x.t.cs, .slice x.ra x.t.rs.length x.rc, .slice x.wa x.t.ws.length x.wc, .bool x.t.out, .string x.t.nm] 38))
    go_wp2_with (at_builtin; refine wpAppK (E := encT) 40 38 104 _ Tryz.underlying40 Tryz.info38 rfl (by omega) rfl _ _ rfl x tone rfl O3a.out rfl HBK.out hln (by simp; omega) ?_)
    intro g' cap w4 ho4 hg4 hg5 hlt4
    have hb4 : Below (w.heap.size + 1) w3 w4 := ((Below.refl _ _).alloc (Nat.succ_le_of_lt hsz2) _).trans ((Below.refl _ _).grown hg4 (by simp; omega) (fun j hj => (World.ownsRow.lt O3a.out j hj).1))
    have O4 : Hid (GOwn encT 38 w4 (w.heap.size + 1) (.slice (some ⟨g', 0, none⟩) (F.length + 1) cap) (F ++ [x])) := ho4
    have HB4 : Hid (Below w.heap.size w w4) := HB3.out.trans (hb4.mono (Nat.le_succ _))
    have BA4 := hide (bx_low BA3.out hb4 (Nat.lt_succ_self _))
    clear ho4 hb4 hg4 hg5 hlt4 O3a O3 HBK x0 x1 x2 x3 x4 x5 x6 x7
    go_wp2
    go_roundw
    case rel => exact ⟨k + 1, by omega, by go_num, by rw [HE.out]; exact O4, HB4, BA4⟩
    case measure => simp [intOf]; omega
   ·have HE := hide (HNo.out hqd)
    clear HYes HNo
    go_wp2
    go_roundw
    case rel => exact ⟨k + 1, by omega, by go_num, by rw [HE.out]; exact O3, HB3, BA3⟩
    case measure => simp [intOf]; omega
  ·have hd : ¬ (k : Int) < (n : Int) := by omega
   have HE : Hid (xs.take k = xs) := List.take_of_length_le (by rw [← HX.out]; omega)
   rw [HE.out] at HO
   obtain ⟨a1, c1, rfl, _⟩ := HO.out.row
   obtain ⟨n1, hn1⟩ : ∃ n1, n1 = (xs.filter (fun x : Ta => decide (lim < x.t.id))).length := ⟨_, rfl⟩
   rw [← hn1]
   have HN1 : Hid (n1 = (xs.filter (fun x : Ta => decide (lim < x.t.id))).length) := hn1
   clear hn1
   go_wp2
   go_ret
   exact ⟨a1, c1, n1, rfl, HN1.out, HB.out⟩

set_option maxRecDepth 100000 in
set_option maxHeartbeats 2000000 in
theorem above67 (xs : List Ta) (a : Option Addr) (c n : Nat) (hx : n = xs.length) (hn : n ≤ 10000000) (lim : Int) (w : World) (hp : TRows w a xs) :
  Calls Tryz.prog 154 #[.agg #[.slice a n c, .func (.func 159) #[] #[]], .int .i64 lim] w fun e w' => ∃ (a1 : Option Addr) (c1 n1 : Nat), e = .returned (.slice a1 n1 c1) ∧ n1 = (xs.filter (fun x : Ta => decide (lim < x.t.id))).length ∧ Below w.heap.size w w' := by
 have HB0 : Hid (Below w.heap.size w ((w.alloc (.cells #[.slice a n c, .func (.func 159) #[] #[]] 189)).alloc (.cells #[.int .i64 lim] 3))) := ((belowRefl w).alloc (Nat.le_refl _) _).alloc (by simp) _
 have BL : Hid (Bx ((w.alloc (.cells #[.slice a n c, .func (.func 159) #[] #[]] 189)).alloc (.cells #[.int .i64 lim] 3)) (w.heap.size + 1) [.int .i64 lim]) := by
  have h := Bx.new (w.alloc (.cells #[.slice a n c, .func (.func 159) #[] #[]] 189)) [.int .i64 lim] 3
  rw [show (w.alloc (.cells #[.slice a n c, .func (.func 159) #[] #[]] 189)).heap.size = w.heap.size + 1 by simp] at h
  exact h
 have H := hide (kept67_80 xs a c n hx hn lim (w.heap.size + 1) ((w.alloc (.cells #[.slice a n c, .func (.func 159) #[] #[]] 189)).alloc (.cells #[.int .i64 lim] 3)) (hp.below HB0.out) BL.out)
 clear hp hx BL
 go_enter Tryz.func154, Tryz.ntmps154
 go_wp2_with fail
 refine H.out.mono ?_
 rintro e w1 ⟨a1, c1, n1, rfl, hn1, hb1⟩
 have HB1 : Hid (Below w.heap.size w w1) := HB0.out.trans (hb1.mono HB0.out.size)
 have HN1 : Hid (n1 = (xs.filter (fun x : Ta => decide (lim < x.t.id))).length) := hn1
 clear hb1 hn1 H
 go_wp2
 go_ret
 exact ⟨a1, c1, n1, rfl, HN1.out, HB1.out⟩

set_option maxRecDepth 100000 in
set_option maxHeartbeats 2000000 in
theorem any67 (xs : List Ta) (a : Option Addr) (c n : Nat) (hx : n = xs.length) (hn : n ≤ 10000000) (lim : Int) (w : World) (hp : TRows w a xs) :
  Calls Tryz.prog 138 #[.agg #[.slice a n c, .func (.func 159) #[] #[]], .int .i64 lim] w fun e w' => e = .returned (.bool (xs.any (fun x : Ta => decide (lim < x.t.id)))) ∧ Below w.heap.size w w' := by
 have HB0 : Hid (Below w.heap.size w (w.alloc (.cells #[.slice a n c, .func (.func 159) #[] #[]] 189))) := (belowRefl w).alloc (Nat.le_refl _) _
 have H := hide (above67 xs a c n hx hn lim (w.alloc (.cells #[.slice a n c, .func (.func 159) #[] #[]] 189)) (hp.below HB0.out))
 clear hp hx
 go_enter Tryz.func138, Tryz.ntmps138
 go_wp2_with fail
 refine H.out.mono ?_
 rintro e w1 ⟨a1, c1, n1, rfl, hn1, hb1⟩
 have HB1 : Hid (Below w.heap.size w w1) := HB0.out.trans (hb1.mono HB0.out.size)
 have HR : Hid (decide ((0 : Int) < (n1 : Int)) = xs.any (fun x : Ta => decide (lim < x.t.id))) := by show _ = _; rw [hn1]; exact filter_len_any _ _
 clear hb1 hn1 H
 go_wp2
 go_ret
 exact ⟨ret_bool (by simpa using HR.out), HB1.out⟩

set_option maxRecDepth 100000 in
set_option maxHeartbeats 4000000 in
theorem kept33_57 (xs : List Vr) (a : Option Addr) (c n : Nat) (hx : n = xs.length) (hn : n ≤ 10000000) (lim : Int) (lb : Nat) (w : World) (hp : GRow encV w a xs) (hl : Bx w lb [.int .i64 lim]) :
  Calls Tryz.prog 149 #[.agg #[.slice a n c, .func (.func 134) #[] #[]], .func (.func 150) #[] #[.pointer (some ⟨lb, 0, none⟩)]] w fun e w' => ∃ (a1 : Option Addr) (c1 n1 : Nat), e = .returned (.slice a1 n1 c1) ∧ n1 = (xs.filter (fun x : Vr => decide (lim < x.2.2.2))).length ∧ Below w.heap.size w w' := by
 have BA0 : Hid (Bx (w.alloc (.cells #[.slice a n c, .func (.func 134) #[] #[]] 180)) w.heap.size [.slice a n c, .func (.func 134) #[] #[]]) := Bx.new w [.slice a n c, .func (.func 134) #[] #[]] 180
 have HB0 : Hid (Below w.heap.size w (w.alloc (.cells #[.slice a n c, .func (.func 134) #[] #[]] 180))) := (belowRefl w).alloc (Nat.le_refl _) _
 have HP : Hid (GRow encV w a xs) := hp
 have HL : Hid (Bx w lb [.int .i64 lim]) := hl
 have HX : Hid (n = xs.length) := hx
 clear hp hx hl
 go_enter Tryz.func149, Tryz.ntmps149
 go_upto_region 1 with fail
 generalize (w.alloc (.cells #[.slice a n c, .func (.func 134) #[] #[]] 180)) = w0 at *
 have x0 := BA0.out.c0
 go_wp2
 go_loopw [5, 11] (fun v t wr => ∃ k : Nat, k ≤ n ∧ t = .int .i64 k ∧ Hid (GOwn encV 106 wr (w.heap.size + 1) v ((xs.take k).filter (fun x : Vr => decide (lim < x.2.2.2)))) ∧ Hid (Below w.heap.size w wr) ∧ Hid (Bx wr w.heap.size [.slice a n c, .func (.func 134) #[] #[]])) (fun _ t _ => n - (intOf t).toNat)
 case atStart => exact ⟨0, Nat.zero_le _, rfl, GOwn.nil _ _, HB0, BA0⟩
 case round =>
  clear BA0 HB0 x0
  obtain ⟨k, hk, rfl, HO, HB, BA⟩ := hrel
  by_cases hlt : k < n
  ·have hlt' : (k : Int) < (n : Int) := by omega
   have h0 : (0 : Int) ≤ (k : Int) := by omega
   have hkx : k < xs.length := by rw [← HX.out]; exact hlt
   obtain ⟨b, o, rfl, hbl, hc9⟩ := (HP.out.below HB.out) (by omega)
   have hc := vat hc9 k hkx
   have HYes : Hid (decide (lim < xs[k].2.2.2) = true → (xs.take (k + 1)).filter (fun x : Vr => decide (lim < x.2.2.2)) = (xs.take k).filter (fun x : Vr => decide (lim < x.2.2.2)) ++ [xs[k]]) := fun h => by show _ = _; rw [filter_take _ xs k hkx, h]; rfl
   have HNo : Hid (decide (lim < xs[k].2.2.2) = false → (xs.take (k + 1)).filter (fun x : Vr => decide (lim < x.2.2.2)) = (xs.take k).filter (fun x : Vr => decide (lim < x.2.2.2))) := fun h => by show _ = _; rw [filter_take _ xs k hkx, h]; simp
   have HLn : Hid (((xs.take k).filter (fun x : Vr => decide (lim < x.2.2.2))).length ≤ 100000000) := Nat.le_trans (List.length_filter_le _ _) (Nat.le_trans (List.length_take_le _ _) (by omega))
   obtain ⟨x, hx⟩ : ∃ x, x = xs[k] := ⟨_, rfl⟩
   rw [← hx] at hc HYes HNo
   clear hx hkx
   have r0 := hc.1
   have r1 := hc.2.1
   have r2 := hc.2.2.1
   have r3 := hc.2.2.2
   clear hc
   obtain ⟨F, hF⟩ : ∃ F, F = (xs.take k).filter (fun x : Vr => decide (lim < x.2.2.2)) := ⟨_, rfl⟩
   rw [← hF] at HO HYes HNo HLn
   clear hF
   have hln := HLn.out
   have HB1 : Hid (Below w.heap.size w (wr.alloc (.cells #[.string x.1, .string x.2.1, .bool x.2.2.1, .int .i64 x.2.2.2] 106))) := HB.out.alloc HB.out.size _
   have BX1 : Hid (Bx (wr.alloc (.cells #[.string x.1, .string x.2.1, .bool x.2.2.1, .int .i64 x.2.2.2] 106)) wr.heap.size [.string x.1, .string x.2.1, .bool x.2.2.1, .int .i64 x.2.2.2]) := Bx.new wr [.string x.1, .string x.2.1, .bool x.2.2.1, .int .i64 x.2.2.2] 106
   have BA1 : Hid (Bx (wr.alloc (.cells #[.string x.1, .string x.2.1, .bool x.2.2.1, .int .i64 x.2.2.2] 106)) w.heap.size [.slice (some ⟨b, o, none⟩) n c, .func (.func 134) #[] #[]]) := BA.out.alloc _
   have O1 := hide (HO.out.alloc (.cells #[.string x.1, .string x.2.1, .bool x.2.2.1, .int .i64 x.2.2.2] 106))
   go_upto_region 5 with fail
   clear r0 r1 r2 r3 BA HO HB
   generalize (wr.alloc (.cells #[.string x.1, .string x.2.1, .bool x.2.2.1, .int .i64 x.2.2.2] 106)) = w1 at *
   have y1 := BA1.out.c1
   have x0 := BX1.out.c0
   have x1 := BX1.out.c1
   have x2 := BX1.out.c2
   have x3 := BX1.out.c3
   go_wp2_with fail
   refine (key33 x _).mono ?_
   rintro e w2 ⟨rfl, hb2⟩
   have HB2 : Hid (Below w.heap.size w w2) := HB1.out.trans (hb2.mono HB1.out.size)
   have O2 := hide (O1.out.below hb2)
   have BA2 := hide (BA1.out.below hb2)
   have BX2 := hide (BX1.out.below hb2)
   clear hb2 y1 x0 x1 x2 x3 BA1 BX1 O1
   go_wp2_with fail
   refine (stays57 (x.2.2.2) lim lb _ (HL.out.below HB2.out)).mono ?_
   rintro e w3 ⟨rfl, hb3⟩
   have HB3 : Hid (Below w.heap.size w w3) := HB2.out.trans (hb3.mono HB2.out.size)
   have O3 := hide (O2.out.below hb3)
   have BA3 := hide (BA2.out.below hb3)
   have BX3 := hide (BX2.out.below hb3)
   have hsz2 := BA3.out.lt
   clear hb3 BA2 BX2 O2
   rcases Bool.eq_false_or_eq_true (decide (lim < x.2.2.2)) with hqd | hqd
   ·have HE := hide (HYes.out hqd)
    clear HYes HNo
    have x0 := BX3.out.c0
    have x1 := BX3.out.c1
    have x2 := BX3.out.c2
    have x3 := BX3.out.c3
    have HBK : Hid ((w3.alloc (.cells #[.string x.1, .string x.2.1, .bool x.2.2.1, .int .i64 x.2.2.2] 106)).heap[w3.heap.size]? = some (.cells (encV.enc x).toArray 106 (0, 0))) := heap_alloc_new w3 _
    have O3a := hide (O3.out.alloc (.cells #[.string x.1, .string x.2.1, .bool x.2.2.1, .int .i64 x.2.2.2] 106))
    go_wp2_with (at_builtin; refine wpAppK (E := encV) 39 106 48 _ Tryz.underlying39 Tryz.info106 rfl (by omega) rfl _ _ rfl x oneV rfl O3a.out rfl HBK.out hln (by simp; omega) ?_)
    intro g' cap w4 ho4 hg4 hg5 hlt4
    have hb4 : Below (w.heap.size + 1) w3 w4 := ((Below.refl _ _).alloc (Nat.succ_le_of_lt hsz2) _).trans ((Below.refl _ _).grown hg4 (by simp; omega) (fun j hj => (World.ownsRow.lt O3a.out j hj).1))
    have O4 : Hid (GOwn encV 106 w4 (w.heap.size + 1) (.slice (some ⟨g', 0, none⟩) (F.length + 1) cap) (F ++ [x])) := ho4
    have HB4 : Hid (Below w.heap.size w w4) := HB3.out.trans (hb4.mono (Nat.le_succ _))
    have BA4 := hide (bx_low BA3.out hb4 (Nat.lt_succ_self _))
    clear ho4 hb4 hg4 hg5 hlt4 O3a O3 HBK x0 x1 x2 x3
    go_wp2
    go_roundw
    case rel => exact ⟨k + 1, by omega, by go_num, by rw [HE.out]; exact O4, HB4, BA4⟩
    case measure => simp [intOf]; omega
   ·have HE := hide (HNo.out hqd)
    clear HYes HNo
    go_wp2
    go_roundw
    case rel => exact ⟨k + 1, by omega, by go_num, by rw [HE.out]; exact O3, HB3, BA3⟩
    case measure => simp [intOf]; omega
  ·have hd : ¬ (k : Int) < (n : Int) := by omega
   have HE : Hid (xs.take k = xs) := List.take_of_length_le (by rw [← HX.out]; omega)
   rw [HE.out] at HO
   obtain ⟨a1, c1, rfl, _⟩ := HO.out.row
   obtain ⟨n1, hn1⟩ : ∃ n1, n1 = (xs.filter (fun x : Vr => decide (lim < x.2.2.2))).length := ⟨_, rfl⟩
   rw [← hn1]
   have HN1 : Hid (n1 = (xs.filter (fun x : Vr => decide (lim < x.2.2.2))).length) := hn1
   clear hn1
   go_wp2
   go_ret
   exact ⟨a1, c1, n1, rfl, HN1.out, HB.out⟩

set_option maxRecDepth 100000 in
set_option maxHeartbeats 2000000 in
theorem above33 (xs : List Vr) (a : Option Addr) (c n : Nat) (hx : n = xs.length) (hn : n ≤ 10000000) (lim : Int) (w : World) (hp : GRow encV w a xs) :
  Calls Tryz.prog 135 #[.agg #[.slice a n c, .func (.func 134) #[] #[]], .int .i64 lim] w fun e w' => ∃ (a1 : Option Addr) (c1 n1 : Nat), e = .returned (.slice a1 n1 c1) ∧ n1 = (xs.filter (fun x : Vr => decide (lim < x.2.2.2))).length ∧ Below w.heap.size w w' := by
 have HB0 : Hid (Below w.heap.size w ((w.alloc (.cells #[.slice a n c, .func (.func 134) #[] #[]] 180)).alloc (.cells #[.int .i64 lim] 3))) := ((belowRefl w).alloc (Nat.le_refl _) _).alloc (by simp) _
 have BL : Hid (Bx ((w.alloc (.cells #[.slice a n c, .func (.func 134) #[] #[]] 180)).alloc (.cells #[.int .i64 lim] 3)) (w.heap.size + 1) [.int .i64 lim]) := by
  have h := Bx.new (w.alloc (.cells #[.slice a n c, .func (.func 134) #[] #[]] 180)) [.int .i64 lim] 3
  rw [show (w.alloc (.cells #[.slice a n c, .func (.func 134) #[] #[]] 180)).heap.size = w.heap.size + 1 by simp] at h
  exact h
 have H := hide (kept33_57 xs a c n hx hn lim (w.heap.size + 1) ((w.alloc (.cells #[.slice a n c, .func (.func 134) #[] #[]] 180)).alloc (.cells #[.int .i64 lim] 3)) (hp.below HB0.out) BL.out)
 clear hp hx BL
 go_enter Tryz.func135, Tryz.ntmps135
 go_wp2_with fail
 refine H.out.mono ?_
 rintro e w1 ⟨a1, c1, n1, rfl, hn1, hb1⟩
 have HB1 : Hid (Below w.heap.size w w1) := HB0.out.trans (hb1.mono HB0.out.size)
 have HN1 : Hid (n1 = (xs.filter (fun x : Vr => decide (lim < x.2.2.2))).length) := hn1
 clear hb1 hn1 H
 go_wp2
 go_ret
 exact ⟨a1, c1, n1, rfl, HN1.out, HB1.out⟩

set_option maxRecDepth 100000 in
set_option maxHeartbeats 2000000 in
theorem any33 (xs : List Vr) (a : Option Addr) (c n : Nat) (hx : n = xs.length) (hn : n ≤ 10000000) (lim : Int) (w : World) (hp : GRow encV w a xs) :
  Calls Tryz.prog 124 #[.agg #[.slice a n c, .func (.func 134) #[] #[]], .int .i64 lim] w fun e w' => e = .returned (.bool (xs.any (fun x : Vr => decide (lim < x.2.2.2)))) ∧ Below w.heap.size w w' := by
 have HB0 : Hid (Below w.heap.size w (w.alloc (.cells #[.slice a n c, .func (.func 134) #[] #[]] 180))) := (belowRefl w).alloc (Nat.le_refl _) _
 have H := hide (above33 xs a c n hx hn lim (w.alloc (.cells #[.slice a n c, .func (.func 134) #[] #[]] 180)) (hp.below HB0.out))
 clear hp hx
 go_enter Tryz.func124, Tryz.ntmps124
 go_wp2_with fail
 refine H.out.mono ?_
 rintro e w1 ⟨a1, c1, n1, rfl, hn1, hb1⟩
 have HB1 : Hid (Below w.heap.size w w1) := HB0.out.trans (hb1.mono HB0.out.size)
 have HR : Hid (decide ((0 : Int) < (n1 : Int)) = xs.any (fun x : Vr => decide (lim < x.2.2.2))) := by show _ = _; rw [hn1]; exact filter_len_any _ _
 clear hb1 hn1 H
 go_wp2
 go_ret
 exact ⟨ret_bool (by simpa using HR.out), HB1.out⟩

end Go.Proofs.YtpnnncfbodfnhaaGreatDoor

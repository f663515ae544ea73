/- Lists of which each one has a key: keys, and whether they ascend. -/
import Derived.Test.YtpnnncfbodfnhaaGreatDoorPr08
import Derived.Test.YtpnnncfbodfnhaaGreatDoorPr09
import Derived.Deep.RegionHeld3
import Derived.Deep.Cut
import Derived.Deep.CutRange
import Derived.Laws.EntriesVeiled
namespace Go.Proofs.YtpnnncfbodfnhaaGreatDoor
open Go.RowKit
open KM
attribute [local go_sem ↓] Go.wp_at_zero Go.wp_at_succ

theorem bx_low {w w' : World} {b base : Nat} {cs : List Value} (h : Bx w b cs) (hb : Below base w w') (hl : b < base) : Bx w' b cs :=
 ⟨Nat.lt_of_lt_of_le h.lt hb.size, fun j hj => (hb.cell (p := ⟨b, j, none⟩) hl).trans (h.at' j hj), fun j => (hb.frozen (p := ⟨b, j, none⟩) hl).trans (h.fz j)⟩
theorem oneS' {y : ByteArray} : ∀ u ∈ encS.enc y, u.oneCell' = true := by
 intro u hu
 simp only [encS, List.mem_cons, List.not_mem_nil, or_false] at hu
 rw [hu]; rfl
def AscI (zs : List Int) (k : Nat) : Prop := ∀ j (h : j < zs.length), j < k → ∀ (_ : 0 < j), zs[j - 1]'(by omega) < zs[j]
def ascIB (zs : List Int) : Bool := decide (∀ j (h : j < zs.length), ∀ (_ : 0 < j), zs[j - 1]'(by omega) < zs[j])
def AscS (zs : List ByteArray) (k : Nat) : Prop := ∀ j (h : j < zs.length), j < k → ∀ (_ : 0 < j), Op.bytesLess (zs[j - 1]'(by omega)).toList zs[j].toList = true
def ascSB (zs : List ByteArray) : Bool := decide (∀ j (h : j < zs.length), ∀ (_ : 0 < j), Op.bytesLess (zs[j - 1]'(by omega)).toList zs[j].toList = true)
theorem ascI_all {zs : List Int} {k : Nat} (h : AscI zs k) (hk : zs.length ≤ k) : ascIB zs = true := decide_eq_true fun j hj h0 => h j hj (by omega) h0
theorem ascI_no {zs : List Int} (k : Nat) (hk : k < zs.length) (h0 : 0 < k) (h : ¬ zs[k - 1]'(by omega) < zs[k]) : ascIB zs = false := decide_eq_false fun g => h (g k hk h0)
theorem ascI_more {zs : List Int} {k : Nat} (h : AscI zs k) (hk : k < zs.length) (h2 : ∀ (_ : 0 < k), zs[k - 1]'(by omega) < zs[k]) : AscI zs (k + 1) := fun j hj hlt h0 => by
 by_cases e : j = k
 ·subst e; exact h2 h0
 ·exact h j hj (by omega) h0
theorem ascS_all {zs : List ByteArray} {k : Nat} (h : AscS zs k) (hk : zs.length ≤ k) : ascSB zs = true := decide_eq_true fun j hj h0 => h j hj (by omega) h0
theorem ascS_no {zs : List ByteArray} (k : Nat) (hk : k < zs.length) (h0 : 0 < k) (h : ¬ Op.bytesLess (zs[k - 1]'(by omega)).toList zs[k].toList = true) : ascSB zs = false := decide_eq_false fun g => h (g k hk h0)
theorem ascS_more {zs : List ByteArray} {k : Nat} (h : AscS zs k) (hk : k < zs.length) (h2 : ∀ (_ : 0 < k), Op.bytesLess (zs[k - 1]'(by omega)).toList zs[k].toList = true) : AscS zs (k + 1) := fun j hj hlt h0 => by
 by_cases e : j = k
 ·subst e; exact h2 h0
 ·exact h j hj (by omega) h0

set_option maxRecDepth 100000 in
set_option maxHeartbeats 2000000 in
theorem by17 (a : Option Addr) (c n : Nat) (w : World) : Calls Tryz.prog 123 #[.slice a n c] w fun e w' => e = .returned (.agg #[.slice a n c, .func (.func 134) #[] #[]]) ∧ Below w.heap.size w w' := by
 go_enter Tryz.func123, Tryz.ntmps123
 go_wp2
 refine bodyPost_ret (v := .agg #[.slice a n c, .func (.func 134) #[] #[]]) (by simp [results, Tryz.results123, go_sem]) rfl ⟨rfl, ?_⟩
 exact (belowRefl w).alloc (Nat.le_refl _) _

set_option maxRecDepth 100000 in
set_option maxHeartbeats 2000000 in
theorem by35 (a : Option Addr) (c n : Nat) (w : World) : Calls Tryz.prog 136 #[.slice a n c] w fun e w' => e = .returned (.agg #[.slice a n c, .func (.func 151) #[] #[]]) ∧ Below w.heap.size w w' := by
 go_enter Tryz.func136, Tryz.ntmps136
 go_wp2
 refine bodyPost_ret (v := .agg #[.slice a n c, .func (.func 151) #[] #[]]) (by simp [results, Tryz.results136, go_sem]) rfl ⟨rfl, ?_⟩
 exact (belowRefl w).alloc (Nat.le_refl _) _

set_option maxRecDepth 100000 in
set_option maxHeartbeats 2000000 in
theorem by41 (a : Option Addr) (c n : Nat) (w : World) : Calls Tryz.prog 142 #[.slice a n c] w fun e w' => e = .returned (.agg #[.slice a n c, .func (.func 158) #[] #[]]) ∧ Below w.heap.size w w' := by
 go_enter Tryz.func142, Tryz.ntmps142
 go_wp2
 refine bodyPost_ret (v := .agg #[.slice a n c, .func (.func 158) #[] #[]]) (by simp [results, Tryz.results142, go_sem]) rfl ⟨rfl, ?_⟩
 exact (belowRefl w).alloc (Nat.le_refl _) _

set_option maxRecDepth 100000 in
set_option maxHeartbeats 2000000 in
theorem by42 (a : Option Addr) (c n : Nat) (w : World) : Calls Tryz.prog 143 #[.slice a n c] w fun e w' => e = .returned (.agg #[.slice a n c, .func (.func 159) #[] #[]]) ∧ Below w.heap.size w w' := by
 go_enter Tryz.func143, Tryz.ntmps143
 go_wp2
 refine bodyPost_ret (v := .agg #[.slice a n c, .func (.func 159) #[] #[]]) (by simp [results, Tryz.results143, go_sem]) rfl ⟨rfl, ?_⟩
 exact (belowRefl w).alloc (Nat.le_refl _) _

set_option maxRecDepth 100000 in
set_option maxHeartbeats 2000000 in
theorem by39 (a : Option Addr) (c n : Nat) (w : World) : Calls Tryz.prog 140 #[.slice a n c] w fun e w' => e = .returned (.agg #[.slice a n c, .func (.func 155) #[] #[]]) ∧ Below w.heap.size w w' := by
 go_enter Tryz.func140, Tryz.ntmps140
 go_wp2
 refine bodyPost_ret (v := .agg #[.slice a n c, .func (.func 155) #[] #[]]) (by simp [results, Tryz.results140, go_sem]) rfl ⟨rfl, ?_⟩
 exact (belowRefl w).alloc (Nat.le_refl _) _

set_option maxRecDepth 100000 in
set_option maxHeartbeats 2000000 in
theorem key33 (x : Vr) (w : World) : Calls Tryz.prog 134 #[.agg #[.string x.1, .string x.2.1, .bool x.2.2.1, .int .i64 x.2.2.2]] w fun e w' => e = .returned (.int .i64 x.2.2.2) ∧ Below w.heap.size w w' := by
 have HB : Hid (Below w.heap.size w (w.alloc (.cells #[.string x.1, .string x.2.1, .bool x.2.2.1, .int .i64 x.2.2.2] 106))) := (belowRefl w).alloc (Nat.le_refl _) _
 go_enter Tryz.func134, Tryz.ntmps134
 go_wp2
 go_ret
 exact ⟨rfl, HB.out⟩

set_option maxRecDepth 100000 in
set_option maxHeartbeats 2000000 in
theorem key58 (x : Ta) (w : World) : Calls Tryz.prog 151 #[.agg #[.int .i64 x.t.id, .int .i64 x.t.st, .int .i64 x.t.snap, .int .i64 x.t.cs, .slice x.ra x.t.rs.length x.rc, .slice x.wa x.t.ws.length x.wc, .bool x.t.out, .string x.t.nm]] w fun e w' => e = .returned (.int .i64 x.t.cs) ∧ Below w.heap.size w w' := by
 have HB : Hid (Below w.heap.size w (w.alloc (.cells #[.int .i64 x.t.id, .int .i64 x.t.st, .int .i64 x.t.snap, .int .i64 x.t.cs, .slice x.ra x.t.rs.length x.rc, .slice x.wa x.t.ws.length x.wc, .bool x.t.out, .string x.t.nm] 38))) := (belowRefl w).alloc (Nat.le_refl _) _
 go_enter Tryz.func151, Tryz.ntmps151
 go_wp2
 go_ret
 exact ⟨rfl, HB.out⟩

set_option maxRecDepth 100000 in
set_option maxHeartbeats 2000000 in
theorem key66 (x : Ta) (w : World) : Calls Tryz.prog 158 #[.agg #[.int .i64 x.t.id, .int .i64 x.t.st, .int .i64 x.t.snap, .int .i64 x.t.cs, .slice x.ra x.t.rs.length x.rc, .slice x.wa x.t.ws.length x.wc, .bool x.t.out, .string x.t.nm]] w fun e w' => e = .returned (.int .i64 x.t.snap) ∧ Below w.heap.size w w' := by
 have HB : Hid (Below w.heap.size w (w.alloc (.cells #[.int .i64 x.t.id, .int .i64 x.t.st, .int .i64 x.t.snap, .int .i64 x.t.cs, .slice x.ra x.t.rs.length x.rc, .slice x.wa x.t.ws.length x.wc, .bool x.t.out, .string x.t.nm] 38))) := (belowRefl w).alloc (Nat.le_refl _) _
 go_enter Tryz.func158, Tryz.ntmps158
 go_wp2
 go_ret
 exact ⟨rfl, HB.out⟩

set_option maxRecDepth 100000 in
set_option maxHeartbeats 2000000 in
theorem key67 (x : Ta) (w : World) : Calls Tryz.prog 159 #[.agg #[.int .i64 x.t.id, .int .i64 x.t.st, .int .i64 x.t.snap, .int .i64 x.t.cs, .slice x.ra x.t.rs.length x.rc, .slice x.wa x.t.ws.length x.wc, .bool x.t.out, .string x.t.nm]] w fun e w' => e = .returned (.int .i64 x.t.id) ∧ Below w.heap.size w w' := by
 have HB : Hid (Below w.heap.size w (w.alloc (.cells #[.int .i64 x.t.id, .int .i64 x.t.st, .int .i64 x.t.snap, .int .i64 x.t.cs, .slice x.ra x.t.rs.length x.rc, .slice x.wa x.t.ws.length x.wc, .bool x.t.out, .string x.t.nm] 38))) := (belowRefl w).alloc (Nat.le_refl _) _
 go_enter Tryz.func159, Tryz.ntmps159
 go_wp2
 go_ret
 exact ⟨rfl, HB.out⟩

set_option maxRecDepth 100000 in
set_option maxHeartbeats 2000000 in
theorem key63 (x : Ta) (w : World) : Calls Tryz.prog 155 #[.agg #[.int .i64 x.t.id, .int .i64 x.t.st, .int .i64 x.t.snap, .int .i64 x.t.cs, .slice x.ra x.t.rs.length x.rc, .slice x.wa x.t.ws.length x.wc, .bool x.t.out, .string x.t.nm]] w fun e w' => e = .returned (.string x.t.nm) ∧ Below w.heap.size w w' := by
 have HB : Hid (Below w.heap.size w (w.alloc (.cells #[.int .i64 x.t.id, .int .i64 x.t.st, .int .i64 x.t.snap, .int .i64 x.t.cs, .slice x.ra x.t.rs.length x.rc, .slice x.wa x.t.ws.length x.wc, .bool x.t.out, .string x.t.nm] 38))) := (belowRefl w).alloc (Nat.le_refl _) _
 go_enter Tryz.func155, Tryz.ntmps155
 go_wp2
 go_ret
 exact ⟨rfl, HB.out⟩

set_option maxRecDepth 100000 in
set_option maxHeartbeats 2000000 in
theorem keys58 (xs : List Ta) (a : Option Addr) (c n : Nat) (hx : n = xs.length) (hn : n ≤ 10000000) (w : World) (hp : TRows w a xs) :
  Calls Tryz.prog 153 #[.agg #[.slice a n c, .func (.func 151) #[] #[]]] w fun e w' => ∃ (a1 : Option Addr) (c1 : Nat), e = .returned (.slice a1 n c1) ∧ GOwn encI 3 w' (w.heap.size + 1) (.slice a1 n c1) (xs.map fun x : Ta => x.t.cs) ∧ Below w.heap.size w w' := by
 have BA0 : Hid (Bx (w.alloc (.cells #[.slice a n c, .func (.func 151) #[] #[]] 189)) w.heap.size [.slice a n c, .func (.func 151) #[] #[]]) := Bx.new w [.slice a n c, .func (.func 151) #[] #[]] 189
 have HB0 : Hid (Below w.heap.size w (w.alloc (.cells #[.slice a n c, .func (.func 151) #[] #[]] 189))) := (belowRefl w).alloc (Nat.le_refl _) _
 have HP : Hid (TRows w a xs) := hp
 have HX : Hid (n = xs.length) := hx
 clear hp hx
 go_enter Tryz.func153, Tryz.ntmps153
 go_upto_region 1 with fail
 generalize (w.alloc (.cells #[.slice a n c, .func (.func 151) #[] #[]] 189)) = w0 at *
 have x0 := BA0.out.c0
 go_wp2
 go_loopw [3, 9] (fun v t wr => ∃ k : Nat, k ≤ n ∧ t = .int .i64 k ∧ Hid (GOwn encI 3 wr (w.heap.size + 1) v ((xs.take k).map fun x : Ta => x.t.cs)) ∧ Hid (Below w.heap.size w wr) ∧ Hid (Bx wr w.heap.size [.slice a n c, .func (.func 151) #[] #[]])) (fun _ t _ => n - (intOf t).toNat)
 case atStart => exact ⟨0, Nat.zero_le _, rfl, GOwn.nil _ _, HB0, BA0⟩
 case round =>
  clear BA0 HB0 x0
  obtain ⟨k, hk, rfl, HO, HB, BA⟩ := hrel
  by_cases hlt : k < n
  ·have hlt' : (k : Int) < (n : Int) := by omega
   have h0 : (0 : Int) ≤ (k : Int) := by omega
   have hkx : k < xs.length := by rw [← HX.out]; exact hlt
   obtain ⟨b, o, rfl, hbl, hc, -⟩ := (HP.out.below HB.out).cls k hkx
   have HNX : Hid (((xs.take (k + 1)).map fun x : Ta => x.t.cs) = ((xs.take k).map fun x : Ta => x.t.cs) ++ [xs[k].t.cs]) := by
    show _ = _
    rw [List.take_add_one, List.getElem?_eq_getElem hkx, List.map_append]
    rfl
   have HLn : Hid (((xs.take k).map fun x : Ta => x.t.cs).length ≤ 100000000) := by show _ ≤ _; rw [List.length_map]; exact Nat.le_trans (List.length_take_le _ _) (by omega)
   obtain ⟨x, hx⟩ : ∃ x, x = xs[k] := ⟨_, rfl⟩
   rw [← hx] at hc HNX
   clear hx hkx
   have r0 := hc.c0
   have r1 := hc.c1
   have r2 := hc.c2
   have r3 := hc.c3
   have r4 := hc.c4
   have r5 := hc.c5
   have r6 := hc.c6
   have r7 := hc.c7
   clear hc
   obtain ⟨F, hF⟩ : ∃ F, F = ((xs.take k).map fun x : Ta => x.t.cs) := ⟨_, rfl⟩
   rw [← hF] at HO HNX HLn
   clear hF
   have hln := HLn.out
   have HB1 : Hid (Below w.heap.size w (wr.alloc (.cells #[.int .i64 x.t.id, .int .i64 x.t.st, .int .i64 x.t.snap, .int .i64 x.t.cs, .slice x.ra x.t.rs.length x.rc, .slice x.wa x.t.ws.length x.wc, .bool x.t.out, .string x.t.nm] 38))) := HB.out.alloc HB.out.size _
   have BX1 : Hid (Bx (wr.alloc (.cells #[.int .i64 x.t.id, .int .i64 x.t.st, .int .i64 x.t.snap, .int .i64 x.t.cs, .slice x.ra x.t.rs.length x.rc, .slice x.wa x.t.ws.length x.wc, .bool x.t.out, .string x.t.nm] 38)) wr.heap.size [.int .i64 x.t.id, .int .i64 x.t.st, .int .i64 x.t.snap, .int .i64 x.t.cs, .slice x.ra x.t.rs.length x.rc, .slice x.wa x.t.ws.length x.wc, .bool x.t.out, .string x.t.nm]) := Bx.new wr [.int .i64 x.t.id, .int .i64 x.t.st, .int .i64 x.t.snap, .int .i64 x.t.cs, .slice x.ra x.t.rs.length x.rc, .slice x.wa x.t.ws.length x.wc, .bool x.t.out, .string x.t.nm] 38
   have BA1 : Hid (Bx (wr.alloc (.cells #[.int .i64 x.t.id, .int .i64 x.t.st, .int .i64 x.t.snap, .int .i64 x.t.cs, .slice x.ra x.t.rs.length x.rc, .slice x.wa x.t.ws.length x.wc, .bool x.t.out, .string x.t.nm] 38)) w.heap.size [.slice (some ⟨b, o, none⟩) n c, .func (.func 151) #[] #[]]) := BA.out.alloc _
   have O1 := hide (HO.out.alloc (.cells #[.int .i64 x.t.id, .int .i64 x.t.st, .int .i64 x.t.snap, .int .i64 x.t.cs, .slice x.ra x.t.rs.length x.rc, .slice x.wa x.t.ws.length x.wc, .bool x.t.out, .string x.t.nm] 38))
   go_upto_region 5 with fail
   clear r0 r1 r2 r3 r4 r5 r6 r7 BA HO HB
   generalize (wr.alloc (.cells #[.int .i64 x.t.id, .int .i64 x.t.st, .int .i64 x.t.snap, .int .i64 x.t.cs, .slice x.ra x.t.rs.length x.rc, .slice x.wa x.t.ws.length x.wc, .bool x.t.out, .string x.t.nm] 38)) = w1 at *
   have y1 := BA1.out.c1
   have x0 := BX1.out.c0
   have x1 := BX1.out.c1
   have x2 := BX1.out.c2
   have x3 := BX1.out.c3
   have x4 := BX1.out.c4
   have x5 := BX1.out.c5
   have x6 := BX1.out.c6
   have x7 := BX1.out.c7
   go_wp2_with fail
   refine (key58 x _).mono ?_
   rintro e w2 ⟨rfl, hb2⟩
   have HB2 : Hid (Below w.heap.size w w2) := HB1.out.trans (hb2.mono HB1.out.size)
   have O2 := hide (O1.out.below hb2)
   have BA2 := hide (BA1.out.below hb2)
   have hsz2 := BA2.out.lt
   clear hb2 y1 x0 x1 x2 x3 x4 x5 x6 x7
   obtain ⟨yy, hyy⟩ : ∃ yy, yy = x.t.cs := ⟨_, rfl⟩
   rw [← hyy] at HNX ⊢
   clear hyy
   have HBK : Hid ((w2.alloc (.cells #[.int .i64 yy] 3)).heap[w2.heap.size]? = some (.cells (encI.enc yy).toArray 3 (0, 0))) := heap_alloc_new w2 _
   have O2a := hide (O2.out.alloc (.cells #[.int .i64 yy] 3))
   obtain ⟨n0, hn0⟩ : ∃ n0, n0 = F.length := ⟨_, rfl⟩
   go_wp2_with (at_builtin; refine wpAppK (E := encI) 158 3 8 _ Tryz.underlying158 Tryz.info3 rfl (by omega) rfl _ _ rfl yy oneI rfl O2a.out rfl HBK.out hln (by simp; omega) ?_)
   intro g' cap w3 ho3 hg3 hg4 hlt3
   have hb3 : Below (w.heap.size + 1) w2 w3 := ((Below.refl _ _).alloc (Nat.succ_le_of_lt hsz2) _).trans ((Below.refl _ _).grown hg3 (by simp; omega) (fun j hj => (World.ownsRow.lt O2a.out j hj).1))
   have O3 : Hid (GOwn encI 3 w3 (w.heap.size + 1) (.slice (some ⟨g', 0, none⟩) (F.length + 1) cap) (F ++ [yy])) := ho3
   have HB3 : Hid (Below w.heap.size w w3) := HB2.out.trans (hb3.mono (Nat.le_succ _))
   have BA3 := hide (bx_low BA2.out hb3 (Nat.lt_succ_self _))
   clear ho3 hb3 hg3 hg4 hlt3 O2a O2 HBK hn0
   go_wp2
   go_roundw
   case rel => exact ⟨k + 1, by omega, by go_num, by rw [HNX.out]; exact O3, HB3, BA3⟩
   case measure => simp [intOf]; omega
  ·have hd : ¬ (k : Int) < (n : Int) := by omega
   have HE : Hid (xs.take k = xs) := List.take_of_length_le (by rw [← HX.out]; omega)
   rw [HE.out] at HO
   have HL : Hid ((xs.map fun x : Ta => x.t.cs).length = n) := by show _ = _; rw [List.length_map, HX.out]
   obtain ⟨a1, c1, rfl, _⟩ := HO.out.row
   rw [HL.out] at HO ⊢
   go_wp2
   go_ret
   exact ⟨a1, c1, rfl, HO.out, HB.out⟩

set_option maxRecDepth 100000 in
set_option maxHeartbeats 2000000 in
theorem keys67 (xs : List Ta) (a : Option Addr) (c n : Nat) (hx : n = xs.length) (hn : n ≤ 10000000) (w : World) (hp : TRows w a xs) :
  Calls Tryz.prog 153 #[.agg #[.slice a n c, .func (.func 159) #[] #[]]] w fun e w' => ∃ (a1 : Option Addr) (c1 : Nat), e = .returned (.slice a1 n c1) ∧ GOwn encI 3 w' (w.heap.size + 1) (.slice a1 n c1) (xs.map fun x : Ta => x.t.id) ∧ Below w.heap.size w w' := by
 have BA0 : Hid (Bx (w.alloc (.cells #[.slice a n c, .func (.func 159) #[] #[]] 189)) w.heap.size [.slice a n c, .func (.func 159) #[] #[]]) := Bx.new w [.slice a n c, .func (.func 159) #[] #[]] 189
 have HB0 : Hid (Below w.heap.size w (w.alloc (.cells #[.slice a n c, .func (.func 159) #[] #[]] 189))) := (belowRefl w).alloc (Nat.le_refl _) _
 have HP : Hid (TRows w a xs) := hp
 have HX : Hid (n = xs.length) := hx
 clear hp hx
 go_enter Tryz.func153, Tryz.ntmps153
 go_upto_region 1 with fail
 generalize (w.alloc (.cells #[.slice a n c, .func (.func 159) #[] #[]] 189)) = w0 at *
 have x0 := BA0.out.c0
 go_wp2
 go_loopw [3, 9] (fun v t wr => ∃ k : Nat, k ≤ n ∧ t = .int .i64 k ∧ Hid (GOwn encI 3 wr (w.heap.size + 1) v ((xs.take k).map fun x : Ta => x.t.id)) ∧ Hid (Below w.heap.size w wr) ∧ Hid (Bx wr w.heap.size [.slice a n c, .func (.func 159) #[] #[]])) (fun _ t _ => n - (intOf t).toNat)
 case atStart => exact ⟨0, Nat.zero_le _, rfl, GOwn.nil _ _, HB0, BA0⟩
 case round =>
  clear BA0 HB0 x0
  obtain ⟨k, hk, rfl, HO, HB, BA⟩ := hrel
  by_cases hlt : k < n
  ·have hlt' : (k : Int) < (n : Int) := by omega
   have h0 : (0 : Int) ≤ (k : Int) := by omega
   have hkx : k < xs.length := by rw [← HX.out]; exact hlt
   obtain ⟨b, o, rfl, hbl, hc, -⟩ := (HP.out.below HB.out).cls k hkx
   have HNX : Hid (((xs.take (k + 1)).map fun x : Ta => x.t.id) = ((xs.take k).map fun x : Ta => x.t.id) ++ [xs[k].t.id]) := by
    show _ = _
    rw [List.take_add_one, List.getElem?_eq_getElem hkx, List.map_append]
    rfl
   have HLn : Hid (((xs.take k).map fun x : Ta => x.t.id).length ≤ 100000000) := by show _ ≤ _; rw [List.length_map]; exact Nat.le_trans (List.length_take_le _ _) (by omega)
   obtain ⟨x, hx⟩ : ∃ x, x = xs[k] := ⟨_, rfl⟩
   rw [← hx] at hc HNX
   clear hx hkx
   have r0 := hc.c0
   have r1 := hc.c1
   have r2 := hc.c2
   have r3 := hc.c3
   have r4 := hc.c4
   have r5 := hc.c5
   have r6 := hc.c6
   have r7 := hc.c7
   clear hc
   obtain ⟨F, hF⟩ : ∃ F, F = ((xs.take k).map fun x : Ta => x.t.id) := ⟨_, rfl⟩
   rw [← hF] at HO HNX HLn
   clear hF
   have hln := HLn.out
   have HB1 : Hid (Below w.heap.size w (wr.alloc (.cells #[.int .i64 x.t.id, .int .i64 x.t.st, .int .i64 x.t.snap, .int .i64 x.t.cs, .slice x.ra x.t.rs.length x.rc, .slice x.wa x.t.ws.length x.wc, .bool x.t.out, .string x.t.nm] 38))) := HB.out.alloc HB.out.size _
   have BX1 : Hid (Bx (wr.alloc (.cells #[.int .i64 x.t.id, .int .i64 x.t.st, .int .i64 x.t.snap, .int .i64 x.t.cs, .slice x.ra x.t.rs.length x.rc, .slice x.wa x.t.ws.length x.wc, .bool x.t.out, .string x.t.nm] 38)) wr.heap.size [.int .i64 x.t.id, .int .i64 x.t.st, .int .i64 x.t.snap, .int .i64 x.t.cs, .slice x.ra x.t.rs.length x.rc, .slice x.wa x.t.ws.length x.wc, .bool x.t.out, .string x.t.nm]) := Bx.new wr [.int .i64 x.t.id, .int .i64 x.t.st, .int .i64 x.t.snap, .int .i64 x.t.cs, .slice x.ra x.t.rs.length x.rc, .slice x.wa x.t.ws.length x.wc, .bool x.t.out, .string x.t.nm] 38
   have BA1 : Hid (Bx (wr.alloc (.cells #[.int .i64 x.t.id, .int .i64 x.t.st, .int .i64 x.t.snap, .int .i64 x.t.cs, .slice x.ra x.t.rs.length x.rc, .slice x.wa x.t.ws.length x.wc, .bool x.t.out, .string x.t.nm] 38)) w.heap.size [.slice (some ⟨b, o, none⟩) n c, .func (.func 159) #[] #[]]) := BA.out.alloc _
   have O1 := hide (HO.out.alloc (.cells #[.int .i64 x.t.id, .int .i64 x.t.st, .int .i64 x.t.snap, .int .i64 x.t.cs, .slice x.ra x.t.rs.length x.rc, .slice x.wa x.t.ws.length x.wc, .bool x.t.out, .string x.t.nm] 38))
   go_upto_region 5 with fail
   clear r0 r1 r2 r3 r4 r5 r6 r7 BA HO HB
   generalize (wr.alloc (.cells #[.int .i64 x.t.id, .int .i64 x.t.st, .int .i64 x.t.snap, .int .i64 x.t.cs, .slice x.ra x.t.rs.length x.rc, .slice x.wa x.t.ws.length x.wc, .bool x.t.out, .string x.t.nm] 38)) = w1 at *
   have y1 := BA1.out.c1
   have x0 := BX1.out.c0
   have x1 := BX1.out.c1
   have x2 := BX1.out.c2
   have x3 := BX1.out.c3
   have x4 := BX1.out.c4
   have x5 := BX1.out.c5
   have x6 := BX1.out.c6
   have x7 := BX1.out.c7
   go_wp2_with fail
   refine (key67 x _).mono ?_
   rintro e w2 ⟨rfl, hb2⟩
   have HB2 : Hid (Below w.heap.size w w2) := HB1.out.trans (hb2.mono HB1.out.size)
   have O2 := hide (O1.out.below hb2)
   have BA2 := hide (BA1.out.below hb2)
   have hsz2 := BA2.out.lt
   clear hb2 y1 x0 x1 x2 x3 x4 x5 x6 x7
   obtain ⟨yy, hyy⟩ : ∃ yy, yy = x.t.id := ⟨_, rfl⟩
   rw [← hyy] at HNX ⊢
   clear hyy
   have HBK : Hid ((w2.alloc (.cells #[.int .i64 yy] 3)).heap[w2.heap.size]? = some (.cells (encI.enc yy).toArray 3 (0, 0))) := heap_alloc_new w2 _
   have O2a := hide (O2.out.alloc (.cells #[.int .i64 yy] 3))
   obtain ⟨n0, hn0⟩ : ∃ n0, n0 = F.length := ⟨_, rfl⟩
   go_wp2_with (at_builtin; refine wpAppK (E := encI) 158 3 8 _ Tryz.underlying158 Tryz.info3 rfl (by omega) rfl _ _ rfl yy oneI rfl O2a.out rfl HBK.out hln (by simp; omega) ?_)
   intro g' cap w3 ho3 hg3 hg4 hlt3
   have hb3 : Below (w.heap.size + 1) w2 w3 := ((Below.refl _ _).alloc (Nat.succ_le_of_lt hsz2) _).trans ((Below.refl _ _).grown hg3 (by simp; omega) (fun j hj => (World.ownsRow.lt O2a.out j hj).1))
   have O3 : Hid (GOwn encI 3 w3 (w.heap.size + 1) (.slice (some ⟨g', 0, none⟩) (F.length + 1) cap) (F ++ [yy])) := ho3
   have HB3 : Hid (Below w.heap.size w w3) := HB2.out.trans (hb3.mono (Nat.le_succ _))
   have BA3 := hide (bx_low BA2.out hb3 (Nat.lt_succ_self _))
   clear ho3 hb3 hg3 hg4 hlt3 O2a O2 HBK hn0
   go_wp2
   go_roundw
   case rel => exact ⟨k + 1, by omega, by go_num, by rw [HNX.out]; exact O3, HB3, BA3⟩
   case measure => simp [intOf]; omega
  ·have hd : ¬ (k : Int) < (n : Int) := by omega
   have HE : Hid (xs.take k = xs) := List.take_of_length_le (by rw [← HX.out]; omega)
   rw [HE.out] at HO
   have HL : Hid ((xs.map fun x : Ta => x.t.id).length = n) := by show _ = _; rw [List.length_map, HX.out]
   obtain ⟨a1, c1, rfl, _⟩ := HO.out.row
   rw [HL.out] at HO ⊢
   go_wp2
   go_ret
   exact ⟨a1, c1, rfl, HO.out, HB.out⟩

set_option maxRecDepth 100000 in
set_option maxHeartbeats 2000000 in
theorem keys63 (xs : List Ta) (a : Option Addr) (c n : Nat) (hx : n = xs.length) (hn : n ≤ 10000000) (w : World) (hp : TRows w a xs) :
  Calls Tryz.prog 157 #[.agg #[.slice a n c, .func (.func 155) #[] #[]]] w fun e w' => ∃ (a1 : Option Addr) (c1 : Nat), e = .returned (.slice a1 n c1) ∧ GOwn encS 9 w' (w.heap.size + 1) (.slice a1 n c1) (xs.map fun x : Ta => x.t.nm) ∧ Below w.heap.size w w' := by
 have BA0 : Hid (Bx (w.alloc (.cells #[.slice a n c, .func (.func 155) #[] #[]] 194)) w.heap.size [.slice a n c, .func (.func 155) #[] #[]]) := Bx.new w [.slice a n c, .func (.func 155) #[] #[]] 194
 have HB0 : Hid (Below w.heap.size w (w.alloc (.cells #[.slice a n c, .func (.func 155) #[] #[]] 194))) := (belowRefl w).alloc (Nat.le_refl _) _
 have HP : Hid (TRows w a xs) := hp
 have HX : Hid (n = xs.length) := hx
 clear hp hx
 go_enter Tryz.func157, Tryz.ntmps157
 go_upto_region 1 with fail
 generalize (w.alloc (.cells #[.slice a n c, .func (.func 155) #[] #[]] 194)) = w0 at *
 have x0 := BA0.out.c0
 go_wp2
 go_loopw [3, 9] (fun v t wr => ∃ k : Nat, k ≤ n ∧ t = .int .i64 k ∧ Hid (GOwn encS 9 wr (w.heap.size + 1) v ((xs.take k).map fun x : Ta => x.t.nm)) ∧ Hid (Below w.heap.size w wr) ∧ Hid (Bx wr w.heap.size [.slice a n c, .func (.func 155) #[] #[]])) (fun _ t _ => n - (intOf t).toNat)
 case atStart => exact ⟨0, Nat.zero_le _, rfl, GOwn.nil _ _, HB0, BA0⟩
 case round =>
  clear BA0 HB0 x0
  obtain ⟨k, hk, rfl, HO, HB, BA⟩ := hrel
  by_cases hlt : k < n
  ·have hlt' : (k : Int) < (n : Int) := by omega
   have h0 : (0 : Int) ≤ (k : Int) := by omega
   have hkx : k < xs.length := by rw [← HX.out]; exact hlt
   obtain ⟨b, o, rfl, hbl, hc, -⟩ := (HP.out.below HB.out).cls k hkx
   have HNX : Hid (((xs.take (k + 1)).map fun x : Ta => x.t.nm) = ((xs.take k).map fun x : Ta => x.t.nm) ++ [xs[k].t.nm]) := by
    show _ = _
    rw [List.take_add_one, List.getElem?_eq_getElem hkx, List.map_append]
    rfl
   have HLn : Hid (((xs.take k).map fun x : Ta => x.t.nm).length ≤ 100000000) := by show _ ≤ _; rw [List.length_map]; exact Nat.le_trans (List.length_take_le _ _) (by omega)
   obtain ⟨x, hx⟩ : ∃ x, x = xs[k] := ⟨_, rfl⟩
   rw [← hx] at hc HNX
   clear hx hkx
   have r0 := hc.c0
   have r1 := hc.c1
   have r2 := hc.c2
   have r3 := hc.c3
   have r4 := hc.c4
   have r5 := hc.c5
   have r6 := hc.c6
   have r7 := hc.c7
   clear hc
   obtain ⟨F, hF⟩ : ∃ F, F = ((xs.take k).map fun x : Ta => x.t.nm) := ⟨_, rfl⟩
   rw [← hF] at HO HNX HLn
   clear hF
   have hln := HLn.out
   have HB1 : Hid (Below w.heap.size w (wr.alloc (.cells #[.int .i64 x.t.id, .int .i64 x.t.st, .int .i64 x.t.snap, .int .i64 x.t.cs, .slice x.ra x.t.rs.length x.rc, .slice x.wa x.t.ws.length x.wc, .bool x.t.out, .string x.t.nm] 38))) := HB.out.alloc HB.out.size _
   have BX1 : Hid (Bx (wr.alloc (.cells #[.int .i64 x.t.id, .int .i64 x.t.st, .int .i64 x.t.snap, .int .i64 x.t.cs, .slice x.ra x.t.rs.length x.rc, .slice x.wa x.t.ws.length x.wc, .bool x.t.out, .string x.t.nm] 38)) wr.heap.size [.int .i64 x.t.id, .int .i64 x.t.st, .int .i64 x.t.snap, .int .i64 x.t.cs, .slice x.ra x.t.rs.length x.rc, .slice x.wa x.t.ws.length x.wc, .bool x.t.out, .string x.t.nm]) := Bx.new wr [.int .i64 x.t.id, .int .i64 x.t.st, .int .i64 x.t.snap, .int .i64 x.t.cs, .slice x.ra x.t.rs.length x.rc, .slice x.wa x.t.ws.length x.wc, .bool x.t.out, .string x.t.nm] 38
   have BA1 : Hid (Bx (wr.alloc (.cells #[.int .i64 x.t.id, .int .i64 x.t.st, .int .i64 x.t.snap, .int .i64 x.t.cs, .slice x.ra x.t.rs.length x.rc, .slice x.wa x.t.ws.length x.wc, .bool x.t.out, .string x.t.nm] 38)) w.heap.size [.slice (some ⟨b, o, none⟩) n c, .func (.func 155) #[] #[]]) := BA.out.alloc _
   have O1 := hide (HO.out.alloc (.cells #[.int .i64 x.t.id, .int .i64 x.t.st, .int .i64 x.t.snap, .int .i64 x.t.cs, .slice x.ra x.t.rs.length x.rc, .slice x.wa x.t.ws.length x.wc, .bool x.t.out, .string x.t.nm] 38))
   go_upto_region 5 with fail
   clear r0 r1 r2 r3 r4 r5 r6 r7 BA HO HB
   generalize (wr.alloc (.cells #[.int .i64 x.t.id, .int .i64 x.t.st, .int .i64 x.t.snap, .int .i64 x.t.cs, .slice x.ra x.t.rs.length x.rc, .slice x.wa x.t.ws.length x.wc, .bool x.t.out, .string x.t.nm] 38)) = w1 at *
   have y1 := BA1.out.c1
   have x0 := BX1.out.c0
   have x1 := BX1.out.c1
   have x2 := BX1.out.c2
   have x3 := BX1.out.c3
   have x4 := BX1.out.c4
   have x5 := BX1.out.c5
   have x6 := BX1.out.c6
   have x7 := BX1.out.c7
   go_wp2_with fail
   refine (key63 x _).mono ?_
   rintro e w2 ⟨rfl, hb2⟩
   have HB2 : Hid (Below w.heap.size w w2) := HB1.out.trans (hb2.mono HB1.out.size)
   have O2 := hide (O1.out.below hb2)
   have BA2 := hide (BA1.out.below hb2)
   have hsz2 := BA2.out.lt
   clear hb2 y1 x0 x1 x2 x3 x4 x5 x6 x7
   obtain ⟨yy, hyy⟩ : ∃ yy, yy = x.t.nm := ⟨_, rfl⟩
   rw [← hyy] at HNX ⊢
   clear hyy
   have HBK : Hid ((w2.alloc (.cells #[.string yy] 9)).heap[w2.heap.size]? = some (.cells (encS.enc yy).toArray 9 (0, 0))) := heap_alloc_new w2 _
   have O2a := hide (O2.out.alloc (.cells #[.string yy] 9))
   obtain ⟨n0, hn0⟩ : ∃ n0, n0 = F.length := ⟨_, rfl⟩
   go_wp2_with (at_builtin; refine wpAppK (E := encS) 206 9 16 _ Tryz.underlying206 Tryz.info9 rfl (by omega) rfl _ _ rfl yy oneS' rfl O2a.out rfl HBK.out hln (by simp; omega) ?_)
   intro g' cap w3 ho3 hg3 hg4 hlt3
   have hb3 : Below (w.heap.size + 1) w2 w3 := ((Below.refl _ _).alloc (Nat.succ_le_of_lt hsz2) _).trans ((Below.refl _ _).grown hg3 (by simp; omega) (fun j hj => (World.ownsRow.lt O2a.out j hj).1))
   have O3 : Hid (GOwn encS 9 w3 (w.heap.size + 1) (.slice (some ⟨g', 0, none⟩) (F.length + 1) cap) (F ++ [yy])) := ho3
   have HB3 : Hid (Below w.heap.size w w3) := HB2.out.trans (hb3.mono (Nat.le_succ _))
   have BA3 := hide (bx_low BA2.out hb3 (Nat.lt_succ_self _))
   clear ho3 hb3 hg3 hg4 hlt3 O2a O2 HBK hn0
   go_wp2
   go_roundw
   case rel => exact ⟨k + 1, by omega, by go_num, by rw [HNX.out]; exact O3, HB3, BA3⟩
   case measure => simp [intOf]; omega
  ·have hd : ¬ (k : Int) < (n : Int) := by omega
   have HE : Hid (xs.take k = xs) := List.take_of_length_le (by rw [← HX.out]; omega)
   rw [HE.out] at HO
   have HL : Hid ((xs.map fun x : Ta => x.t.nm).length = n) := by show _ = _; rw [List.length_map, HX.out]
   obtain ⟨a1, c1, rfl, _⟩ := HO.out.row
   rw [HL.out] at HO ⊢
   go_wp2
   go_ret
   exact ⟨a1, c1, rfl, HO.out, HB.out⟩

end Go.Proofs.YtpnnncfbodfnhaaGreatDoor

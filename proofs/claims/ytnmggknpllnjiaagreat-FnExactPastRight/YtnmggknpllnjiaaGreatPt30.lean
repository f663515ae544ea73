/- Lists of which each one has a key: keys, and whether they ascend. -/
import Derived.Test.YtnmggknpllnjiaaGreatProg
import Derived.WalkKit
import Derived.Test.YtnmggknpllnjiaaGreatPt01
import Derived.WalkSpells
import Derived.WalkLawsBesides
import Derived.Deep.QuietTactic
import Derived.BigQuiet
import Derived.Deep.RegionHeld3
import Derived.Deep.DrawnRows
import Derived.Deep.AppendLies
import Derived.Test.YtnmggknpllnjiaaGreatPt02
import Derived.Test.YtnmggknpllnjiaaGreatPt03
import Derived.Deep.RegionHeld
import Derived.Sort.OwnSorted
import Derived.Lib.RowBridge
import Derived.Test.YtnmggknpllnjiaaGreatPt04
import Derived.Test.YtnmggknpllnjiaaGreatPt05
import Derived.Test.YtnmggknpllnjiaaGreatPt06
import Derived.Test.YtnmggknpllnjiaaGreatPt07
import Derived.Test.YtnmggknpllnjiaaGreatPt29
import Derived.Deep.Cut
import Derived.Deep.CutRange
import Derived.Laws.EntriesVeiled
import Derived.Test.YtnmggknpllnjiaaGreatPt22
import Derived.Test.YtnmggknpllnjiaaGreatPt15
import Derived.Test.YtnmggknpllnjiaaGreatPt11
import Derived.Maps.OwnSet
import Derived.StringKeys
import Derived.Test.YtnmggknpllnjiaaGreatPt12
import Derived.Test.YtnmggknpllnjiaaGreatPt25
namespace Go.Proofs.YtnmggknpllnjiaaGreat
open Go.RowKit
open KM
attribute [local go_sem ↓] Go.wp_at_zero Go.wp_at_succ

def AscI (zs : List Int) (k : Nat) : Prop := ∀ j (h : j < zs.length), j < k → ∀ (_ : 0 < j), zs[j - 1]'(by omega) < zs[j]
def ascIB (zs : List Int) : Bool := decide (∀ j (h : j < zs.length), ∀ (_ : 0 < j), zs[j - 1]'(by omega) < zs[j])
theorem ascI_all {zs : List Int} {k : Nat} (h : AscI zs k) (hk : zs.length ≤ k) : ascIB zs = true := decide_eq_true fun j hj h0 => h j hj (by omega) h0
theorem ascI_no {zs : List Int} (k : Nat) (hk : k < zs.length) (h0 : 0 < k) (h : ¬ zs[k - 1]'(by omega) < zs[k]) : ascIB zs = false := decide_eq_false fun g => h (g k hk h0)
theorem ascI_more {zs : List Int} {k : Nat} (h : AscI zs k) (hk : k < zs.length) (h2 : ∀ (_ : 0 < k), zs[k - 1]'(by omega) < zs[k]) : AscI zs (k + 1) := fun j hj hlt h0 => by
 by_cases e : j = k
 ·subst e; exact h2 h0
 ·exact h j hj (by omega) h0
set_option maxRecDepth 100000 in
set_option maxHeartbeats 2000000 in
theorem by35 (a : Option Addr) (c n : Nat) (w : World) : Calls Tryz.prog 22 #[.slice a n c] w fun e w' => e = .returned (.agg #[.slice a n c, .func (.func 43) #[] #[]]) ∧ Below w.heap.size w w' := by
 go_enter Tryz.func22, Tryz.ntmps22
 go_wp2
 refine bodyPost_ret (v := .agg #[.slice a n c, .func (.func 43) #[] #[]]) (by simp [results, Tryz.results22, go_sem]) rfl ⟨rfl, ?_⟩
 exact (belowRefl w).alloc (Nat.le_refl _) _

set_option maxRecDepth 100000 in
set_option maxHeartbeats 2000000 in
theorem key58 (x : Ta) (w : World) : Calls Tryz.prog 43 #[.agg #[.int .i64 x.t.id, .int .i64 x.t.st, .int .i64 x.t.snap, .int .i64 x.t.cs, .slice x.ra x.t.rs.length x.rc, .slice x.wa x.t.ws.length x.wc, .bool x.t.out, .string x.t.nm]] w fun e w' => e = .returned (.int .i64 x.t.cs) ∧ Below w.heap.size w w' := by
 have HB : Hid (Below w.heap.size w (w.alloc (.cells #[.int .i64 x.t.id, .int .i64 x.t.st, .int .i64 x.t.snap, .int .i64 x.t.cs, .slice x.ra x.t.rs.length x.rc, .slice x.wa x.t.ws.length x.wc, .bool x.t.out, .string x.t.nm] 63))) := (belowRefl w).alloc (Nat.le_refl _) _
 go_enter Tryz.func43, Tryz.ntmps43
 go_wp2
 go_ret
 exact ⟨rfl, HB.out⟩

set_option maxRecDepth 100000 in
set_option maxHeartbeats 2000000 in
theorem keys58 (xs : List Ta) (a : Option Addr) (c n : Nat) (hx : n = xs.length) (hn : n ≤ 10000000) (w : World) (hp : TRows w a xs) :
  Calls Tryz.prog 45 #[.agg #[.slice a n c, .func (.func 43) #[] #[]]] w fun e w' => ∃ (a1 : Option Addr) (c1 : Nat), e = .returned (.slice a1 n c1) ∧ GOwn encI 3 w' (w.heap.size + 1) (.slice a1 n c1) (xs.map fun x : Ta => x.t.cs) ∧ Below w.heap.size w w' := by
 have BA0 : Hid (Bx (w.alloc (.cells #[.slice a n c, .func (.func 43) #[] #[]] 78)) w.heap.size [.slice a n c, .func (.func 43) #[] #[]]) := Bx.new w [.slice a n c, .func (.func 43) #[] #[]] 78
 have HB0 : Hid (Below w.heap.size w (w.alloc (.cells #[.slice a n c, .func (.func 43) #[] #[]] 78))) := (belowRefl w).alloc (Nat.le_refl _) _
 have HP : Hid (TRows w a xs) := hp
 have HX : Hid (n = xs.length) := hx
 clear hp hx
 go_enter Tryz.func45, Tryz.ntmps45
 go_upto_region 1 with fail
 generalize (w.alloc (.cells #[.slice a n c, .func (.func 43) #[] #[]] 78)) = w0 at *
 have x0 := BA0.out.c0
 go_wp2
 go_loopw [3, 9] (fun v t wr => ∃ k : Nat, k ≤ n ∧ t = .int .i64 k ∧ Hid (GOwn encI 3 wr (w.heap.size + 1) v ((xs.take k).map fun x : Ta => x.t.cs)) ∧ Hid (Below w.heap.size w wr) ∧ Hid (Bx wr w.heap.size [.slice a n c, .func (.func 43) #[] #[]])) (fun _ t _ => n - (intOf t).toNat)
 case atStart => exact ⟨0, Nat.zero_le _, rfl, GOwn.nil _ _, HB0, BA0⟩
 case round =>
  clear BA0 HB0 x0
  obtain ⟨k, hk, rfl, HO, HB, BA⟩ := hrel
  by_cases hlt : k < n
  ·have hlt' : (k : Int) < (n : Int) := by omega
   have h0 : (0 : Int) ≤ (k : Int) := by omega
   have hkx : k < xs.length := by rw [← HX.out]; exact hlt
   obtain ⟨b, o, rfl, hbl, hc, -⟩ := (HP.out.below HB.out).cls k hkx
   have HNX : Hid (((xs.take (k + 1)).map fun x : Ta => x.t.cs) = ((xs.take k).map fun x : Ta => x.t.cs) ++ [xs[k].t.cs]) := by
    show _ = _
    rw [List.take_add_one, List.getElem?_eq_getElem hkx, List.map_append]
    rfl
   have HLn : Hid (((xs.take k).map fun x : Ta => x.t.cs).length ≤ 100000000) := by show _ ≤ _; rw [List.length_map]; exact Nat.le_trans (List.length_take_le _ _) (by omega)
   obtain ⟨x, hx⟩ : ∃ x, x = xs[k] := ⟨_, rfl⟩
   rw [← hx] at hc HNX
   clear hx hkx
   have r0 := hc.c0
   have r1 := hc.c1
   have r2 := hc.c2
   have r3 := hc.c3
   have r4 := hc.c4
   have r5 := hc.c5
   have r6 := hc.c6
   have r7 := hc.c7
   clear hc
   obtain ⟨F, hF⟩ : ∃ F, F = ((xs.take k).map fun x : Ta => x.t.cs) := ⟨_, rfl⟩
   rw [← hF] at HO HNX HLn
   clear hF
   have hln := HLn.out
   have HB1 : Hid (Below w.heap.size w (wr.alloc (.cells #[.int .i64 x.t.id, .int .i64 x.t.st, .int .i64 x.t.snap, .int .i64 x.t.cs, .slice x.ra x.t.rs.length x.rc, .slice x.wa x.t.ws.length x.wc, .bool x.t.out, .string x.t.nm] 63))) := HB.out.alloc HB.out.size _
   have BX1 : Hid (Bx (wr.alloc (.cells #[.int .i64 x.t.id, .int .i64 x.t.st, .int .i64 x.t.snap, .int .i64 x.t.cs, .slice x.ra x.t.rs.length x.rc, .slice x.wa x.t.ws.length x.wc, .bool x.t.out, .string x.t.nm] 63)) wr.heap.size [.int .i64 x.t.id, .int .i64 x.t.st, .int .i64 x.t.snap, .int .i64 x.t.cs, .slice x.ra x.t.rs.length x.rc, .slice x.wa x.t.ws.length x.wc, .bool x.t.out, .string x.t.nm]) := Bx.new wr [.int .i64 x.t.id, .int .i64 x.t.st, .int .i64 x.t.snap, .int .i64 x.t.cs, .slice x.ra x.t.rs.length x.rc, .slice x.wa x.t.ws.length x.wc, .bool x.t.out, .string x.t.nm] 63
   have BA1 : Hid (Bx (wr.alloc (.cells #[.int .i64 x.t.id, .int .i64 x.t.st, .int .i64 x.t.snap, .int .i64 x.t.cs, .slice x.ra x.t.rs.length x.rc, .slice x.wa x.t.ws.length x.wc, .bool x.t.out, .string x.t.nm] 63)) w.heap.size [.slice (some ⟨b, o, none⟩) n c, .func (.func 43) #[] #[]]) := BA.out.alloc _
   have O1 := hide (HO.out.alloc (.cells #[.int .i64 x.t.id, .int .i64 x.t.st, .int .i64 x.t.snap, .int .i64 x.t.cs, .slice x.ra x.t.rs.length x.rc, .slice x.wa x.t.ws.length x.wc, .bool x.t.out, .string x.t.nm] 63))
   go_upto_region 5 with fail
   clear r0 r1 r2 r3 r4 r5 r6 r7 BA HO HB
   generalize (wr.alloc (.cells #[.int .i64 x.t.id, .int .i64 x.t.st, .int .i64 x.t.snap, .int .i64 x.t.cs, .slice x.ra x.t.rs.length x.rc, .slice x.wa x.t.ws.length x.wc, .bool x.t.out, .string x.t.nm] 63)) = w1 at *
   have y1 := BA1.out.c1
   have x0 := BX1.out.c0
   have x1 := BX1.out.c1
   have x2 := BX1.out.c2
   have x3 := BX1.out.c3
   have x4 := BX1.out.c4
   have x5 := BX1.out.c5
   have x6 := BX1.out.c6
   have x7 := BX1.out.c7
   go_wp2_with fail
   refine (key58 x _).mono ?_
   rintro e w2 ⟨rfl, hb2⟩
   have HB2 : Hid (Below w.heap.size w w2) := HB1.out.trans (hb2.mono HB1.out.size)
   have O2 := hide (O1.out.below hb2)
   have BA2 := hide (BA1.out.below hb2)
   have hsz2 := BA2.out.lt
   clear hb2 y1 x0 x1 x2 x3 x4 x5 x6 x7
   obtain ⟨yy, hyy⟩ : ∃ yy, yy = x.t.cs := ⟨_, rfl⟩
   rw [← hyy] at HNX ⊢
   clear hyy
   have HBK : Hid ((w2.alloc (.cells #[.int .i64 yy] 3)).heap[w2.heap.size]? = some (.cells (encI.enc yy).toArray 3 (0, 0))) := heap_alloc_new w2 _
   have O2a := hide (O2.out.alloc (.cells #[.int .i64 yy] 3))
   obtain ⟨n0, hn0⟩ : ∃ n0, n0 = F.length := ⟨_, rfl⟩
   go_wp2_with (at_builtin; refine wpAppK (E := encI) 34 3 8 _ Tryz.underlying34 Tryz.info3 rfl (by omega) rfl _ _ rfl yy oneI rfl O2a.out rfl HBK.out hln (by simp; omega) ?_)
   intro g' cap w3 ho3 hg3 hg4 hlt3
   have hb3 : Below (w.heap.size + 1) w2 w3 := ((Below.refl _ _).alloc (Nat.succ_le_of_lt hsz2) _).trans ((Below.refl _ _).grown hg3 (by simp; omega) (fun j hj => (World.ownsRow.lt O2a.out j hj).1))
   have O3 : Hid (GOwn encI 3 w3 (w.heap.size + 1) (.slice (some ⟨g', 0, none⟩) (F.length + 1) cap) (F ++ [yy])) := ho3
   have HB3 : Hid (Below w.heap.size w w3) := HB2.out.trans (hb3.mono (Nat.le_succ _))
   have BA3 := hide (bx_low BA2.out hb3 (Nat.lt_succ_self _))
   clear ho3 hb3 hg3 hg4 hlt3 O2a O2 HBK hn0
   go_wp2
   go_roundw
   case rel => exact ⟨k + 1, by omega, by go_num, by rw [HNX.out]; exact O3, HB3, BA3⟩
   case measure => simp [intOf]; omega
  ·have hd : ¬ (k : Int) < (n : Int) := by omega
   have HE : Hid (xs.take k = xs) := List.take_of_length_le (by rw [← HX.out]; omega)
   rw [HE.out] at HO
   have HL : Hid ((xs.map fun x : Ta => x.t.cs).length = n) := by show _ = _; rw [List.length_map, HX.out]
   obtain ⟨a1, c1, rfl, _⟩ := HO.out.row
   rw [HL.out] at HO ⊢
   go_wp2
   go_ret
   exact ⟨a1, c1, rfl, HO.out, HB.out⟩

end Go.Proofs.YtnmggknpllnjiaaGreat

namespace Go.Proofs.YtnmggknpllnjiaaGreat
open Go.RowKit
open KM
attribute [local go_sem ↓] Go.wp_at_zero Go.wp_at_succ

set_option maxRecDepth 100000 in
set_option maxHeartbeats 2000000 in
theorem asc59 (zs : List Int) (a : Option Addr) (c n : Nat) (hx : n = zs.length) (hn : n ≤ 100000000) (w : World) (hp : GRow encI w a zs) :
  Calls Tryz.prog 44 #[.slice a n c] w fun e w' => e = .returned (.bool (ascIB zs)) ∧ Below w.heap.size w w' := by
 have HP : Hid (GRow encI w a zs) := hp
 have HX : Hid (n = zs.length) := hx
 clear hp hx
 go_enter Tryz.func44, Tryz.ntmps44
 go_wp2
 go_loopw [3] (fun t wr => ∃ k : Nat, 1 ≤ k ∧ t = .int .i64 k ∧ Hid (AscI zs k) ∧ Hid (Below w.heap.size w wr)) (fun t _ => n + 1 - (intOf t).toNat)
 case atStart => exact ⟨1, Nat.le_refl _, rfl, (fun j hj h1 h0 => by omega), belowRefl w⟩
 case round =>
  obtain ⟨k, hk1, rfl, HG, HB⟩ := hrel
  by_cases hlt : k < n
  ·have hlt' : (k : Int) < (n : Int) := by omega
   have h0 : (0 : Int) ≤ (k : Int) := by omega
   have hkz : k < zs.length := by rw [← HX.out]; exact hlt
   obtain ⟨b, off, rfl, hbl, hc⟩ := (HP.out.below HB.out) (by omega)
   obtain ⟨p, hp⟩ : ∃ p, k = p + 1 := ⟨k - 1, by omega⟩
   subst hp
   have r1 := iat hc (p + 1) hkz
   have r0 := iat hc p (by omega)
   have e1 : IntKind.i64.wrap (((p + 1 : Nat) : Int) - 1) = (p : Int) := by rw [IntKind.wrap_i64]; omega
   have e2 : ((p + 1 : Nat) : Int) - 1 = (p : Int) := by omega
   have hpn : (p : Int) < (n : Int) := by omega
   have hp0 : (0 : Int) ≤ (p : Int) := by omega
   have HY : Hid (zs[p] < zs[p + 1] → AscI zs (p + 1 + 1)) := fun h => ascI_more HG.out hkz (fun _ => h)
   have HN : Hid (¬ zs[p] < zs[p + 1] → ascIB zs = false) := fun h => ascI_no (p + 1) hkz (by omega) (by simpa using h)
   obtain ⟨x, hx⟩ : ∃ x, x = zs[p] := ⟨_, rfl⟩
   obtain ⟨y, hy⟩ : ∃ y, y = zs[p + 1] := ⟨_, rfl⟩
   rw [← hx] at r0 HY HN
   rw [← hy] at r1 HY HN
   clear hx hy hc hbl HG
   by_cases hq : x < y
   ·have HR := hide (HY.out hq)
    have ht : decide (x ≥ y) = false := by simpa using hq
    clear HY HN
    go_wp2
    go_quiet (fail)
    go_wp2
    go_roundw
    case rel => exact ⟨p + 1 + 1, by omega, by go_num, HR, below_drewN HB.out _⟩
    case measure => simp [intOf]; omega
   ·have HR : Hid (ascIB zs = false) := HN.out hq
    have ht : decide (x ≥ y) = true := by simpa using hq
    clear HY HN
    go_wp2
    go_quiet (fail)
    go_wp2
    go_ret
    exact ⟨ret_bool HR.out.symm, below_drewN HB.out _⟩
  ·have hd : ¬ (k : Int) < (n : Int) := by omega
   have HR : Hid (true = ascIB zs) := (ascI_all HG.out (by rw [← HX.out]; omega)).symm
   clear HG
   go_wp2
   go_ret
   exact ⟨ret_bool HR.out, HB.out⟩

end Go.Proofs.YtnmggknpllnjiaaGreat

namespace Go.Proofs.YtnmggknpllnjiaaGreat
open Go.RowKit
open KM
attribute [local go_sem ↓] Go.wp_at_zero Go.wp_at_succ

end Go.Proofs.YtnmggknpllnjiaaGreat

namespace Go.Proofs.YtnmggknpllnjiaaGreat
open Go.RowKit
open KM
attribute [local go_sem ↓] Go.wp_at_zero Go.wp_at_succ

end Go.Proofs.YtnmggknpllnjiaaGreat

namespace Go.Proofs.YtnmggknpllnjiaaGreat
open Go.RowKit
open KM
attribute [local go_sem ↓] Go.wp_at_zero Go.wp_at_succ

end Go.Proofs.YtnmggknpllnjiaaGreat

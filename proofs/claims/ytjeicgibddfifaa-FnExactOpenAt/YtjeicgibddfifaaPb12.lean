/- What stays: the place of one by its name, on both sides. -/
import Derived.Test.YtjeicgibddfifaaPb09
import Derived.Test.YtjeicgibddfifaaPb11
import Derived.Deep.RegionHeld3
import Derived.Deep.Cut
import Derived.Deep.CutRange
import Derived.Test.YtjeicgibddfifaaProg
import Derived.WalkKit
import Derived.Test.YtjeicgibddfifaaPb01
import Derived.WalkSpells
import Derived.WalkLawsBesides
import Derived.Deep.QuietTactic
import Derived.BigQuiet
import Derived.Deep.DrawnRows
import Derived.Test.YtjeicgibddfifaaPb05
import Derived.Deep.AppendLies
import Derived.Test.YtjeicgibddfifaaPb02
import Derived.Deep.RegionHeld
import Derived.Test.YtjeicgibddfifaaPb04
import Derived.Test.YtjeicgibddfifaaPb03
import Derived.Test.YtjeicgibddfifaaPb06
import Derived.Sort.OwnSorted
import Derived.Lib.RowBridge
import Derived.Laws.EntriesVeiled
import Derived.Test.YtjeicgibddfifaaPb10
import Derived.Lib.SliceRun
import Derived.Lib.AppendZeros
namespace Go.Proofs.Ytjeicgibddfifaa
open Go.RowKit
open KM
attribute [local go_sem ↓] Go.wp_at_zero Go.wp_at_succ

theorem bx_low {w w' : World} {b base : Nat} {cs : List Value} (h : Bx w b cs) (hb : Below base w w') (hl : b < base) : Bx w' b cs :=
 ⟨Nat.lt_of_lt_of_le h.lt hb.size, fun j hj => (hb.cell (p := ⟨b, j, none⟩) hl).trans (h.at' j hj), fun j => (hb.frozen (p := ⟨b, j, none⟩) hl).trans (h.fz j)⟩
end Go.Proofs.Ytjeicgibddfifaa

namespace Go.Proofs.Ytjeicgibddfifaa
open Go.RowKit
open KM
attribute [local go_sem ↓] Go.wp_at_zero Go.wp_at_succ

set_option maxRecDepth 100000 in
set_option maxHeartbeats 2000000 in
theorem by42 (a : Option Addr) (c n : Nat) (w : World) : Calls Try.prog 29 #[.slice a n c] w fun e w' => e = .returned (.agg #[.slice a n c, .func (.func 49) #[] #[]]) ∧ Below w.heap.size w w' := by
 go_enter Try.func29, Try.ntmps29
 go_wp2
 refine bodyPost_ret (v := .agg #[.slice a n c, .func (.func 49) #[] #[]]) (by simp [results, Try.results29, go_sem]) rfl ⟨rfl, ?_⟩
 exact (belowRefl w).alloc (Nat.le_refl _) _

set_option maxRecDepth 100000 in
set_option maxHeartbeats 2000000 in
theorem key67 (x : Ta) (w : World) : Calls Try.prog 49 #[.agg #[.int .i64 x.t.id, .int .i64 x.t.st, .int .i64 x.t.snap, .int .i64 x.t.cs, .slice x.ra x.t.rs.length x.rc, .slice x.wa x.t.ws.length x.wc, .bool x.t.out, .string x.t.nm]] w fun e w' => e = .returned (.int .i64 x.t.id) ∧ Below w.heap.size w w' := by
 have HB : Hid (Below w.heap.size w (w.alloc (.cells #[.int .i64 x.t.id, .int .i64 x.t.st, .int .i64 x.t.snap, .int .i64 x.t.cs, .slice x.ra x.t.rs.length x.rc, .slice x.wa x.t.ws.length x.wc, .bool x.t.out, .string x.t.nm] 51))) := (belowRefl w).alloc (Nat.le_refl _) _
 go_enter Try.func49, Try.ntmps49
 go_wp2
 go_ret
 exact ⟨rfl, HB.out⟩

set_option maxRecDepth 100000 in
set_option maxHeartbeats 2000000 in
theorem keys67 (xs : List Ta) (a : Option Addr) (c n : Nat) (hx : n = xs.length) (hn : n ≤ 10000000) (w : World) (hp : TRows w a xs) :
  Calls Try.prog 51 #[.agg #[.slice a n c, .func (.func 49) #[] #[]]] w fun e w' => ∃ (a1 : Option Addr) (c1 : Nat), e = .returned (.slice a1 n c1) ∧ GOwn encI 3 w' (w.heap.size + 1) (.slice a1 n c1) (xs.map fun x : Ta => x.t.id) ∧ Below w.heap.size w w' := by
 have BA0 : Hid (Bx (w.alloc (.cells #[.slice a n c, .func (.func 49) #[] #[]] 56)) w.heap.size [.slice a n c, .func (.func 49) #[] #[]]) := Bx.new w [.slice a n c, .func (.func 49) #[] #[]] 56
 have HB0 : Hid (Below w.heap.size w (w.alloc (.cells #[.slice a n c, .func (.func 49) #[] #[]] 56))) := (belowRefl w).alloc (Nat.le_refl _) _
 have HP : Hid (TRows w a xs) := hp
 have HX : Hid (n = xs.length) := hx
 clear hp hx
 go_enter Try.func51, Try.ntmps51
 go_upto_region 1 with fail
 generalize (w.alloc (.cells #[.slice a n c, .func (.func 49) #[] #[]] 56)) = w0 at *
 have x0 := BA0.out.c0
 go_wp2
 go_loopw [3, 9] (fun v t wr => ∃ k : Nat, k ≤ n ∧ t = .int .i64 k ∧ Hid (GOwn encI 3 wr (w.heap.size + 1) v ((xs.take k).map fun x : Ta => x.t.id)) ∧ Hid (Below w.heap.size w wr) ∧ Hid (Bx wr w.heap.size [.slice a n c, .func (.func 49) #[] #[]])) (fun _ t _ => n - (intOf t).toNat)
 case atStart => exact ⟨0, Nat.zero_le _, rfl, GOwn.nil _ _, HB0, BA0⟩
 case round =>
  clear BA0 HB0 x0
  obtain ⟨k, hk, rfl, HO, HB, BA⟩ := hrel
  by_cases hlt : k < n
  ·have hlt' : (k : Int) < (n : Int) := by omega
   have h0 : (0 : Int) ≤ (k : Int) := by omega
   have hkx : k < xs.length := by rw [← HX.out]; exact hlt
   obtain ⟨b, o, rfl, hbl, hc, -⟩ := (HP.out.below HB.out).cls k hkx
   have HNX : Hid (((xs.take (k + 1)).map fun x : Ta => x.t.id) = ((xs.take k).map fun x : Ta => x.t.id) ++ [xs[k].t.id]) := by
    show _ = _
    rw [List.take_add_one, List.getElem?_eq_getElem hkx, List.map_append]
    rfl
   have HLn : Hid (((xs.take k).map fun x : Ta => x.t.id).length ≤ 100000000) := by show _ ≤ _; rw [List.length_map]; exact Nat.le_trans (List.length_take_le _ _) (by omega)
   obtain ⟨x, hx⟩ : ∃ x, x = xs[k] := ⟨_, rfl⟩
   rw [← hx] at hc HNX
   clear hx hkx
   have r0 := hc.c0
   have r1 := hc.c1
   have r2 := hc.c2
   have r3 := hc.c3
   have r4 := hc.c4
   have r5 := hc.c5
   have r6 := hc.c6
   have r7 := hc.c7
   clear hc
   obtain ⟨F, hF⟩ : ∃ F, F = ((xs.take k).map fun x : Ta => x.t.id) := ⟨_, rfl⟩
   rw [← hF] at HO HNX HLn
   clear hF
   have hln := HLn.out
   have HB1 : Hid (Below w.heap.size w (wr.alloc (.cells #[.int .i64 x.t.id, .int .i64 x.t.st, .int .i64 x.t.snap, .int .i64 x.t.cs, .slice x.ra x.t.rs.length x.rc, .slice x.wa x.t.ws.length x.wc, .bool x.t.out, .string x.t.nm] 51))) := HB.out.alloc HB.out.size _
   have BX1 : Hid (Bx (wr.alloc (.cells #[.int .i64 x.t.id, .int .i64 x.t.st, .int .i64 x.t.snap, .int .i64 x.t.cs, .slice x.ra x.t.rs.length x.rc, .slice x.wa x.t.ws.length x.wc, .bool x.t.out, .string x.t.nm] 51)) wr.heap.size [.int .i64 x.t.id, .int .i64 x.t.st, .int .i64 x.t.snap, .int .i64 x.t.cs, .slice x.ra x.t.rs.length x.rc, .slice x.wa x.t.ws.length x.wc, .bool x.t.out, .string x.t.nm]) := Bx.new wr [.int .i64 x.t.id, .int .i64 x.t.st, .int .i64 x.t.snap, .int .i64 x.t.cs, .slice x.ra x.t.rs.length x.rc, .slice x.wa x.t.ws.length x.wc, .bool x.t.out, .string x.t.nm] 51
   have BA1 : Hid (Bx (wr.alloc (.cells #[.int .i64 x.t.id, .int .i64 x.t.st, .int .i64 x.t.snap, .int .i64 x.t.cs, .slice x.ra x.t.rs.length x.rc, .slice x.wa x.t.ws.length x.wc, .bool x.t.out, .string x.t.nm] 51)) w.heap.size [.slice (some ⟨b, o, none⟩) n c, .func (.func 49) #[] #[]]) := BA.out.alloc _
   have O1 := hide (HO.out.alloc (.cells #[.int .i64 x.t.id, .int .i64 x.t.st, .int .i64 x.t.snap, .int .i64 x.t.cs, .slice x.ra x.t.rs.length x.rc, .slice x.wa x.t.ws.length x.wc, .bool x.t.out, .string x.t.nm] 51))
   go_upto_region 5 with fail
   clear r0 r1 r2 r3 r4 r5 r6 r7 BA HO HB
   generalize (wr.alloc (.cells #[.int .i64 x.t.id, .int .i64 x.t.st, .int .i64 x.t.snap, .int .i64 x.t.cs, .slice x.ra x.t.rs.length x.rc, .slice x.wa x.t.ws.length x.wc, .bool x.t.out, .string x.t.nm] 51)) = w1 at *
   have y1 := BA1.out.c1
   have x0 := BX1.out.c0
   have x1 := BX1.out.c1
   have x2 := BX1.out.c2
   have x3 := BX1.out.c3
   have x4 := BX1.out.c4
   have x5 := BX1.out.c5
   have x6 := BX1.out.c6
   have x7 := BX1.out.c7
   go_wp2_with fail
   refine (key67 x _).mono ?_
   rintro e w2 ⟨rfl, hb2⟩
   have HB2 : Hid (Below w.heap.size w w2) := HB1.out.trans (hb2.mono HB1.out.size)
   have O2 := hide (O1.out.below hb2)
   have BA2 := hide (BA1.out.below hb2)
   have hsz2 := BA2.out.lt
   clear hb2 y1 x0 x1 x2 x3 x4 x5 x6 x7
   obtain ⟨yy, hyy⟩ : ∃ yy, yy = x.t.id := ⟨_, rfl⟩
   rw [← hyy] at HNX ⊢
   clear hyy
   have HBK : Hid ((w2.alloc (.cells #[.int .i64 yy] 3)).heap[w2.heap.size]? = some (.cells (encI.enc yy).toArray 3 (0, 0))) := heap_alloc_new w2 _
   have O2a := hide (O2.out.alloc (.cells #[.int .i64 yy] 3))
   obtain ⟨n0, hn0⟩ : ∃ n0, n0 = F.length := ⟨_, rfl⟩
   go_wp2_with (at_builtin; refine wpAppK (E := encI) 78 3 8 _ Try.underlying78 Try.info3 rfl (by omega) rfl _ _ rfl yy oneI rfl O2a.out rfl HBK.out hln (by simp; omega) ?_)
   intro g' cap w3 ho3 hg3 hg4 hlt3
   have hb3 : Below (w.heap.size + 1) w2 w3 := ((Below.refl _ _).alloc (Nat.succ_le_of_lt hsz2) _).trans ((Below.refl _ _).grown hg3 (by simp; omega) (fun j hj => (World.ownsRow.lt O2a.out j hj).1))
   have O3 : Hid (GOwn encI 3 w3 (w.heap.size + 1) (.slice (some ⟨g', 0, none⟩) (F.length + 1) cap) (F ++ [yy])) := ho3
   have HB3 : Hid (Below w.heap.size w w3) := HB2.out.trans (hb3.mono (Nat.le_succ _))
   have BA3 := hide (bx_low BA2.out hb3 (Nat.lt_succ_self _))
   clear ho3 hb3 hg3 hg4 hlt3 O2a O2 HBK hn0
   go_wp2
   go_roundw
   case rel => exact ⟨k + 1, by omega, by go_num, by rw [HNX.out]; exact O3, HB3, BA3⟩
   case measure => simp [intOf]; omega
  ·have hd : ¬ (k : Int) < (n : Int) := by omega
   have HE : Hid (xs.take k = xs) := List.take_of_length_le (by rw [← HX.out]; omega)
   rw [HE.out] at HO
   have HL : Hid ((xs.map fun x : Ta => x.t.id).length = n) := by show _ = _; rw [List.length_map, HX.out]
   obtain ⟨a1, c1, rfl, _⟩ := HO.out.row
   rw [HL.out] at HO ⊢
   go_wp2
   go_ret
   exact ⟨a1, c1, rfl, HO.out, HB.out⟩

end Go.Proofs.Ytjeicgibddfifaa

namespace Go.Proofs.Ytjeicgibddfifaa
open Go.RowKit
open KM
attribute [local go_sem ↓] Go.wp_at_zero Go.wp_at_succ

def ids (xs : List Ta) : List Int := xs.map fun x : Ta => x.t.id
theorem ids_len (xs : List Ta) : (ids xs).length = xs.length := by simp [ids]
theorem ids_at (xs : List Ta) (k : Nat) (h : k < xs.length) : (ids xs)[k]'(by rw [ids_len]; exact h) = xs[k].t.id := by simp [ids]
theorem ids_txs (xs : List Ta) : ids xs = (txs xs).map (·.id) := by simp [ids, txs, Function.comp_def]
def idxZ : List Int → Int → Nat → Int
 | [], _, _ => -1
 | x :: l, s, k => if (x == s) = true then (k : Int) else idxZ l s (k + 1)
theorem idxz_yes {l : List Int} {s : Int} {k : Nat} (hk : k < l.length) (h : (l[k] == s) = true) : idxZ (l.drop k) s k = (k : Int) := by
 rw [List.drop_eq_getElem_cons hk]
 unfold idxZ
 rw [if_pos h]
theorem idxz_no {l : List Int} {s : Int} {k : Nat} (hk : k < l.length) (h : (l[k] == s) = false) : idxZ (l.drop k) s k = idxZ (l.drop (k + 1)) s (k + 1) := by
 rw [List.drop_eq_getElem_cons hk]
 conv => lhs; unfold idxZ
 rw [if_neg (by rw [h]; simp)]
theorem idxz_end {l : List Int} {s : Int} {k : Nat} (hk : l.length ≤ k) : idxZ (l.drop k) s k = -1 := by
 rw [List.drop_of_length_le hk]
 rfl
theorem beq_comm_int (a b : Int) : (a == b) = (b == a) := by
 rw [Bool.eq_iff_iff]
 simp only [beq_iff_eq]
 exact eq_comm

set_option maxRecDepth 100000 in
set_option maxHeartbeats 2000000 in
theorem sopenat (e : En) (i : Int) (hn : e.os.length ≤ 10000000) (w : World) (hp : TRows w e.oa e.os) :
  Calls Try.prog 12 #[.agg #[.slice e.b.va e.b.vs.length e.b.vc, .slice e.b.pa e.b.ps.length e.b.pc, .slice e.b.qa e.b.qs.length e.b.qc, .int .i64 e.b.cs, .int .i64 e.b.nx, .slice e.oa e.os.length e.oc], .int .i64 i] w fun ex w' => ex = .returned (.int .i64 (idxZ (ids e.os) i 0)) ∧ Below w.heap.size w w' := by
 have BA : Hid (Bx (w.alloc (.cells #[.slice e.b.va e.b.vs.length e.b.vc, .slice e.b.pa e.b.ps.length e.b.pc, .slice e.b.qa e.b.qs.length e.b.qc, .int .i64 e.b.cs, .int .i64 e.b.nx, .slice e.oa e.os.length e.oc] 27)) w.heap.size [.slice e.b.va e.b.vs.length e.b.vc, .slice e.b.pa e.b.ps.length e.b.pc, .slice e.b.qa e.b.qs.length e.b.qc, .int .i64 e.b.cs, .int .i64 e.b.nx, .slice e.oa e.os.length e.oc]) := Bx.new w [.slice e.b.va e.b.vs.length e.b.vc, .slice e.b.pa e.b.ps.length e.b.pc, .slice e.b.qa e.b.qs.length e.b.qc, .int .i64 e.b.cs, .int .i64 e.b.nx, .slice e.oa e.os.length e.oc] 27
 have HB : Hid (Below w.heap.size w (w.alloc (.cells #[.slice e.b.va e.b.vs.length e.b.vc, .slice e.b.pa e.b.ps.length e.b.pc, .slice e.b.qa e.b.qs.length e.b.qc, .int .i64 e.b.cs, .int .i64 e.b.nx, .slice e.oa e.os.length e.oc] 27))) := (belowRefl w).alloc (Nat.le_refl _) _
 have HQ : Hid (TRows (w.alloc (.cells #[.slice e.b.va e.b.vs.length e.b.vc, .slice e.b.pa e.b.ps.length e.b.pc, .slice e.b.qa e.b.qs.length e.b.qc, .int .i64 e.b.cs, .int .i64 e.b.nx, .slice e.oa e.os.length e.oc] 27)) e.oa e.os) := hp.below HB.out
 clear hp
 go_enter Try.func12, Try.ntmps12
 go_upto_region 1 with fail
 generalize (w.alloc (.cells #[.slice e.b.va e.b.vs.length e.b.vc, .slice e.b.pa e.b.ps.length e.b.pc, .slice e.b.qa e.b.qs.length e.b.qc, .int .i64 e.b.cs, .int .i64 e.b.nx, .slice e.oa e.os.length e.oc] 27)) = w0 at *
 go_wp2
 go_loopw [5] (fun t wr => ∃ k : Nat, k ≤ e.os.length ∧ t = .int .i64 k ∧ Hid (idxZ ((ids e.os).drop k) i k = idxZ (ids e.os) i 0) ∧ w0 = wr) (fun t _ => e.os.length - (intOf t).toNat)
 case atStart => exact ⟨0, Nat.zero_le _, rfl, rfl, rfl⟩
 case round =>
  obtain ⟨k, hk, rfl, HI, rfl⟩ := hrel
  have x5 := BA.out.c5
  by_cases hlt : k < e.os.length
  ·have hlt' : (k : Int) < (e.os.length : Int) := by omega
   have h0 : (0 : Int) ≤ (k : Int) := by omega
   obtain ⟨b0, o, ha, hbl, hc, -⟩ := HQ.out.cls k hlt
   have r0 := hc.c0
   have hkl : k < (ids e.os).length := by rw [ids_len]; exact hlt
   have HY : Hid ((e.os[k].t.id == i) = true → (k : Int) = idxZ (ids e.os) i 0) := fun h => by show _ = _; rw [← HI.out]; exact (idxz_yes hkl (by rw [ids_at _ _ hlt]; exact h)).symm
   have HN : Hid ((e.os[k].t.id == i) = false → idxZ ((ids e.os).drop (k + 1)) i (k + 1) = idxZ (ids e.os) i 0) := fun h => by show _ = _; rw [← HI.out]; exact (idxz_no hkl (by rw [ids_at _ _ hlt]; exact h)).symm
   obtain ⟨x, hx⟩ : ∃ x, x = e.os[k] := ⟨_, rfl⟩
   rw [← hx] at r0 HY HN
   clear hx hc hbl HI
   cases hq : (x.t.id == i)
   ·have HR := hide (HN.out hq)
    rw [ha] at x5
    clear HY HN
    go_wp2
    go_roundw
    case rel => exact ⟨k + 1, by omega, by go_num, HR, trivial⟩
    case measure => simp [intOf]; omega
   ·have HR : Hid ((k : Int) = idxZ (ids e.os) i 0) := HY.out hq
    rw [ha] at x5
    clear HY HN
    go_wp2
    go_ret
    exact ⟨ret_int HR.out, HB.out⟩
  ·have hd : ¬ (k : Int) < (e.os.length : Int) := by omega
   have HR : Hid ((-1 : Int) = idxZ (ids e.os) i 0) := by show _ = _; rw [← HI.out]; exact (idxz_end (by rw [ids_len]; omega)).symm
   clear HI
   go_wp2
   go_ret
   exact ⟨ret_int HR.out, HB.out⟩

set_option maxRecDepth 100000 in
set_option maxHeartbeats 2000000 in
theorem idxJ (ss : List Int) (a : Option Addr) (c n : Nat) (s : Int) (hx : n = ss.length) (hn : n ≤ 100000000) (w : World) (hp : GRow encI w a ss) :
  Calls Try.prog 50 #[.slice a n c, .int .i64 s] w fun e w' => e = .returned (.int .i64 (idxZ ss s 0)) ∧ Below w.heap.size w w' := by
 have HP : Hid (GRow encI w a ss) := hp
 have HX : Hid (n = ss.length) := hx
 clear hp hx
 go_enter Try.func50, Try.ntmps50
 go_wp2
 go_loopw [8] (fun t wr => ∃ k : Nat, k ≤ n ∧ t = .int .i64 k ∧ Hid (idxZ (ss.drop k) s k = idxZ ss s 0) ∧ w = wr) (fun t _ => n - (intOf t).toNat)
 case atStart => exact ⟨0, Nat.zero_le _, rfl, rfl, rfl⟩
 case round =>
  obtain ⟨k, hk, rfl, HI, rfl⟩ := hrel
  by_cases hlt : k < n
  ·have hlt' : (k : Int) < (n : Int) := by omega
   have h0 : (0 : Int) ≤ (k : Int) := by omega
   have hkl : k < ss.length := by rw [← HX.out]; exact hlt
   obtain ⟨b, off, rfl, hbl, hc⟩ := HP.out (by omega)
   have r0 := iat hc k hkl
   have HY : Hid ((s == ss[k]) = true → (k : Int) = idxZ ss s 0) := fun h => by show _ = _; rw [← HI.out]; exact (idxz_yes hkl (by rw [beq_comm_int]; exact h)).symm
   have HN : Hid ((s == ss[k]) = false → idxZ (ss.drop (k + 1)) s (k + 1) = idxZ ss s 0) := fun h => by show _ = _; rw [← HI.out]; exact (idxz_no hkl (by rw [beq_comm_int]; exact h)).symm
   obtain ⟨x, hx⟩ : ∃ x, x = ss[k] := ⟨_, rfl⟩
   rw [← hx] at r0 HY HN
   clear hx hc hbl HI
   cases hq : (s == x)
   ·have HR := hide (HN.out hq)
    clear HY HN
    go_wp2
    go_roundw
    case rel => exact ⟨k + 1, by omega, by go_num, HR, trivial⟩
    case measure => simp [intOf]; omega
   ·have HR : Hid ((k : Int) = idxZ ss s 0) := HY.out hq
    clear HY HN
    go_wp2
    go_ret
    exact ⟨ret_int HR.out, belowRefl w⟩
  ·have hd : ¬ (k : Int) < (n : Int) := by omega
   have HR : Hid ((-1 : Int) = idxZ ss s 0) := by show _ = _; rw [← HI.out]; exact (idxz_end (by rw [← HX.out]; omega)).symm
   clear HI
   go_wp2
   go_ret
   exact ⟨ret_int HR.out, belowRefl w⟩

set_option maxRecDepth 100000 in
set_option maxHeartbeats 2000000 in
theorem placeI (xs : List Ta) (a : Option Addr) (c n : Nat) (s : Int) (hx : n = xs.length) (hn : n ≤ 10000000) (w : World) (hp : TRows w a xs) :
  Calls Try.prog 30 #[.agg #[.slice a n c, .func (.func 49) #[] #[]], .int .i64 s] w fun e w' => e = .returned (.int .i64 (idxZ (ids xs) s 0)) ∧ Below w.heap.size w w' := by
 have HB0 : Hid (Below w.heap.size w (w.alloc (.cells #[.slice a n c, .func (.func 49) #[] #[]] 56))) := (belowRefl w).alloc (Nat.le_refl _) _
 have BA0 : Hid (Bx (w.alloc (.cells #[.slice a n c, .func (.func 49) #[] #[]] 56)) w.heap.size [.slice a n c, .func (.func 49) #[] #[]]) := Bx.new w [.slice a n c, .func (.func 49) #[] #[]] 56
 have H := hide (keys67 xs a c n hx hn (w.alloc (.cells #[.slice a n c, .func (.func 49) #[] #[]] 56)) (hp.below HB0.out))
 have HX : Hid (n = (ids xs).length) := by show _ = _; rw [ids_len, hx]
 clear hp hx
 go_enter Try.func30, Try.ntmps30
 go_wp2_with fail
 refine H.out.mono ?_
 rintro e w1 ⟨a1, c1, rfl, ho, hb1⟩
 have HB1 : Hid (Below w.heap.size w w1) := HB0.out.trans (hb1.mono HB0.out.size)
 have RO : Hid (GRow encI w1 a1 (ids xs)) := by have h := ho; rw [HX.out] at h; exact h.grow
 clear ho hb1
 go_wp2_with fail
 refine (idxJ (ids xs) a1 c1 n s HX.out (by omega) _ RO.out).mono ?_
 rintro e w2 ⟨rfl, hb2⟩
 have HB2 : Hid (Below w.heap.size w w2) := HB1.out.trans (hb2.mono HB1.out.size)
 clear hb2
 go_wp2
 go_ret
 exact ⟨rfl, HB2.out⟩

set_option maxRecDepth 100000 in
set_option maxHeartbeats 2000000 in
theorem iopenat (e : En) (i : Int) (hn : e.os.length ≤ 10000000) (w : World) (hp : TRows w e.oa e.os) :
  Calls Try.prog 14 #[.agg #[.slice e.b.va e.b.vs.length e.b.vc, .slice e.b.pa e.b.ps.length e.b.pc, .slice e.b.qa e.b.qs.length e.b.qc, .int .i64 e.b.cs, .int .i64 e.b.nx, .slice e.oa e.os.length e.oc], .int .i64 i] w fun ex w' => ex = .returned (.int .i64 (idxZ (ids e.os) i 0)) ∧ Below w.heap.size w w' := by
 have HB0 : Hid (Below w.heap.size w (w.alloc (.cells #[.slice e.b.va e.b.vs.length e.b.vc, .slice e.b.pa e.b.ps.length e.b.pc, .slice e.b.qa e.b.qs.length e.b.qc, .int .i64 e.b.cs, .int .i64 e.b.nx, .slice e.oa e.os.length e.oc] 27))) := (belowRefl w).alloc (Nat.le_refl _) _
 have HQ : Hid (TRows w e.oa e.os) := hp
 clear hp
 go_enter Try.func14, Try.ntmps14
 go_wp2_with fail
 refine (by42 e.oa e.oc e.os.length _).mono ?_
 rintro ex w1 ⟨rfl, hb1⟩
 have HB1 : Hid (Below w.heap.size w w1) := HB0.out.trans (hb1.mono HB0.out.size)
 clear hb1
 go_wp2_with fail
 refine (placeI e.os e.oa e.oc e.os.length i rfl hn _ (HQ.out.below HB1.out)).mono ?_
 rintro ex w2 ⟨rfl, hb2⟩
 have HB2 : Hid (Below w.heap.size w w2) := HB1.out.trans (hb2.mono HB1.out.size)
 clear hb2
 go_wp2
 go_ret
 exact ⟨rfl, HB2.out⟩

end Go.Proofs.Ytjeicgibddfifaa

namespace Go.Proofs.Ytjeicgibddfifaa
open Go.RowKit
open KM
attribute [local go_sem ↓] Go.wp_at_zero Go.wp_at_succ

end Go.Proofs.Ytjeicgibddfifaa

namespace Go.Proofs.Ytjeicgibddfifaa
open Go.RowKit
open KM
attribute [local go_sem ↓] Go.wp_at_zero Go.wp_at_succ

end Go.Proofs.Ytjeicgibddfifaa

namespace Go.Proofs.Ytjeicgibddfifaa
open Go.RowKit
open KM
attribute [local go_sem ↓] Go.wp_at_zero Go.wp_at_succ

end Go.Proofs.Ytjeicgibddfifaa

namespace Go.Proofs.Ytjeicgibddfifaa
open Go.RowKit
open KM
attribute [local go_sem ↓] Go.wp_at_zero Go.wp_at_succ

structure Sl where
 a : Option Addr
 n : Nat
 c : Nat
 xs : List Ta
structure SlOk (w : World) (s : Sl) : Prop where
 n : s.n = s.xs.length
 r : GRow encT w s.a s.xs
 z : s.a = none → s.n = 0 ∧ s.c = 0
theorem SlOk.below {w w' : World} {s : Sl} (h : SlOk w s) (hb : Below w.heap.size w w') : SlOk w' s := ⟨h.n, h.r.below hb, h.z⟩
end Go.Proofs.Ytjeicgibddfifaa

namespace Go.Proofs.Ytjeicgibddfifaa
open Go.RowKit
open KM
attribute [local go_sem ↓] Go.wp_at_zero Go.wp_at_succ

end Go.Proofs.Ytjeicgibddfifaa

namespace Go.Proofs.Ytjeicgibddfifaa
open Go.RowKit
open KM
attribute [local go_sem ↓] Go.wp_at_zero Go.wp_at_succ

end Go.Proofs.Ytjeicgibddfifaa

namespace Go.Proofs.Ytjeicgibddfifaa
open Go.RowKit
open KM
attribute [local go_sem ↓] Go.wp_at_zero Go.wp_at_succ

end Go.Proofs.Ytjeicgibddfifaa

namespace Go.Proofs.Ytjeicgibddfifaa
open Go.RowKit
open KM
attribute [local go_sem ↓] Go.wp_at_zero Go.wp_at_succ

end Go.Proofs.Ytjeicgibddfifaa

namespace Go.Proofs.Ytjeicgibddfifaa
open Go.RowKit
open KM
attribute [local go_sem ↓] Go.wp_at_zero Go.wp_at_succ

end Go.Proofs.Ytjeicgibddfifaa

namespace Go.Proofs.Ytjeicgibddfifaa
open Go.RowKit
open KM
attribute [local go_sem ↓] Go.wp_at_zero Go.wp_at_succ

end Go.Proofs.Ytjeicgibddfifaa

namespace Go.Proofs.Ytjeicgibddfifaa
open Go.RowKit
open KM
attribute [local go_sem ↓] Go.wp_at_zero Go.wp_at_succ

theorem own_none {α : Type} {E : Enc α} {e : TypeId} {w : World} {lo n c : Nat} {a : Option Addr} {xs : List α} (h : GOwn E e w lo (.slice a n c) xs) (ha : a = none) : n = 0 ∧ c = 0 := by
 rcases h.2 with ⟨hv, _⟩ | ⟨g, cap, cur, hv, _⟩
 ·cases hv
  exact ⟨rfl, rfl⟩
 ·subst ha
  cases hv
def Nones (c : Bb) : Prop := (c.pa = none → c.ps.length = 0 ∧ c.pc = 0) ∧ (c.qa = none → c.qs.length = 0 ∧ c.qc = 0)
theorem BLie.nones {w : World} {lo hi : Nat} {c : Bb} (h : BLie w lo hi c) : Nones c := by
 obtain ⟨m1, m2, _, _, _, h1, h2, h3⟩ := h.ex
 exact ⟨fun e => own_none h2.own.own e, fun e => own_none h3.own.own e⟩
theorem EnLie.nones {w : World} {lo hi : Nat} {c : En} (h : EnLie w lo hi c) : Nones c.b := by
 obtain ⟨m, _, _, h1, _⟩ := h.ex
 exact h1.nones
end Go.Proofs.Ytjeicgibddfifaa

/- What stays: the place of one by its name, on both sides. -/
import Derived.Test.YtmijppfppigjcaaGreatPd11
import Derived.Deep.RegionHeld3
import Derived.Test.YtmijppfppigjcaaGreatProg
import Derived.WalkKit
import Derived.Test.YtmijppfppigjcaaGreatPd01
import Derived.WalkSpells
import Derived.WalkLawsBesides
import Derived.Deep.QuietTactic
import Derived.BigQuiet
import Derived.Deep.DrawnRows
import Derived.Deep.AppendLies
import Derived.Test.YtmijppfppigjcaaGreatPd02
import Derived.Test.YtmijppfppigjcaaGreatPd03
import Derived.Deep.RegionHeld
import Derived.Sort.OwnSorted
import Derived.Lib.RowBridge
import Derived.Test.YtmijppfppigjcaaGreatPd04
import Derived.Test.YtmijppfppigjcaaGreatPd07
import Derived.Test.YtmijppfppigjcaaGreatPd05
import Derived.Test.YtmijppfppigjcaaGreatPd08
import Derived.Test.YtmijppfppigjcaaGreatPd13
import Derived.Lib.ItoaNum
import Derived.Lib.ItoaLen
import Derived.Deep.Cut
import Derived.Deep.CutRange
import Derived.Test.YtmijppfppigjcaaGreatPd06
import Derived.Test.YtmijppfppigjcaaGreatPd14
import Derived.Test.YtmijppfppigjcaaGreatPd12
import Derived.Test.YtmijppfppigjcaaGreatPd10
namespace Go.Proofs.YtmijppfppigjcaaGreat
open Go.RowKit
open KM
attribute [local go_sem ↓] Go.wp_at_zero Go.wp_at_succ

def nms (xs : List Ta) : List ByteArray := xs.map (·.t.nm)
theorem nms_len (xs : List Ta) : (nms xs).length = xs.length := by simp [nms]
theorem nms_at (xs : List Ta) (k : Nat) (h : k < xs.length) : (nms xs)[k]'(by rw [nms_len]; exact h) = xs[k].t.nm := by simp [nms]
theorem nms_txs (xs : List Ta) : nms xs = (txs xs).map (·.nm) := by simp [nms, txs, Function.comp_def]
def idxN : List ByteArray → ByteArray → Nat → Int
 | [], _, _ => -1
 | x :: l, s, k => if (x.toList == s.toList) = true then (k : Int) else idxN l s (k + 1)
theorem idx_yes {l : List ByteArray} {s : ByteArray} {k : Nat} (hk : k < l.length) (h : (l[k].toList == s.toList) = true) : idxN (l.drop k) s k = (k : Int) := by
 rw [List.drop_eq_getElem_cons hk]
 unfold idxN
 rw [if_pos h]
theorem idx_no {l : List ByteArray} {s : ByteArray} {k : Nat} (hk : k < l.length) (h : (l[k].toList == s.toList) = false) : idxN (l.drop k) s k = idxN (l.drop (k + 1)) s (k + 1) := by
 rw [List.drop_eq_getElem_cons hk]
 conv => lhs; unfold idxN
 rw [if_neg (by rw [h]; simp)]
theorem idx_end {l : List ByteArray} {s : ByteArray} {k : Nat} (hk : l.length ≤ k) : idxN (l.drop k) s k = -1 := by
 rw [List.drop_of_length_le hk]
 rfl
theorem beq_comm_list (a b : ByteArray) : (a.toList == b.toList) = (b.toList == a.toList) := by
 rw [Bool.eq_iff_iff]
 simp only [beq_iff_eq]
 exact eq_comm

set_option maxRecDepth 100000 in
set_option maxHeartbeats 2000000 in
theorem sreadyat (b : Bb) (nm : ByteArray) (hn : b.qs.length ≤ 10000000) (w : World) (hp : BRows w b) :
  Calls Tryz.prog 27 #[.agg #[.slice b.va b.vs.length b.vc, .slice b.pa b.ps.length b.pc, .slice b.qa b.qs.length b.qc, .int .i64 b.cs, .int .i64 b.nx], .string nm] w fun e w' => e = .returned (.int .i64 (idxN (nms b.qs) nm 0)) ∧ Below w.heap.size w w' := by
 have BA : Hid (Bx (w.alloc (.cells #[.slice b.va b.vs.length b.vc, .slice b.pa b.ps.length b.pc, .slice b.qa b.qs.length b.qc, .int .i64 b.cs, .int .i64 b.nx] 42)) w.heap.size [.slice b.va b.vs.length b.vc, .slice b.pa b.ps.length b.pc, .slice b.qa b.qs.length b.qc, .int .i64 b.cs, .int .i64 b.nx]) := Bx.new w [.slice b.va b.vs.length b.vc, .slice b.pa b.ps.length b.pc, .slice b.qa b.qs.length b.qc, .int .i64 b.cs, .int .i64 b.nx] 42
 have HB : Hid (Below w.heap.size w (w.alloc (.cells #[.slice b.va b.vs.length b.vc, .slice b.pa b.ps.length b.pc, .slice b.qa b.qs.length b.qc, .int .i64 b.cs, .int .i64 b.nx] 42))) := (belowRefl w).alloc (Nat.le_refl _) _
 have HQ : Hid (TRows (w.alloc (.cells #[.slice b.va b.vs.length b.vc, .slice b.pa b.ps.length b.pc, .slice b.qa b.qs.length b.qc, .int .i64 b.cs, .int .i64 b.nx] 42)) b.qa b.qs) := hp.q.below HB.out
 clear hp
 go_enter Tryz.func27, Tryz.ntmps27
 go_upto_region 1 with fail
 generalize (w.alloc (.cells #[.slice b.va b.vs.length b.vc, .slice b.pa b.ps.length b.pc, .slice b.qa b.qs.length b.qc, .int .i64 b.cs, .int .i64 b.nx] 42)) = w0 at *
 go_wp2
 go_loopw [5] (fun t wr => ∃ k : Nat, k ≤ b.qs.length ∧ t = .int .i64 k ∧ Hid (idxN ((nms b.qs).drop k) nm k = idxN (nms b.qs) nm 0) ∧ w0 = wr) (fun t _ => b.qs.length - (intOf t).toNat)
 case atStart => exact ⟨0, Nat.zero_le _, rfl, rfl, rfl⟩
 case round =>
  obtain ⟨k, hk, rfl, HI, rfl⟩ := hrel
  have x2 := BA.out.c2
  by_cases hlt : k < b.qs.length
  ·have hlt' : (k : Int) < (b.qs.length : Int) := by omega
   have h0 : (0 : Int) ≤ (k : Int) := by omega
   obtain ⟨b0, o, ha, hbl, hc, -⟩ := HQ.out.cls k hlt
   have r7 := hc.c7
   have hkl : k < (nms b.qs).length := by rw [nms_len]; exact hlt
   have HY : Hid ((b.qs[k].t.nm.toList == nm.toList) = true → (k : Int) = idxN (nms b.qs) nm 0) := fun h => by show _ = _; rw [← HI.out]; exact (idx_yes hkl (by rw [nms_at _ _ hlt]; exact h)).symm
   have HN : Hid ((b.qs[k].t.nm.toList == nm.toList) = false → idxN ((nms b.qs).drop (k + 1)) nm (k + 1) = idxN (nms b.qs) nm 0) := fun h => by show _ = _; rw [← HI.out]; exact (idx_no hkl (by rw [nms_at _ _ hlt]; exact h)).symm
   obtain ⟨x, hx⟩ : ∃ x, x = b.qs[k] := ⟨_, rfl⟩
   rw [← hx] at r7 HY HN
   clear hx hc hbl HI
   cases hq : (x.t.nm.toList == nm.toList)
   ·have HR := hide (HN.out hq)
    rw [ha] at x2
    clear HY HN
    go_wp2
    go_roundw
    case rel => exact ⟨k + 1, by omega, by go_num, HR, trivial⟩
    case measure => simp [intOf]; omega
   ·have HR : Hid ((k : Int) = idxN (nms b.qs) nm 0) := HY.out hq
    rw [ha] at x2
    clear HY HN
    go_wp2
    go_ret
    exact ⟨ret_int HR.out, HB.out⟩
  ·have hd : ¬ (k : Int) < (b.qs.length : Int) := by omega
   have HR : Hid ((-1 : Int) = idxN (nms b.qs) nm 0) := by show _ = _; rw [← HI.out]; exact (idx_end (by rw [nms_len]; omega)).symm
   clear HI
   go_wp2
   go_ret
   exact ⟨ret_int HR.out, HB.out⟩

set_option maxRecDepth 100000 in
set_option maxHeartbeats 2000000 in
theorem idxS (ss : List ByteArray) (a : Option Addr) (c n : Nat) (s : ByteArray) (hx : n = ss.length) (hn : n ≤ 100000000) (w : World) (hp : GRow encS w a ss) :
  Calls Tryz.prog 130 #[.slice a n c, .string s] w fun e w' => e = .returned (.int .i64 (idxN ss s 0)) ∧ Below w.heap.size w w' := by
 have HP : Hid (GRow encS w a ss) := hp
 have HX : Hid (n = ss.length) := hx
 clear hp hx
 go_enter Tryz.func130, Tryz.ntmps130
 go_wp2
 go_loopw [8] (fun t wr => ∃ k : Nat, k ≤ n ∧ t = .int .i64 k ∧ Hid (idxN (ss.drop k) s k = idxN ss s 0) ∧ w = wr) (fun t _ => n - (intOf t).toNat)
 case atStart => exact ⟨0, Nat.zero_le _, rfl, rfl, rfl⟩
 case round =>
  obtain ⟨k, hk, rfl, HI, rfl⟩ := hrel
  by_cases hlt : k < n
  ·have hlt' : (k : Int) < (n : Int) := by omega
   have h0 : (0 : Int) ≤ (k : Int) := by omega
   have hkl : k < ss.length := by rw [← HX.out]; exact hlt
   obtain ⟨b, off, rfl, hbl, hc⟩ := HP.out (by omega)
   have r0 := sat hc k hkl
   have HY : Hid ((s.toList == ss[k].toList) = true → (k : Int) = idxN ss s 0) := fun h => by show _ = _; rw [← HI.out]; exact (idx_yes hkl (by rw [beq_comm_list]; exact h)).symm
   have HN : Hid ((s.toList == ss[k].toList) = false → idxN (ss.drop (k + 1)) s (k + 1) = idxN ss s 0) := fun h => by show _ = _; rw [← HI.out]; exact (idx_no hkl (by rw [beq_comm_list]; exact h)).symm
   obtain ⟨x, hx⟩ : ∃ x, x = ss[k] := ⟨_, rfl⟩
   rw [← hx] at r0 HY HN
   clear hx hc hbl HI
   cases hq : (s.toList == x.toList)
   ·have HR := hide (HN.out hq)
    clear HY HN
    go_wp2
    go_roundw
    case rel => exact ⟨k + 1, by omega, by go_num, HR, trivial⟩
    case measure => simp [intOf]; omega
   ·have HR : Hid ((k : Int) = idxN ss s 0) := HY.out hq
    clear HY HN
    go_wp2
    go_ret
    exact ⟨ret_int HR.out, belowRefl w⟩
  ·have hd : ¬ (k : Int) < (n : Int) := by omega
   have HR : Hid ((-1 : Int) = idxN ss s 0) := by show _ = _; rw [← HI.out]; exact (idx_end (by rw [← HX.out]; omega)).symm
   clear HI
   go_wp2
   go_ret
   exact ⟨ret_int HR.out, belowRefl w⟩

set_option maxRecDepth 100000 in
set_option maxHeartbeats 2000000 in
theorem key107 (x : Ta) (w : World) : Calls Tryz.prog 129 #[.agg #[.int .i64 x.t.id, .int .i64 x.t.st, .int .i64 x.t.snap, .int .i64 x.t.cs, .slice x.ra x.t.rs.length x.rc, .slice x.wa x.t.ws.length x.wc, .bool x.t.out, .string x.t.nm]] w fun e w' => e = .returned (.string x.t.nm) ∧ Below w.heap.size w w' := by
 have HB : Hid (Below w.heap.size w (w.alloc (.cells #[.int .i64 x.t.id, .int .i64 x.t.st, .int .i64 x.t.snap, .int .i64 x.t.cs, .slice x.ra x.t.rs.length x.rc, .slice x.wa x.t.ws.length x.wc, .bool x.t.out, .string x.t.nm] 62))) := (belowRefl w).alloc (Nat.le_refl _) _
 go_enter Tryz.func129, Tryz.ntmps129
 go_wp2
 go_ret
 exact ⟨rfl, HB.out⟩
theorem ent107 (args : Array Value) (w : World) : (callFunc 129 args).run Tryz.prog w = .ok (.enter 129 args) w := by kernel_rfl

set_option maxRecDepth 100000 in
set_option maxHeartbeats 2000000 in
theorem keysN (xs : List Ta) (a : Option Addr) (c n : Nat) (hx : n = xs.length) (hn : n ≤ 10000000) (w : World) (hp : TRows w a xs) :
  Calls Tryz.prog 131 #[.agg #[.slice a n c, .func (.func 129) #[] #[]]] w fun e w' => ∃ (a1 : Option Addr) (c1 : Nat), e = .returned (.slice a1 n c1) ∧ GOwn encS 9 w' w.heap.size (.slice a1 n c1) (nms xs) ∧ Below w.heap.size w w' := by
 have BA0 : Hid (Bx (w.alloc (.cells #[.slice a n c, .func (.func 129) #[] #[]] 165)) w.heap.size [.slice a n c, .func (.func 129) #[] #[]]) := Bx.new w [.slice a n c, .func (.func 129) #[] #[]] 165
 have HB0 : Hid (Below w.heap.size w (w.alloc (.cells #[.slice a n c, .func (.func 129) #[] #[]] 165))) := (belowRefl w).alloc (Nat.le_refl _) _
 have HP : Hid (TRows w a xs) := hp
 have HX : Hid (n = xs.length) := hx
 have hlt1 : w.heap.size < (w.alloc (.cells #[.slice a n c, .func (.func 129) #[] #[]] 165)).heap.size := by simp
 clear hp hx
 go_enter Tryz.func131, Tryz.ntmps131
 go_upto_region 1 with fail
 generalize (w.alloc (.cells #[.slice a n c, .func (.func 129) #[] #[]] 165)) = w0 at *
 have x0 := BA0.out.c0
 go_wp2
 go_loopw [3, 9] (fun v t wr => ∃ k : Nat, k ≤ n ∧ t = .int .i64 k ∧ Hid (GOwn encS 9 wr (w.heap.size + 1) v (nms (xs.take k))) ∧ Hid (Below w.heap.size w wr) ∧ Hid (Bx wr w.heap.size [.slice a n c, .func (.func 129) #[] #[]])) (fun _ t _ => n - (intOf t).toNat)
 case atStart => exact ⟨0, Nat.zero_le _, rfl, GOwn.nil _ _, HB0, BA0⟩
 case round =>
  clear BA0 HB0 x0 hlt1
  obtain ⟨k, hk, rfl, HO, HB, BA⟩ := hrel
  by_cases hlt : k < n
  ·have hlt' : (k : Int) < (n : Int) := by omega
   have h0 : (0 : Int) ≤ (k : Int) := by omega
   have hkx : k < xs.length := by rw [← HX.out]; exact hlt
   obtain ⟨b, o, rfl, hbl, hc, -⟩ := (HP.out.below HB.out).cls k hkx
   have HNX : Hid (nms (xs.take (k + 1)) = nms (xs.take k) ++ [xs[k].t.nm]) := by
    show _ = _
    unfold nms
    rw [List.take_add_one, List.getElem?_eq_getElem hkx, List.map_append]
    rfl
   have HLn : Hid ((nms (xs.take k)).length ≤ 100000000) := by show _ ≤ _; rw [nms_len]; exact Nat.le_trans (List.length_take_le _ _) (by omega)
   obtain ⟨x, hx⟩ : ∃ x, x = xs[k] := ⟨_, rfl⟩
   rw [← hx] at hc HNX
   clear hx hkx
   have r0 := hc.c0
   have r1 := hc.c1
   have r2 := hc.c2
   have r3 := hc.c3
   have r4 := hc.c4
   have r5 := hc.c5
   have r6 := hc.c6
   have r7 := hc.c7
   clear hc
   obtain ⟨F, hF⟩ : ∃ F, F = nms (xs.take k) := ⟨_, rfl⟩
   rw [← hF] at HO HNX HLn
   clear hF
   have hln := HLn.out
   have HB1 : Hid (Below w.heap.size w (wr.alloc (.cells #[.int .i64 x.t.id, .int .i64 x.t.st, .int .i64 x.t.snap, .int .i64 x.t.cs, .slice x.ra x.t.rs.length x.rc, .slice x.wa x.t.ws.length x.wc, .bool x.t.out, .string x.t.nm] 62))) := HB.out.alloc HB.out.size _
   have BX1 : Hid (Bx (wr.alloc (.cells #[.int .i64 x.t.id, .int .i64 x.t.st, .int .i64 x.t.snap, .int .i64 x.t.cs, .slice x.ra x.t.rs.length x.rc, .slice x.wa x.t.ws.length x.wc, .bool x.t.out, .string x.t.nm] 62)) wr.heap.size [.int .i64 x.t.id, .int .i64 x.t.st, .int .i64 x.t.snap, .int .i64 x.t.cs, .slice x.ra x.t.rs.length x.rc, .slice x.wa x.t.ws.length x.wc, .bool x.t.out, .string x.t.nm]) := Bx.new wr [.int .i64 x.t.id, .int .i64 x.t.st, .int .i64 x.t.snap, .int .i64 x.t.cs, .slice x.ra x.t.rs.length x.rc, .slice x.wa x.t.ws.length x.wc, .bool x.t.out, .string x.t.nm] 62
   have BA1 : Hid (Bx (wr.alloc (.cells #[.int .i64 x.t.id, .int .i64 x.t.st, .int .i64 x.t.snap, .int .i64 x.t.cs, .slice x.ra x.t.rs.length x.rc, .slice x.wa x.t.ws.length x.wc, .bool x.t.out, .string x.t.nm] 62)) w.heap.size [.slice (some ⟨b, o, none⟩) n c, .func (.func 129) #[] #[]]) := BA.out.alloc _
   have O1 := hide (HO.out.alloc (.cells #[.int .i64 x.t.id, .int .i64 x.t.st, .int .i64 x.t.snap, .int .i64 x.t.cs, .slice x.ra x.t.rs.length x.rc, .slice x.wa x.t.ws.length x.wc, .bool x.t.out, .string x.t.nm] 62))
   go_upto_region 5 with fail
   clear r0 r1 r2 r3 r4 r5 r6 r7 BA HO HB
   generalize (wr.alloc (.cells #[.int .i64 x.t.id, .int .i64 x.t.st, .int .i64 x.t.snap, .int .i64 x.t.cs, .slice x.ra x.t.rs.length x.rc, .slice x.wa x.t.ws.length x.wc, .bool x.t.out, .string x.t.nm] 62)) = w1 at *
   have y1 := BA1.out.c1
   have x0 := BX1.out.c0
   have x1 := BX1.out.c1
   have x2 := BX1.out.c2
   have x3 := BX1.out.c3
   have x4 := BX1.out.c4
   have x5 := BX1.out.c5
   have x6 := BX1.out.c6
   have x7 := BX1.out.c7
   have hsz := BA1.out.lt
   go_wp2_with (first | (rw [ent107]; fail) | fail)
   refine (key107 x _).mono ?_
   rintro e w2 ⟨rfl, hb2⟩
   have HB2 : Hid (Below w.heap.size w w2) := HB1.out.trans (hb2.mono HB1.out.size)
   have O2 := hide (O1.out.below hb2)
   have BA2 := hide (BA1.out.below hb2)
   have hsz2 := BA2.out.lt
   clear hb2 y1 x0 x1 x2 x3 x4 x5 x6 x7 hsz
   go_wp2_with (at_builtin; refine wpAppS rfl _ _ rfl x.t.nm rfl O2.out rfl hln (Nat.succ_le_of_lt hsz2) ?_)
   intro v' w3 ho3 hb3
   have O3 : Hid (GOwn encS 9 w3 (w.heap.size + 1) v' (F ++ [x.t.nm])) := ho3
   have HB3 : Hid (Below w.heap.size w w3) := HB2.out.trans (hb3.mono (Nat.le_succ _))
   have BA3 := hide (bx_low BA2.out hb3 (Nat.lt_succ_self _))
   clear ho3 hb3
   go_wp2
   go_roundw
   case rel => exact ⟨k + 1, by omega, by go_num, by rw [HNX.out]; exact O3, HB3, BA3⟩
   case measure => simp [intOf]; omega
  ·have hd : ¬ (k : Int) < (n : Int) := by omega
   have HE : Hid (xs.take k = xs) := List.take_of_length_le (by rw [← HX.out]; omega)
   rw [HE.out] at HO
   have HL : Hid ((nms xs).length = n) := by show _ = _; rw [nms_len, HX.out]
   obtain ⟨a1, c1, rfl, _⟩ := HO.out.row
   rw [HL.out] at HO ⊢
   go_wp2
   go_ret
   exact ⟨a1, c1, rfl, GOwn.mono HO.out (Nat.le_succ _), HB.out⟩

end Go.Proofs.YtmijppfppigjcaaGreat

namespace Go.Proofs.YtmijppfppigjcaaGreat
open Go.RowKit
open KM
open VM
attribute [local go_sem ↓] Go.wp_at_zero Go.wp_at_succ

def doneT (t : Tx) (cs : Int) : Tx := ⟨t.id, 3, t.snap, cs, t.rs, t.ws, t.out, ⟨#[]⟩⟩
def outT (t : Tx) (o : Bool) : Tx := ⟨t.id, t.st, t.snap, t.cs, t.rs, t.ws, o, t.nm⟩
def mkO (x y : Tx) : Tx := outT y (y.out || ahB y x)
def otherI (i : Int) (y : Tx) : Bool := !(y.id == i)
end Go.Proofs.YtmijppfppigjcaaGreat

namespace Go.Proofs.YtmijppfppigjcaaGreat
open Go.RowKit
open KM
attribute [local go_sem ↓] Go.wp_at_zero Go.wp_at_succ

structure TxD (t : Tx) : Prop where
 ws : WsD t.ws
 wl : t.ws.length ≤ 3
 rs : RsD t.rs
 rl : t.rs.length ≤ 3
 nm : t.nm.size ≤ 1048576
 id : 1 ≤ t.id ∧ t.id ≤ 6

end Go.Proofs.YtmijppfppigjcaaGreat

namespace Go.Proofs.YtmijppfppigjcaaGreat
open Go.RowKit
open KM
attribute [local go_sem ↓] Go.wp_at_zero Go.wp_at_succ

theorem wpAppRowR {ops : Array Oper} {rest : List Oper} {o : Oper} {a : Act} {Q : Exit → Act → World → Prop} (hgd : o.guard = none) (s x : Operand) (ho : o.op = .call { callee := .builtin .append, args := #[s, x], argTypes := #[59, 59] })
  {W : World} {base m c : Nat} {ao : Option Addr} {v : Value} {ys zs : List Rg} (hs : a.eval s = v) (hown : GOwn encR 156 W base v ys) (hx : a.eval x = .slice ao m c)
  (hsrc : (ao = none ∧ m = 0 ∧ c = 0) ∨ ∃ ad, ao = some ad ∧ ∀ j u, (encR.cells zs)[j]? = some u → W.cell? (ad.add j) = some u) (hm : zs.length = m) (hlen : ys.length + zs.length ≤ 100000000) (hB : base ≤ W.heap.size) (hne : v ≠ .slice none 0 0)
  (h : ∀ g' cap L w', L = (ys ++ zs).length → GOwn encR 156 w' base (.slice (some ⟨g', 0, none⟩) L cap) (ys ++ zs) → Below base W w' → wpList Tryz.prog ops Q rest (a.put o.dst (.slice (some ⟨g', 0, none⟩) L cap)) w') :
  wpList Tryz.prog ops Q (o :: rest) a W := by
 obtain ⟨i0, hi, hz0, hz1, hz2⟩ := info_parts Tryz.info156
 have hone : ∀ u ∈ encR.cells zs, u.oneCell' = true := fun u hu => by
  unfold Enc.cells at hu
  obtain ⟨y, _, hy⟩ := List.mem_flatMap.1 hu
  exact oneP u hy
 have key : ∃ v' w', (Builtin.append_ #[59, 59] o.type #[v, .slice ao m c]).run Tryz.prog W = .ok v' w' ∧ w'.ownsRow base 156 2 v' (ys ++ zs).length (encR.cells (ys ++ zs)) ∧ W.grownBy w' v.ownBlock ∧ v' ≠ .slice none 0 0 := by
  rw [encR.cells_app, List.length_append]
  rcases hsrc with ⟨rfl, rfl, rfl⟩ | ⟨ad, rfl, hc⟩
  ·obtain rfl : zs = [] := List.length_eq_zero_iff.1 hm
   refine ⟨v, W, run_append_owned_none (P := Tryz.prog) W base 59 o.type 156 i0 2 Tryz.underlying59 hi v _ _ hown, ?_, ⟨rfl, rfl, rfl, Nat.le_refl _, fun _ _ _ => rfl⟩, hne⟩
   have e : encR.cells ([] : List Rg) = [] := rfl
   rw [e, List.append_nil]
   exact hown
  ·obtain ⟨v', w', hr, q1, q2, q3⟩ := run_append_own (P := Tryz.prog) W base 59 o.type 156 i0 _ 2 32 Tryz.underlying59 hi hz0 hz1 hz2 rfl (by omega) v ys.length (encR.cells ys) hown ad m c (encR.cells zs) (by rw [encR.cells_len, hm]; rfl) hc hone (by unfold maxLen; omega) (by omega) hB
   refine ⟨v', w', hr, by rw [hm]; exact q1, q2, fun e => hne (q3.1 e).1⟩
 obtain ⟨v', w', hr, q1, q2, q3⟩ := key
 have hb : Below base W w' := (Below.refl _ _).grown q2 hB (fun j hj => (World.ownsRow.lt hown j hj).1)
 rcases q1.2 with ⟨hv, _⟩ | ⟨g', cap, cur, hv, _⟩
 ·exact absurd hv q3
 ·subst hv
  refine wpList_plain hgd fun K hK => ?_
  unfold Oper.wp execOp
  simp only [ho, resolve, invoke, builtin, Sem.run_bind, Sem.run_pure, Result.andThen_ok, List.map_toArray, List.map_cons, List.map_nil, hs, hx, hr]
  exact hK _ _ (h g' cap _ w' rfl q1 hb)

theorem wpAppRowW {ops : Array Oper} {rest : List Oper} {o : Oper} {a : Act} {Q : Exit → Act → World → Prop} (hgd : o.guard = none) (s x : Operand) (ho : o.op = .call { callee := .builtin .append, args := #[s, x], argTypes := #[60, 60] })
  {W : World} {base m c : Nat} {ao : Option Addr} {v : Value} {ys zs : List Wt} (hs : a.eval s = v) (hown : GOwn encW 148 W base v ys) (hx : a.eval x = .slice ao m c)
  (hsrc : (ao = none ∧ m = 0 ∧ c = 0) ∨ ∃ ad, ao = some ad ∧ ∀ j u, (encW.cells zs)[j]? = some u → W.cell? (ad.add j) = some u) (hm : zs.length = m) (hlen : ys.length + zs.length ≤ 100000000) (hB : base ≤ W.heap.size) (hne : v ≠ .slice none 0 0)
  (h : ∀ g' cap L w', L = (ys ++ zs).length → GOwn encW 148 w' base (.slice (some ⟨g', 0, none⟩) L cap) (ys ++ zs) → Below base W w' → wpList Tryz.prog ops Q rest (a.put o.dst (.slice (some ⟨g', 0, none⟩) L cap)) w') :
  wpList Tryz.prog ops Q (o :: rest) a W := by
 obtain ⟨i0, hi, hz0, hz1, hz2⟩ := info_parts Tryz.info148
 have hone : ∀ u ∈ encW.cells zs, u.oneCell' = true := fun u hu => by
  unfold Enc.cells at hu
  obtain ⟨y, _, hy⟩ := List.mem_flatMap.1 hu
  exact wone u hy
 have key : ∃ v' w', (Builtin.append_ #[60, 60] o.type #[v, .slice ao m c]).run Tryz.prog W = .ok v' w' ∧ w'.ownsRow base 148 3 v' (ys ++ zs).length (encW.cells (ys ++ zs)) ∧ W.grownBy w' v.ownBlock ∧ v' ≠ .slice none 0 0 := by
  rw [encW.cells_app, List.length_append]
  rcases hsrc with ⟨rfl, rfl, rfl⟩ | ⟨ad, rfl, hc⟩
  ·obtain rfl : zs = [] := List.length_eq_zero_iff.1 hm
   refine ⟨v, W, run_append_owned_none (P := Tryz.prog) W base 60 o.type 148 i0 3 Tryz.underlying60 hi v _ _ hown, ?_, ⟨rfl, rfl, rfl, Nat.le_refl _, fun _ _ _ => rfl⟩, hne⟩
   have e : encW.cells ([] : List Wt) = [] := rfl
   rw [e, List.append_nil]
   exact hown
  ·obtain ⟨v', w', hr, q1, q2, q3⟩ := run_append_own (P := Tryz.prog) W base 60 o.type 148 i0 _ 3 40 Tryz.underlying60 hi hz0 hz1 hz2 rfl (by omega) v ys.length (encW.cells ys) hown ad m c (encW.cells zs) (by rw [encW.cells_len, hm]; rfl) hc hone (by unfold maxLen; omega) (by omega) hB
   refine ⟨v', w', hr, by rw [hm]; exact q1, q2, fun e => hne (q3.1 e).1⟩
 obtain ⟨v', w', hr, q1, q2, q3⟩ := key
 have hb : Below base W w' := (Below.refl _ _).grown q2 hB (fun j hj => (World.ownsRow.lt hown j hj).1)
 rcases q1.2 with ⟨hv, _⟩ | ⟨g', cap, cur, hv, _⟩
 ·exact absurd hv q3
 ·subst hv
  refine wpList_plain hgd fun K hK => ?_
  unfold Oper.wp execOp
  simp only [ho, resolve, invoke, builtin, Sem.run_bind, Sem.run_pure, Result.andThen_ok, List.map_toArray, List.map_cons, List.map_nil, hs, hx, hr]
  exact hK _ _ (h g' cap _ w' rfl q1 hb)

theorem gshape {α : Type} {E : Enc α} {e : TypeId} {W : World} {base : Nat} {v : Value} {l : List α} (h : GOwn E e W base v l) : v = .slice none 0 0 ∧ l = [] ∨ ∃ g cap, v = .slice (some ⟨g, 0, none⟩) l.length cap := by
 rcases h.2 with ⟨rfl, h0⟩ | ⟨g, cap, cur, rfl, _, _, hnc, _⟩
 ·exact Or.inl ⟨rfl, List.length_eq_zero_iff.1 h0⟩
 ·exact Or.inr ⟨g, cap, rfl⟩
theorem Lies.low {α : Type} {E : Enc α} {e : TypeId} {w w' : World} {lo hi B : Nat} {v : Value} {xs : List α} (h : Lies E e w lo hi v xs) (hb : Below B w w') (hB : hi ≤ B := by first | exact Nat.le_refl _ | omega) : Lies E e w' lo hi v xs := by
 refine ⟨?_, h.up⟩
 obtain ⟨h1, h2⟩ := h.own
 refine ⟨h1, ?_⟩
 rcases h2 with h2 | ⟨g, cap, cur, hv, hg', hh, r⟩
 ·exact Or.inl h2
 ·refine Or.inr ⟨g, cap, cur, hv, hg', ?_, r⟩
  have hup := h.up g (by rw [hv]; rfl)
  rw [hb.block g (by omega)]
  exact hh
theorem gsrc {α : Type} {E : Enc α} {e : TypeId} {W : World} {base c : Nat} {a : Option Addr} {l : List α} (h : GOwn E e W base (.slice a l.length c) l) : (a = none ∧ l.length = 0 ∧ c = 0) ∨ ∃ ad, a = some ad ∧ ∀ j u, (E.cells l)[j]? = some u → W.cell? (ad.add j) = some u := by
 rcases gshape h with ⟨e1, e2⟩ | ⟨g, cap, e1⟩
 ·subst e2
  cases e1
  exact Or.inl ⟨rfl, rfl, rfl⟩
 ·cases e1
  refine Or.inr ⟨_, rfl, fun j u hj => ?_⟩
  have hjl : j < l.length * E.size := by
   have := (List.getElem?_eq_some_iff.1 hj).1
   rw [E.cells_len] at this; exact this
  rw [Addr.add_lit, Nat.zero_add, World.ownsRow.cellAt h j hjl]
  exact hj

set_option maxRecDepth 100000 in
set_option maxHeartbeats 4000000 in
theorem scopyT (t : Tx) (ra wa : Option Addr) (rc wc : Nat) (lo m : Nat) (hr : t.rs.length ≤ 10000000) (hw : t.ws.length ≤ 10000000) (w : World) (h1 : GOwn encR 156 w lo (.slice ra t.rs.length rc) t.rs) (h2 : GOwn encW 148 w m (.slice wa t.ws.length wc) t.ws) :
  Calls Tryz.prog 51 #[.agg #[.int .i64 t.id, .int .i64 t.st, .int .i64 t.snap, .int .i64 t.cs, .slice ra t.rs.length rc, .slice wa t.ws.length wc, .bool t.out, .string t.nm]] w fun e w' => ∃ ra1 rc1 wa1 wc1, e = .returned (.agg #[.int .i64 t.id, .int .i64 t.st, .int .i64 t.snap, .int .i64 t.cs, .slice ra1 t.rs.length rc1, .slice wa1 t.ws.length wc1, .bool t.out, .string t.nm]) ∧ TLie w' w.heap.size w'.heap.size t ra1 rc1 wa1 wc1 ∧ Below w.heap.size w w' := by
 have BA0 : Hid (Bx (((w.alloc (.cells #[.int .i64 t.id, .int .i64 t.st, .int .i64 t.snap, .int .i64 t.cs, .slice ra t.rs.length rc, .slice wa t.ws.length wc, .bool t.out, .string t.nm] 62)).alloc (.cells #[.int .i64 0, .int .i64 0, .int .i64 0, .int .i64 0, .slice none 0 0, .slice none 0 0, .bool false, .string ⟨#[]⟩] 62)).alloc (.cells #[.int .i64 t.id, .int .i64 t.st, .int .i64 t.snap, .int .i64 t.cs, .slice ra t.rs.length rc, .slice wa t.ws.length wc, .bool t.out, .string t.nm] 62)) w.heap.size [.int .i64 t.id, .int .i64 t.st, .int .i64 t.snap, .int .i64 t.cs, .slice ra t.rs.length rc, .slice wa t.ws.length wc, .bool t.out, .string t.nm]) := ((Bx.new w [.int .i64 t.id, .int .i64 t.st, .int .i64 t.snap, .int .i64 t.cs, .slice ra t.rs.length rc, .slice wa t.ws.length wc, .bool t.out, .string t.nm] 62).alloc _).alloc _
 have BR0 : Hid (Bx (((w.alloc (.cells #[.int .i64 t.id, .int .i64 t.st, .int .i64 t.snap, .int .i64 t.cs, .slice ra t.rs.length rc, .slice wa t.ws.length wc, .bool t.out, .string t.nm] 62)).alloc (.cells #[.int .i64 0, .int .i64 0, .int .i64 0, .int .i64 0, .slice none 0 0, .slice none 0 0, .bool false, .string ⟨#[]⟩] 62)).alloc (.cells #[.int .i64 t.id, .int .i64 t.st, .int .i64 t.snap, .int .i64 t.cs, .slice ra t.rs.length rc, .slice wa t.ws.length wc, .bool t.out, .string t.nm] 62)) (w.heap.size + 1) [.int .i64 0, .int .i64 0, .int .i64 0, .int .i64 0, .slice none 0 0, .slice none 0 0, .bool false, .string ⟨#[]⟩]) := by
  have h := (Bx.new (w.alloc (.cells #[.int .i64 t.id, .int .i64 t.st, .int .i64 t.snap, .int .i64 t.cs, .slice ra t.rs.length rc, .slice wa t.ws.length wc, .bool t.out, .string t.nm] 62)) [.int .i64 0, .int .i64 0, .int .i64 0, .int .i64 0, .slice none 0 0, .slice none 0 0, .bool false, .string ⟨#[]⟩] 62).alloc (.cells #[.int .i64 t.id, .int .i64 t.st, .int .i64 t.snap, .int .i64 t.cs, .slice ra t.rs.length rc, .slice wa t.ws.length wc, .bool t.out, .string t.nm] 62)
  rw [show (w.alloc (.cells #[.int .i64 t.id, .int .i64 t.st, .int .i64 t.snap, .int .i64 t.cs, .slice ra t.rs.length rc, .slice wa t.ws.length wc, .bool t.out, .string t.nm] 62)).heap.size = w.heap.size + 1 by simp] at h
  exact h
 have BO0 : Hid (Bx (((w.alloc (.cells #[.int .i64 t.id, .int .i64 t.st, .int .i64 t.snap, .int .i64 t.cs, .slice ra t.rs.length rc, .slice wa t.ws.length wc, .bool t.out, .string t.nm] 62)).alloc (.cells #[.int .i64 0, .int .i64 0, .int .i64 0, .int .i64 0, .slice none 0 0, .slice none 0 0, .bool false, .string ⟨#[]⟩] 62)).alloc (.cells #[.int .i64 t.id, .int .i64 t.st, .int .i64 t.snap, .int .i64 t.cs, .slice ra t.rs.length rc, .slice wa t.ws.length wc, .bool t.out, .string t.nm] 62)) (w.heap.size + 1 + 1) [.int .i64 t.id, .int .i64 t.st, .int .i64 t.snap, .int .i64 t.cs, .slice ra t.rs.length rc, .slice wa t.ws.length wc, .bool t.out, .string t.nm]) := by
  have h := Bx.new ((w.alloc (.cells #[.int .i64 t.id, .int .i64 t.st, .int .i64 t.snap, .int .i64 t.cs, .slice ra t.rs.length rc, .slice wa t.ws.length wc, .bool t.out, .string t.nm] 62)).alloc (.cells #[.int .i64 0, .int .i64 0, .int .i64 0, .int .i64 0, .slice none 0 0, .slice none 0 0, .bool false, .string ⟨#[]⟩] 62)) [.int .i64 t.id, .int .i64 t.st, .int .i64 t.snap, .int .i64 t.cs, .slice ra t.rs.length rc, .slice wa t.ws.length wc, .bool t.out, .string t.nm] 62
  rw [show ((w.alloc (.cells #[.int .i64 t.id, .int .i64 t.st, .int .i64 t.snap, .int .i64 t.cs, .slice ra t.rs.length rc, .slice wa t.ws.length wc, .bool t.out, .string t.nm] 62)).alloc (.cells #[.int .i64 0, .int .i64 0, .int .i64 0, .int .i64 0, .slice none 0 0, .slice none 0 0, .bool false, .string ⟨#[]⟩] 62)).heap.size = w.heap.size + 1 + 1 by simp] at h
  exact h
 have HB0 : Hid (Below w.heap.size w (((w.alloc (.cells #[.int .i64 t.id, .int .i64 t.st, .int .i64 t.snap, .int .i64 t.cs, .slice ra t.rs.length rc, .slice wa t.ws.length wc, .bool t.out, .string t.nm] 62)).alloc (.cells #[.int .i64 0, .int .i64 0, .int .i64 0, .int .i64 0, .slice none 0 0, .slice none 0 0, .bool false, .string ⟨#[]⟩] 62)).alloc (.cells #[.int .i64 t.id, .int .i64 t.st, .int .i64 t.snap, .int .i64 t.cs, .slice ra t.rs.length rc, .slice wa t.ws.length wc, .bool t.out, .string t.nm] 62))) := (((belowRefl w).alloc (Nat.le_refl _) _).alloc (by simp) _).alloc (by simp; omega) _
 have S0 : Hid ((((w.alloc (.cells #[.int .i64 t.id, .int .i64 t.st, .int .i64 t.snap, .int .i64 t.cs, .slice ra t.rs.length rc, .slice wa t.ws.length wc, .bool t.out, .string t.nm] 62)).alloc (.cells #[.int .i64 0, .int .i64 0, .int .i64 0, .int .i64 0, .slice none 0 0, .slice none 0 0, .bool false, .string ⟨#[]⟩] 62)).alloc (.cells #[.int .i64 t.id, .int .i64 t.st, .int .i64 t.snap, .int .i64 t.cs, .slice ra t.rs.length rc, .slice wa t.ws.length wc, .bool t.out, .string t.nm] 62)).heap.size = w.heap.size + 1 + 1 + 1) := by show _ = _; simp
 have P1 : Hid (GOwn encR 156 w lo (.slice ra t.rs.length rc) t.rs) := h1
 have P2 : Hid (GOwn encW 148 w m (.slice wa t.ws.length wc) t.ws) := h2
 clear h1 h2
 have HE : Hid (GOwn encR 156 ((((w.alloc (.cells #[.int .i64 t.id, .int .i64 t.st, .int .i64 t.snap, .int .i64 t.cs, .slice ra t.rs.length rc, .slice wa t.ws.length wc, .bool t.out, .string t.nm] 62)).alloc (.cells #[.int .i64 0, .int .i64 0, .int .i64 0, .int .i64 0, .slice none 0 0, .slice none 0 0, .bool false, .string ⟨#[]⟩] 62)).alloc (.cells #[.int .i64 t.id, .int .i64 t.st, .int .i64 t.snap, .int .i64 t.cs, .slice ra t.rs.length rc, .slice wa t.ws.length wc, .bool t.out, .string t.nm] 62)).alloc (.cells #[] 156)) (w.heap.size + 1 + 1 + 1) (.slice (some ⟨w.heap.size + 1 + 1 + 1, 0, none⟩) 0 0) []) := by
  have h := GOwn.empty (E := encR) (e := 156) (((w.alloc (.cells #[.int .i64 t.id, .int .i64 t.st, .int .i64 t.snap, .int .i64 t.cs, .slice ra t.rs.length rc, .slice wa t.ws.length wc, .bool t.out, .string t.nm] 62)).alloc (.cells #[.int .i64 0, .int .i64 0, .int .i64 0, .int .i64 0, .slice none 0 0, .slice none 0 0, .bool false, .string ⟨#[]⟩] 62)).alloc (.cells #[.int .i64 t.id, .int .i64 t.st, .int .i64 t.snap, .int .i64 t.cs, .slice ra t.rs.length rc, .slice wa t.ws.length wc, .bool t.out, .string t.nm] 62)) (w.heap.size + 1 + 1 + 1) (by rw [S0.out]; exact Nat.le_refl _)
  rw [S0.out] at h
  exact h
 have HB0e : Hid (Below w.heap.size w ((((w.alloc (.cells #[.int .i64 t.id, .int .i64 t.st, .int .i64 t.snap, .int .i64 t.cs, .slice ra t.rs.length rc, .slice wa t.ws.length wc, .bool t.out, .string t.nm] 62)).alloc (.cells #[.int .i64 0, .int .i64 0, .int .i64 0, .int .i64 0, .slice none 0 0, .slice none 0 0, .bool false, .string ⟨#[]⟩] 62)).alloc (.cells #[.int .i64 t.id, .int .i64 t.st, .int .i64 t.snap, .int .i64 t.cs, .slice ra t.rs.length rc, .slice wa t.ws.length wc, .bool t.out, .string t.nm] 62)).alloc (.cells #[] 156))) := HB0.out.alloc HB0.out.size _
 have P1e := hide (gsrc (P1.out.below HB0e.out))
 have x4 := (BA0.out.alloc (.cells #[] 156)).c4
 have sz1 : w.heap.size + 1 + 1 + 1 ≤ ((((w.alloc (.cells #[.int .i64 t.id, .int .i64 t.st, .int .i64 t.snap, .int .i64 t.cs, .slice ra t.rs.length rc, .slice wa t.ws.length wc, .bool t.out, .string t.nm] 62)).alloc (.cells #[.int .i64 0, .int .i64 0, .int .i64 0, .int .i64 0, .slice none 0 0, .slice none 0 0, .bool false, .string ⟨#[]⟩] 62)).alloc (.cells #[.int .i64 t.id, .int .i64 t.st, .int .i64 t.snap, .int .i64 t.cs, .slice ra t.rs.length rc, .slice wa t.ws.length wc, .bool t.out, .string t.nm] 62)).alloc (.cells #[] 156)).heap.size := by rw [World.size_alloc, S0.out]; omega
 go_enter Tryz.func51, Tryz.ntmps51
 go_wp2_with (at_builtin; refine wpAppRowR (v := .slice (some ⟨w.heap.size + 1 + 1 + 1, 0, none⟩) 0 0) rfl _ _ rfl rfl HE.out rfl P1e.out rfl (by simp; omega) sz1 (fun h => by cases h) ?_)
 intro g1 cap1 L1 w1 hL1 ho1 hb1
 obtain rfl : L1 = t.rs.length := by simpa using hL1
 have BA1 := hide ((BA0.out.alloc (.cells #[] 156)).belowB hb1 (by omega))
 have BR1 := hide ((BR0.out.alloc (.cells #[] 156)).belowB hb1 (by omega))
 have BO1 := hide ((BO0.out.alloc (.cells #[] 156)).belowB hb1 (by omega))
 have HBe : Hid (Below (w.heap.size + 1 + 1 + 1) (((w.alloc (.cells #[.int .i64 t.id, .int .i64 t.st, .int .i64 t.snap, .int .i64 t.cs, .slice ra t.rs.length rc, .slice wa t.ws.length wc, .bool t.out, .string t.nm] 62)).alloc (.cells #[.int .i64 0, .int .i64 0, .int .i64 0, .int .i64 0, .slice none 0 0, .slice none 0 0, .bool false, .string ⟨#[]⟩] 62)).alloc (.cells #[.int .i64 t.id, .int .i64 t.st, .int .i64 t.snap, .int .i64 t.cs, .slice ra t.rs.length rc, .slice wa t.ws.length wc, .bool t.out, .string t.nm] 62)) w1) := by
  have h := (belowRefl (((w.alloc (.cells #[.int .i64 t.id, .int .i64 t.st, .int .i64 t.snap, .int .i64 t.cs, .slice ra t.rs.length rc, .slice wa t.ws.length wc, .bool t.out, .string t.nm] 62)).alloc (.cells #[.int .i64 0, .int .i64 0, .int .i64 0, .int .i64 0, .slice none 0 0, .slice none 0 0, .bool false, .string ⟨#[]⟩] 62)).alloc (.cells #[.int .i64 t.id, .int .i64 t.st, .int .i64 t.snap, .int .i64 t.cs, .slice ra t.rs.length rc, .slice wa t.ws.length wc, .bool t.out, .string t.nm] 62))).alloc (Nat.le_refl _) (.cells #[] 156)
  rw [S0.out] at h
  exact h.trans hb1
 have HB1 : Hid (Below w.heap.size w w1) := HB0.out.trans (HBe.out.mono (by omega))
 have hs1 := HBe.out.size
 rw [S0.out] at hs1
 have SZ1 : Hid (w.heap.size + 1 + 1 + 1 ≤ w1.heap.size) := hs1
 have L1 : Hid (Lies encR 156 w1 (w.heap.size + 1 + 1 + 1) w1.heap.size (.slice (some ⟨g1, 0, none⟩) t.rs.length cap1) t.rs) := Lies.of ho1
 clear hL1 ho1 hb1 hs1 HBe HE P1e P1 x4 BA0 BR0 BO0 HB0 HB0e sz1
 have o4 := BO1.out.c4
 have f4 := BO1.out.fz 4
 have x5 := ((BA1.out.setO (p := ⟨w.heap.size + 1 + 1, 4, none⟩) (by show w.heap.size + 1 + 1 ≠ w.heap.size; omega) (.slice (some ⟨g1, 0, none⟩) t.rs.length cap1)).alloc (.cells #[] 148)).c5
 have ZS : Hid ((w1.setCell ⟨w.heap.size + 1 + 1, 4, none⟩ (.slice (some ⟨g1, 0, none⟩) t.rs.length cap1)).heap.size = w1.heap.size) := by show _ = _; simp [World.setCell]
 have HE2 : Hid (GOwn encW 148 ((w1.setCell ⟨w.heap.size + 1 + 1, 4, none⟩ (.slice (some ⟨g1, 0, none⟩) t.rs.length cap1)).alloc (.cells #[] 148)) w1.heap.size (.slice (some ⟨w1.heap.size, 0, none⟩) 0 0) []) := by
  have h := GOwn.empty (E := encW) (e := 148) (w1.setCell ⟨w.heap.size + 1 + 1, 4, none⟩ (.slice (some ⟨g1, 0, none⟩) t.rs.length cap1)) w1.heap.size (by rw [ZS.out]; exact Nat.le_refl _)
  rw [ZS.out] at h
  exact h
 have HB1s : Hid (Below w.heap.size w (w1.setCell ⟨w.heap.size + 1 + 1, 4, none⟩ (.slice (some ⟨g1, 0, none⟩) t.rs.length cap1))) := HB1.out.setCell (by show _ ≤ _ + 1 + 1; omega) _
 have P2e := hide (gsrc (P2.out.below (HB1s.out.alloc HB1s.out.size (.cells #[] 148))))
 have BR1s : Hid (Bx (w1.setCell ⟨w.heap.size + 1 + 1, 4, none⟩ (.slice (some ⟨g1, 0, none⟩) t.rs.length cap1)) (w.heap.size + 1) [.int .i64 0, .int .i64 0, .int .i64 0, .int .i64 0, .slice none 0 0, .slice none 0 0, .bool false, .string ⟨#[]⟩]) := BR1.out.setO (by show w.heap.size + 1 + 1 ≠ w.heap.size + 1; omega) _
 have BO1s : Hid (Bx (w1.setCell ⟨w.heap.size + 1 + 1, 4, none⟩ (.slice (some ⟨g1, 0, none⟩) t.rs.length cap1)) (w.heap.size + 1 + 1) [.int .i64 t.id, .int .i64 t.st, .int .i64 t.snap, .int .i64 t.cs, .slice (some ⟨g1, 0, none⟩) t.rs.length cap1, .slice wa t.ws.length wc, .bool t.out, .string t.nm]) := BO1.out.set 4 _
 have L1s : Hid (Lies encR 156 (w1.setCell ⟨w.heap.size + 1 + 1, 4, none⟩ (.slice (some ⟨g1, 0, none⟩) t.rs.length cap1)) (w.heap.size + 1 + 1 + 1) w1.heap.size (.slice (some ⟨g1, 0, none⟩) t.rs.length cap1) t.rs) := L1.out.set (by show _ + 1 + 1 < _; omega) _
 have sz2 : w1.heap.size ≤ ((w1.setCell ⟨w.heap.size + 1 + 1, 4, none⟩ (.slice (some ⟨g1, 0, none⟩) t.rs.length cap1)).alloc (.cells #[] 148)).heap.size := by rw [World.size_alloc, ZS.out]; omega
 go_wp2_with (at_builtin; refine wpAppRowW (v := .slice (some ⟨w1.heap.size, 0, none⟩) 0 0) rfl _ _ rfl rfl HE2.out rfl P2e.out rfl (by simp; omega) sz2 (fun h => by cases h) ?_)
 intro g2 cap2 L2 w2 hL2 ho2 hb2
 obtain rfl : L2 = t.ws.length := by simpa using hL2
 have BR2 := hide ((BR1s.out.alloc (.cells #[] 148)).belowB hb2 (by have := SZ1.out; omega))
 have BO2 := hide ((BO1s.out.alloc (.cells #[] 148)).belowB hb2 (by have := SZ1.out; omega))
 have HB2 : Hid (Below w.heap.size w w2) := (HB1s.out.alloc HB1s.out.size _).trans (hb2.mono (by have := SZ1.out; omega))
 have L1t := L1s.out.below ((belowRefl (w1.setCell ⟨w.heap.size + 1 + 1, 4, none⟩ (.slice (some ⟨g1, 0, none⟩) t.rs.length cap1))).alloc (Nat.le_refl _) (.cells #[] 148))
 have L1u : Hid (Lies encR 156 w2 (w.heap.size + 1 + 1 + 1) w1.heap.size (.slice (some ⟨g1, 0, none⟩) t.rs.length cap1) t.rs) := L1t.low hb2
 have SZ2 : Hid (w1.heap.size ≤ w2.heap.size) := Nat.le_trans sz2 hb2.size
 have L2 : Hid (TLie w2 (w.heap.size + 1 + 1 + 1) w2.heap.size t (some ⟨g1, 0, none⟩) cap1 (some ⟨g2, 0, none⟩) cap2) := ⟨w1.heap.size, SZ1.out, SZ2.out, L1u.out, Lies.of ho2⟩
 clear hL2 ho2 hb2 HE2 P2e x5 o4 f4 BA1 BR1 BO1 BR1s BO1s L1 L1s L1t L1u HB1 HB1s sz2
 have o0 := BO2.out.c0
 have q0 := BR2.out.c0
 have fq0 := BR2.out.fz 0
 have o1 := BO2.out.c1
 have q1 := BR2.out.c1
 have fq1 := BR2.out.fz 1
 have o2 := BO2.out.c2
 have q2 := BR2.out.c2
 have fq2 := BR2.out.fz 2
 have o3 := BO2.out.c3
 have q3 := BR2.out.c3
 have fq3 := BR2.out.fz 3
 have o4 := BO2.out.c4
 have q4 := BR2.out.c4
 have fq4 := BR2.out.fz 4
 have o5 := BO2.out.c5
 have q5 := BR2.out.c5
 have fq5 := BR2.out.fz 5
 have o6 := BO2.out.c6
 have q6 := BR2.out.c6
 have fq6 := BR2.out.fz 6
 have o7 := BO2.out.c7
 have q7 := BR2.out.c7
 have fq7 := BR2.out.fz 7
 have f5 := BO2.out.fz 5
 go_wp2
 refine bodyPost_ret (v := .agg #[.int .i64 t.id, .int .i64 t.st, .int .i64 t.snap, .int .i64 t.cs, .slice (some ⟨g1, 0, none⟩) t.rs.length cap1, .slice (some ⟨g2, 0, none⟩) t.ws.length cap2, .bool t.out, .string t.nm]) (by simp [results, Tryz.results51, go_sem, q0, q1, q2, q3, q4, q5, q6, q7]) rfl ⟨_, cap1, _, cap2, rfl, ?_, ?_⟩
 ·exact (((((((((L2.out.set (by show _ + 1 + 1 < _; omega) _).set (by show _ + 1 < _; omega) _).set (by show _ + 1 < _; omega) _).set (by show _ + 1 < _; omega) _).set (by show _ + 1 < _; omega) _).set (by show _ + 1 < _; omega) _).set (by show _ + 1 < _; omega) _).set (by show _ + 1 < _; omega) _).set (by show _ + 1 < _; omega) _).mono (by omega) (by simp [World.setCell])
 ·exact (((((((((HB2.out.setCell (by show _ ≤ _ + 1 + 1; omega) _).setCell (by show _ ≤ _ + 1; omega) _).setCell (by show _ ≤ _ + 1; omega) _).setCell (by show _ ≤ _ + 1; omega) _).setCell (by show _ ≤ _ + 1; omega) _).setCell (by show _ ≤ _ + 1; omega) _).setCell (by show _ ≤ _ + 1; omega) _).setCell (by show _ ≤ _ + 1; omega) _).setCell (by show _ ≤ _ + 1; omega) _)

end Go.Proofs.YtmijppfppigjcaaGreat

/- All of a list in a state; lists put together. -/
import Derived.Test.YtpnnncfbodfnhaaGreatDoorPr11
import Derived.Lib.AppendZeros
import Derived.Deep.RegionHeld3
import Derived.Deep.Cut
import Derived.Deep.CutRange
import Derived.Laws.EntriesVeiled
import Derived.Shelf.Sort.Plain
import Derived.Ground.Names2Prog
import Derived.Shelf.Slices.CompactI
import Derived.Shelf.Slices.CompactS
import Derived.Shelf.Slices.Cells
import Derived.Shelf.Slices.In.SortNone
import Derived.Test.YtpnnncfbodfnhaaGreatDoorProg
import Derived.Sort.OwnSortedInts
import Derived.Test.YtpnnncfbodfnhaaGreatDoorPr10
import Derived.Test.YtpnnncfbodfnhaaGreatDoorPr07
namespace Go.Proofs.YtpnnncfbodfnhaaGreatDoor
open Go.RowKit
open KM
attribute [local go_sem ↓] Go.wp_at_zero Go.wp_at_succ

theorem all_more {α : Type} {p : α → Bool} {xs : List α} {k : Nat} (hk : k < xs.length) (h : (xs.take k).all p = true) (h2 : p xs[k] = true) : (xs.take (k + 1)).all p = true := by
 rw [List.take_add_one, List.getElem?_eq_getElem hk, List.all_append, h]
 simp [h2]
theorem all_no {α : Type} {p : α → Bool} {xs : List α} (k : Nat) (hk : k < xs.length) (h2 : p xs[k] = false) : xs.all p = false := by
 rw [List.all_eq_false]
 exact ⟨xs[k], List.getElem_mem hk, by rw [h2]; simp⟩
def inStB (st : Int) (x : Ta) : Bool := txnB x.t && decide (x.t.st = st)

set_option maxRecDepth 100000 in
set_option maxHeartbeats 2000000 in
theorem allin38 (xs : List Ta) (a : Option Addr) (c n : Nat) (st : Int) (hx : n = xs.length) (hn : n ≤ 10000000) (fx : LFit (txs xs)) (w : World) (hp : TRows w a xs) :
  Calls Tryz.prog 139 #[.slice a n c, .int .i64 st] w fun e w' => e = .returned (.bool (xs.all (inStB st))) ∧ Below w.heap.size w w' := by
 have HP : Hid (TRows w a xs) := hp
 have HX : Hid (n = xs.length) := hx
 have HF : Hid (LFit (txs xs)) := fx
 clear hp hx fx
 go_enter Tryz.func139, Tryz.ntmps139
 go_wp2
 go_loopw [9] (fun t wr => ∃ k : Nat, k ≤ n ∧ t = .int .i64 k ∧ Hid ((xs.take k).all (inStB st) = true) ∧ Hid (Below w.heap.size w wr)) (fun t _ => n - (intOf t).toNat)
 case atStart => exact ⟨0, Nat.zero_le _, rfl, rfl, belowRefl w⟩
 case round =>
  obtain ⟨k, hk, rfl, HA, HB⟩ := hrel
  by_cases hlt : k < n
  ·have hlt' : (k : Int) < (n : Int) := by omega
   have h0 : (0 : Int) ≤ (k : Int) := by omega
   have hkx : k < xs.length := by rw [← HX.out]; exact hlt
   obtain ⟨b, o, rfl, hbl, hc, ht⟩ := (HP.out.below HB.out).cls k hkx
   have hfx : TFit xs[k].t := HF.out.2 _ (List.mem_map.2 ⟨_, List.getElem_mem hkx, rfl⟩)
   have HY : Hid (inStB st xs[k] = true → (xs.take (k + 1)).all (inStB st) = true) := fun h => all_more hkx HA.out h
   have HN : Hid (inStB st xs[k] = false → xs.all (inStB st) = false) := fun h => all_no k hkx h
   obtain ⟨x, hx⟩ : ∃ x, x = xs[k] := ⟨_, rfl⟩
   rw [← hx] at hc HY HN hfx ht
   clear hx hkx HA
   have r0 := hc.c0
   have r1 := hc.c1
   have r2 := hc.c2
   have r3 := hc.c3
   have r4 := hc.c4
   have r5 := hc.c5
   have r6 := hc.c6
   have r7 := hc.c7
   clear hc
   have HB1 : Hid (Below w.heap.size w (wr.alloc (.cells #[.int .i64 x.t.id, .int .i64 x.t.st, .int .i64 x.t.snap, .int .i64 x.t.cs, .slice x.ra x.t.rs.length x.rc, .slice x.wa x.t.ws.length x.wc, .bool x.t.out, .string x.t.nm] 38))) := HB.out.alloc HB.out.size _
   have BX1 : Hid (Bx (wr.alloc (.cells #[.int .i64 x.t.id, .int .i64 x.t.st, .int .i64 x.t.snap, .int .i64 x.t.cs, .slice x.ra x.t.rs.length x.rc, .slice x.wa x.t.ws.length x.wc, .bool x.t.out, .string x.t.nm] 38)) wr.heap.size [.int .i64 x.t.id, .int .i64 x.t.st, .int .i64 x.t.snap, .int .i64 x.t.cs, .slice x.ra x.t.rs.length x.rc, .slice x.wa x.t.ws.length x.wc, .bool x.t.out, .string x.t.nm]) := Bx.new wr [.int .i64 x.t.id, .int .i64 x.t.st, .int .i64 x.t.snap, .int .i64 x.t.cs, .slice x.ra x.t.rs.length x.rc, .slice x.wa x.t.ws.length x.wc, .bool x.t.out, .string x.t.nm] 38
   have T1 : Hid (TRow (wr.alloc (.cells #[.int .i64 x.t.id, .int .i64 x.t.st, .int .i64 x.t.snap, .int .i64 x.t.cs, .slice x.ra x.t.rs.length x.rc, .slice x.wa x.t.ws.length x.wc, .bool x.t.out, .string x.t.nm] 38)) x.t x.ra x.wa) := ht.below ((belowRefl wr).alloc (Nat.le_refl _) _)
   have HC := hide (itxn x.t x.ra x.wa x.rc x.wc (Nat.le_trans hfx.1 (by omega)) (Nat.le_trans hfx.2.2.1 (by omega)) (wr.alloc (.cells #[.int .i64 x.t.id, .int .i64 x.t.st, .int .i64 x.t.snap, .int .i64 x.t.cs, .slice x.ra x.t.rs.length x.rc, .slice x.wa x.t.ws.length x.wc, .bool x.t.out, .string x.t.nm] 38)) T1.out)
   clear ht hfx T1
   go_upto_region 4 with fail
   clear r0 r1 r2 r3 r4 r5 r6 r7
   generalize (wr.alloc (.cells #[.int .i64 x.t.id, .int .i64 x.t.st, .int .i64 x.t.snap, .int .i64 x.t.cs, .slice x.ra x.t.rs.length x.rc, .slice x.wa x.t.ws.length x.wc, .bool x.t.out, .string x.t.nm] 38)) = w1 at *
   have x0 := BX1.out.c0
   have x1 := BX1.out.c1
   have x2 := BX1.out.c2
   have x3 := BX1.out.c3
   have x4 := BX1.out.c4
   have x5 := BX1.out.c5
   have x6 := BX1.out.c6
   have x7 := BX1.out.c7
   cases ht : txnB x.t
   ·rw [ht] at HC
    have HR := hide (HN.out (by unfold inStB; rw [ht]; rfl))
    clear HY HN ht
    go_wp2_with fail
    refine HC.out.mono ?_
    rintro e w2 ⟨rfl, hb2⟩
    have HB2 : Hid (Below w.heap.size w w2) := HB1.out.trans (hb2.mono HB1.out.size)
    go_wp2
    go_ret
    exact ⟨ret_bool HR.out.symm, HB2.out⟩
   ·rw [ht] at HC
    have HY2 : Hid ((x.t.st == st) = true → (xs.take (k + 1)).all (inStB st) = true) := fun h => HY.out (by unfold inStB; rw [ht]; simpa using h)
    have HN2 : Hid ((x.t.st == st) = false → xs.all (inStB st) = false) := fun h => HN.out (by unfold inStB; rw [ht]; simpa using h)
    clear HY HN ht
    go_wp2_with fail
    refine HC.out.mono ?_
    rintro e w2 ⟨rfl, hb2⟩
    have HB2 : Hid (Below w.heap.size w w2) := HB1.out.trans (hb2.mono HB1.out.size)
    have BX2 := hide (BX1.out.below hb2)
    clear hb2 x0 x1 x2 x3 x4 x5 x6 x7
    have x1 := BX2.out.c1
    cases hq : (x.t.st == st)
    ·have HR := hide (HN2.out hq)
     have hq1 : (x.t.st != st) = true := by unfold bne; rw [hq]; rfl
     have hq2 : ¬ x.t.st = st := by simpa using hq
     clear HY2 HN2
     go_wp2
     go_ret
     exact ⟨ret_bool HR.out.symm, HB2.out⟩
    ·have HR := hide (HY2.out hq)
     have hq1 : (x.t.st != st) = false := by unfold bne; rw [hq]; rfl
     have hq2 : x.t.st = st := by simpa using hq
     rw [hq2] at x1
     clear HY2 HN2 hq hq1 hq2
     have hq1 : (st != st) = false := by simp
     go_wp2
     go_roundw
     case rel => exact ⟨k + 1, by omega, by go_num, HR, HB2⟩
     case measure => simp [intOf]; omega
  ·have hd : ¬ (k : Int) < (n : Int) := by omega
   have HR : Hid (true = xs.all (inStB st)) := by
    show _ = _
    have h := HA.out
    rw [List.take_of_length_le (by rw [← HX.out]; omega)] at h
    exact h.symm
   clear HA
   go_wp2
   go_ret
   exact ⟨ret_bool HR.out, HB.out⟩

structure Sl where
 a : Option Addr
 n : Nat
 c : Nat
 xs : List Ta
def encSl : Enc Sl := ⟨fun s => [.slice s.a s.n s.c], 1, by decide, fun _ => rfl⟩
theorem slat {w : World} {b off : Nat} {ss : List Sl} (hc : ∀ j (hj : j < ss.length) i, i < encSl.size → w.cell? ⟨b, off + j * encSl.size + i, none⟩ = (encSl.enc ss[j])[i]?) (j : Nat) (hj : j < ss.length) : w.cell? ⟨b, off + j, none⟩ = some (.slice ss[j].a ss[j].n ss[j].c) := by
 have h := hc j hj 0 (by decide)
 simpa [encSl] using h
def sums (ss : List Sl) : List Ta := ss.flatMap (·.xs)
theorem sums_next (ss : List Sl) (k : Nat) (h : k < ss.length) : sums (ss.take (k + 1)) = sums (ss.take k) ++ ss[k].xs := by
 unfold sums
 rw [List.take_add_one, List.getElem?_eq_getElem h, List.flatMap_append]
 simp
theorem sums_le (ss : List Sl) (k : Nat) : (sums (ss.take k)).length ≤ (sums ss).length := by
 have e : sums ss = sums (ss.take k) ++ sums (ss.drop k) := by unfold sums; rw [← List.flatMap_append, List.take_append_drop]
 rw [e, List.length_append]
 omega
structure SlOk (w : World) (s : Sl) : Prop where
 n : s.n = s.xs.length
 r : GRow encT w s.a s.xs
 z : s.a = none → s.n = 0 ∧ s.c = 0
theorem SlOk.below {w w' : World} {s : Sl} (h : SlOk w s) (hb : Below w.heap.size w w') : SlOk w' s := ⟨h.n, h.r.below hb, h.z⟩
set_option maxRecDepth 100000 in
theorem wpAppRowT {ops : Array Oper} {rest : List Oper} {o : Oper} {a : Act} {Q : Exit → Act → World → Prop} (hgd : o.guard = none) (s x : Operand) (ho : o.op = .call { callee := .builtin .append, args := #[s, x], argTypes := #[40, 40] })
  {W : World} {base : Nat} {v : Value} {ys : List Ta} (S : Sl) (hs : a.eval s = v) (hown : GOwn encT 38 W base v ys) (hx : a.eval x = .slice S.a S.n S.c)
  (hS : SlOk W S) (hlen : ys.length + S.xs.length ≤ 100000000) (hB : base ≤ W.heap.size)
  (h : ∀ v' w', GOwn encT 38 w' base v' (ys ++ S.xs) → Below base W w' → wpList Tryz.prog ops Q rest (a.put o.dst v') w') :
  wpList Tryz.prog ops Q (o :: rest) a W := by
 obtain ⟨i0, hi, hz0, hz1, hz2⟩ := info_parts Tryz.info38
 have hone : ∀ u ∈ encT.cells S.xs, u.oneCell' = true := fun u hu => by
  unfold Enc.cells at hu
  obtain ⟨y, _, hy⟩ := List.mem_flatMap.1 hu
  exact tone u hy
 have key : ∃ v' w', (Builtin.append_ #[40, 40] o.type #[v, .slice S.a S.n S.c]).run Tryz.prog W = .ok v' w' ∧ w'.ownsRow base 38 8 v' (ys ++ S.xs).length (encT.cells (ys ++ S.xs)) ∧ W.grownBy w' v.ownBlock := by
  rw [encT.cells_app, List.length_append]
  cases ha : S.a with
  | none =>
   obtain ⟨e1, e2⟩ := hS.z ha
   have e3 : S.xs = [] := List.length_eq_zero_iff.1 (by rw [← hS.n]; exact e1)
   rw [e1, e2, e3]
   refine ⟨v, W, run_append_owned_none (P := Tryz.prog) W base 40 o.type 38 i0 8 Tryz.underlying40 hi v _ _ hown, ?_, ⟨rfl, rfl, rfl, Nat.le_refl _, fun _ _ _ => rfl⟩⟩
   have e : encT.cells ([] : List Ta) = [] := rfl
   rw [e, List.append_nil]
   exact hown
  | some ad =>
   have hc : ∀ j u, (encT.cells S.xs)[j]? = some u → W.cell? (ad.add j) = some u := fun j u hj => by
    have hlt : j < (encT.cells S.xs).length := (List.getElem?_eq_some_iff.1 hj).1
    have hl8 : (encT.cells S.xs).length = S.xs.length * 8 := encT.cells_len S.xs
    rw [hl8] at hlt
    obtain ⟨b, off, e, hbl, hcell⟩ := hS.r (by omega)
    rw [ha] at e
    cases e
    have hj1 : j / 8 < S.xs.length := by omega
    have h9 := hcell (j / 8) hj1 (j % 8) (Nat.mod_lt _ (by decide))
    have h8 := encT.cells_at S.xs (j / 8) hj1 (j % 8) (Nat.mod_lt _ (by decide))
    have e8 : j / 8 * encT.size + j % 8 = j := by show j / 8 * 8 + j % 8 = j; omega
    rw [e8] at h8
    rw [Addr.add_lit, ← hj, h8, ← h9]
    congr 2
    show off + j = off + j / 8 * 8 + j % 8
    omega
   obtain ⟨v', w', hr, q1, q2, _⟩ := run_append_own (P := Tryz.prog) W base 40 o.type 38 i0 _ 8 104 Tryz.underlying40 hi hz0 hz1 hz2 rfl (by omega) v ys.length (encT.cells ys) hown ad S.n S.c (encT.cells S.xs) (by rw [encT.cells_len, hS.n]; rfl) hc hone (by rw [hS.n]; unfold maxLen; omega) (by rw [hS.n]; omega) hB
   refine ⟨v', w', hr, by rw [← hS.n]; exact q1, q2⟩
 obtain ⟨v', w', hr, q1, q2⟩ := key
 have hb : Below base W w' := (Below.refl _ _).grown q2 hB (fun j hj => (World.ownsRow.lt hown j hj).1)
 exact Lib.wpList_append_run W hgd s x 40 40 ho v (.slice S.a S.n S.c) hs hx v' w' hr (h v' w' q1 hb)

theorem zero_len (m : Nat) : (Builtin.zeroCells (Value.agg #[.int .i64 0, .int .i64 0, .int .i64 0, .int .i64 0, .slice none 0 0, .slice none 0 0, .bool false, .string ByteArray.empty]).cells m).toList.length = 8 * m := by
 simp [Builtin.zeroCells, Value.cells, Nat.mul_comm]

set_option maxRecDepth 100000 in
set_option maxHeartbeats 2000000 in
theorem grow68 (n : Nat) (hn : n ≤ 10000000) (w : World) : Calls Tryz.prog 160 #[.slice none 0 0, .int .i64 n] w fun e w' => ∃ (a1 : Option Addr) (c1 : Nat), e = .returned (.slice a1 0 c1) ∧ GOwn encT 38 w' w.heap.size (.slice a1 0 c1) [] ∧ Below w.heap.size w w' := by
 have hneg : ¬ (n : Int) < 0 := by omega
 have e1 : IntKind.i64.wrap ((n : Int) - 0) = (n : Int) := by rw [IntKind.wrap_i64]; omega
 by_cases h0 : n = 0
 ·subst h0
  go_enter Tryz.func160, Tryz.ntmps160
  go_wp2
  go_ret
  exact ⟨none, 0, rfl, GOwn.nil _ _, belowRefl w⟩
 ·have hp : (0 : Int) < (n : Int) := by omega
  have hp' : 0 < n := by omega
  obtain ⟨i0, hi, hz0, hz1, hz2⟩ := info_parts Tryz.info38
  have hr := fun ty => Lib.run_append_nil_zeros (P := Tryz.prog) w 40 3 ty 38 i0 _ .i64 .i64 Tryz.underlying40 Tryz.underlying3 hi hz0 n hp' (by rw [hz1]; omega) (by omega) (by rw [hz2]; omega)
  have hge := grownCap_ge w n 0 38
  have hle := grownCap_le_maxLen w n 0 38 (by unfold maxLen; omega)
  generalize grownCap w n 0 38 = cap at *
  have hsz : (Builtin.zeroCells (Value.agg #[.int .i64 0, .int .i64 0, .int .i64 0, .int .i64 0, .slice none 0 0, .slice none 0 0, .bool false, .string ByteArray.empty]).cells n ++ Builtin.zeroCells (Value.agg #[.int .i64 0, .int .i64 0, .int .i64 0, .int .i64 0, .slice none 0 0, .slice none 0 0, .bool false, .string ByteArray.empty]).cells (cap - n)).size = cap * 8 := by
   rw [Array.size_append, ← Array.length_toList, ← Array.length_toList, zero_len, zero_len]
   omega
  generalize Builtin.zeroCells (Value.agg #[.int .i64 0, .int .i64 0, .int .i64 0, .int .i64 0, .slice none 0 0, .slice none 0 0, .bool false, .string ByteArray.empty]).cells n ++ Builtin.zeroCells (Value.agg #[.int .i64 0, .int .i64 0, .int .i64 0, .int .i64 0, .slice none 0 0, .slice none 0 0, .bool false, .string ByteArray.empty]).cells (cap - n) = cur at *
  have HO : Hid (GOwn encT 38 (w.alloc (.cells cur 38)).drew w.heap.size (.slice (some ⟨w.heap.size, 0, none⟩) 0 cap) []) :=
   ⟨rfl, Or.inr ⟨w.heap.size, cap, cur, rfl, Nat.le_refl _, heap_alloc_new w _, Nat.zero_le _, hle, hsz, by simp [Enc.cells]⟩⟩
  have HB : Hid (Below w.heap.size w (w.alloc (.cells cur 38)).drew) := ((belowRefl w).alloc (Nat.le_refl _) _).drew
  have HR := hide hr
  clear hr hsz hi hz0 hz1 hz2
  go_enter Tryz.func160, Tryz.ntmps160
  go_wp2_with (at_builtin; refine Lib.wpList_append_run _ rfl _ _ _ _ rfl _ _ rfl rfl _ _ (HR.out _) ?_)
  go_wp2
  go_ret
  exact ⟨_, _, rfl, HO.out, HB.out⟩

set_option maxRecDepth 100000 in
set_option maxHeartbeats 2000000 in
theorem concat43 (ss : List Sl) (sa : Option Addr) (sc m : Nat) (hm : m = ss.length) (hmn : m ≤ 1000) (hn : (sums ss).length ≤ 10000000) (w : World) (hp : GRow encSl w sa ss) (hs : ∀ s ∈ ss, SlOk w s) :
  Calls Tryz.prog 144 #[.slice sa m sc] w fun e w' => ∃ (a1 : Option Addr) (c1 n1 : Nat), e = .returned (.slice a1 n1 c1) ∧ n1 = (sums ss).length ∧ GOwn encT 38 w' w.heap.size (.slice a1 n1 c1) (sums ss) ∧ Below w.heap.size w w' := by
 have HP : Hid (GRow encSl w sa ss) := hp
 have HS : Hid (∀ s ∈ ss, SlOk w s) := hs
 have HM : Hid (m = ss.length) := hm
 clear hp hs hm
 go_enter Tryz.func144, Tryz.ntmps144
 go_wp2
 go_loopw [3, 11] (fun v t wr => ∃ (k z : Nat), k ≤ m ∧ t = .int .i64 k ∧ v = .int .i64 z ∧ Hid (z = (sums (ss.take k)).length) ∧ w = wr) (fun _ t _ => m - (intOf t).toNat)
 case atStart => exact ⟨0, 0, Nat.zero_le _, rfl, rfl, rfl, rfl⟩
 case round =>
  obtain ⟨k, z, hk, rfl, rfl, HZ, rfl⟩ := hrel
  by_cases hlt : k < m
  ·have hlt' : (k : Int) < (m : Int) := by omega
   have h0 : (0 : Int) ≤ (k : Int) := by omega
   have hkx : k < ss.length := by rw [← HM.out]; exact hlt
   obtain ⟨b, o, rfl, hbl, hc⟩ := HP.out (by omega)
   have r0 := slat hc k hkx
   have hok := HS.out _ (List.getElem_mem hkx)
   have HNX : Hid (z + ss[k].n = (sums (ss.take (k + 1))).length) := by show _ = _; rw [HZ.out, sums_next ss k hkx, List.length_append, hok.n]
   have hbd : z + ss[k].n ≤ 10000000 := by rw [HNX.out]; exact Nat.le_trans (sums_le ss (k + 1)) hn
   obtain ⟨s, hx⟩ : ∃ s, s = ss[k] := ⟨_, rfl⟩
   rw [← hx] at r0 HNX hbd
   clear hx hkx hc hbl hok HZ
   obtain ⟨z2, hz2⟩ : ∃ z2, z2 = z + s.n := ⟨_, rfl⟩
   have e1 : IntKind.i64.wrap ((z : Int) + (s.n : Int)) = (z2 : Int) := by rw [IntKind.wrap_i64]; omega
   have e2 : ¬ (z2 : Int) < 0 := by omega
   have HZ2 : Hid (z2 = (sums (ss.take (k + 1))).length) := by show _ = _; rw [hz2]; exact HNX.out
   clear hz2 HNX
   go_wp2
   go_roundw
   case rel => exact ⟨k + 1, z2, by omega, by go_num, rfl, HZ2, trivial⟩
   case measure => simp [intOf]; omega
  ·have hd : ¬ (k : Int) < (m : Int) := by omega
   have HE : Hid (ss.take k = ss) := List.take_of_length_le (by rw [← HM.out]; omega)
   rw [HE.out] at HZ
   have hzb : z ≤ 10000000 := by rw [HZ.out]; exact hn
   clear HZ
   go_wp2_with fail
   refine (grow68 z hzb _).mono ?_
   rintro e w1 ⟨a1, c1, rfl, ho, hb1⟩
   have HO1 := hide ho
   have HB1 := hide hb1
   clear ho hb1
   go_wp2
   go_loopw [6, 27] (fun v t wr => ∃ k : Nat, k ≤ m ∧ t = .int .i64 k ∧ Hid (GOwn encT 38 wr w.heap.size v (sums (ss.take k))) ∧ Hid (Below w.heap.size w wr)) (fun _ t _ => m - (intOf t).toNat)
   case atStart => exact ⟨0, Nat.zero_le _, rfl, HO1, HB1⟩
   case round =>
    clear HO1 HB1
    obtain ⟨k, hk, rfl, HO, HB⟩ := hrel
    by_cases hlt : k < m
    ·have hlt' : (k : Int) < (m : Int) := by omega
     have h0 : (0 : Int) ≤ (k : Int) := by omega
     have hkx : k < ss.length := by rw [← HM.out]; exact hlt
     obtain ⟨b, o, rfl, hbl, hc⟩ := (HP.out.below HB.out) (by omega)
     have r0 := slat hc k hkx
     have OK := hide ((HS.out _ (List.getElem_mem hkx)).below HB.out)
     have HNX : Hid (sums (ss.take (k + 1)) = sums (ss.take k) ++ ss[k].xs) := sums_next ss k hkx
     have hbd : (sums (ss.take k)).length + ss[k].xs.length ≤ 100000000 := by have h := sums_le ss (k + 1); rw [sums_next ss k hkx, List.length_append] at h; omega
     obtain ⟨s, hx⟩ : ∃ s, s = ss[k] := ⟨_, rfl⟩
     rw [← hx] at r0 HNX hbd OK
     clear hx hkx hc hbl
     obtain ⟨F, hF⟩ : ∃ F, F = sums (ss.take k) := ⟨_, rfl⟩
     rw [← hF] at HO HNX hbd
     clear hF
     have hsz := HB.out.size
     go_wp2_with (at_builtin; refine wpAppRowT rfl _ _ rfl s rfl HO.out rfl OK.out hbd hsz ?_)
     intro v' w3 ho3 hb3
     have O3 : Hid (GOwn encT 38 w3 w.heap.size v' (F ++ s.xs)) := ho3
     have HB3 : Hid (Below w.heap.size w w3) := HB.out.trans hb3
     clear ho3 hb3 r0
     go_wp2
     go_roundw
     case rel => exact ⟨k + 1, by omega, by go_num, by rw [HNX.out]; exact O3, HB3⟩
     case measure => simp [intOf]; omega
    ·have hd : ¬ (k : Int) < (m : Int) := by omega
     have HE : Hid (ss.take k = ss) := List.take_of_length_le (by rw [← HM.out]; omega)
     rw [HE.out] at HO
     obtain ⟨a1, c1, rfl, _⟩ := HO.out.row
     obtain ⟨n1, hn1⟩ : ∃ n1, n1 = (sums ss).length := ⟨_, rfl⟩
     rw [← hn1] at HO ⊢
     have HN1 : Hid (n1 = (sums ss).length) := hn1
     clear hn1
     go_wp2
     go_ret
     exact ⟨a1, c1, n1, rfl, HN1.out, HO.out, HB.out⟩

end Go.Proofs.YtpnnncfbodfnhaaGreatDoor

namespace Go.Proofs
open Go.Shelf
def Tryz.lays189_ren : Go.Shelf.Ren := ⟨fun | 189 => 161 | 125 => 167 | 257 => 166 | 128 => 178 | 129 => 179 | 294 => 169 | 295 => 170 | 296 => 171 | 297 => 172 | 298 => 173 | 299 => 174 | 216 => 175 | 300 => 176 | 301 => 177 | 328 => 180 | 329 => 181 | 330 => 182 | 331 => 183 | 332 => 184 | 215 => 163 | 343 => 185 | n => n, fun | 28 => 158 | 3 => 3 | 46 => 159 | 0 => 0 | 51 => 102 | 53 => 225 | 4 => 4 | 183 => 216 | 182 => 215 | 131 => 221 | 5 => 5 | 9 => 9 | 218 => 226 | 222 => 230 | 228 => 232 | 229 => 233 | n => n, fun | n => n⟩
theorem Tryz.lays189 : Go.Proofs.Lays.n189 Tryz.prog Tryz.lays189_ren := {
 mixed := by kernel_rfl
 f125 := Tryz.func167.trans (congrArg some (by kernel_rfl))
 f128 := Tryz.func178.trans (congrArg some (by kernel_rfl))
 f129 := Tryz.func179.trans (congrArg some (by kernel_rfl))
 f189 := Tryz.func161.trans (congrArg some (by kernel_rfl))
 f215 := Tryz.func163.trans (congrArg some (by kernel_rfl))
 f216 := Tryz.func175.trans (congrArg some (by kernel_rfl))
 f257 := Tryz.func166.trans (congrArg some (by kernel_rfl))
 f294 := Tryz.func169.trans (congrArg some (by kernel_rfl))
 f295 := Tryz.func170.trans (congrArg some (by kernel_rfl))
 f296 := Tryz.func171.trans (congrArg some (by kernel_rfl))
 f297 := Tryz.func172.trans (congrArg some (by kernel_rfl))
 f298 := Tryz.func173.trans (congrArg some (by kernel_rfl))
 f299 := Tryz.func174.trans (congrArg some (by kernel_rfl))
 f300 := Tryz.func176.trans (congrArg some (by kernel_rfl))
 f301 := Tryz.func177.trans (congrArg some (by kernel_rfl))
 f328 := Tryz.func180.trans (congrArg some (by kernel_rfl))
 f329 := Tryz.func181.trans (congrArg some (by kernel_rfl))
 f330 := Tryz.func182.trans (congrArg some (by kernel_rfl))
 f331 := Tryz.func183.trans (congrArg some (by kernel_rfl))
 f332 := Tryz.func184.trans (congrArg some (by kernel_rfl))
 f343 := Tryz.func185.trans (congrArg some (by kernel_rfl))
 t0 := Tryz.underlying0
 a0 := Tryz.isAgg0
 z0 := Tryz.sizeOf0
 v0 := Tryz.zeroValue0
 t3 := Tryz.underlying3
 a3 := Tryz.isAgg3
 z3 := Tryz.sizeOf3
 v3 := Tryz.zeroValue3
 t4 := Tryz.underlying4
 a4 := Tryz.isAgg4
 z4 := Tryz.sizeOf4
 v4 := Tryz.zeroValue4
 t5 := Tryz.underlying5
 a5 := Tryz.isAgg5
 z5 := Tryz.sizeOf5
 v5 := Tryz.zeroValue5
 t9 := Tryz.underlying9
 a9 := Tryz.isAgg9
 z9 := Tryz.sizeOf9
 v9 := Tryz.zeroValue9
 t28 := Tryz.underlying158
 a28 := Tryz.isAgg158
 z28 := Tryz.sizeOf158
 v28 := Tryz.zeroValue158
 t46 := Tryz.underlying159
 a46 := Tryz.isAgg159
 z46 := Tryz.sizeOf159
 v46 := Tryz.zeroValue159
 t51 := Tryz.underlying102
 a51 := Tryz.isAgg102
 z51 := Tryz.sizeOf102
 v51 := Tryz.zeroValue102
 t53 := Tryz.underlying225
 a53 := Tryz.isAgg225
 z53 := Tryz.sizeOf225
 v53 := Tryz.zeroValue225
 t131 := Tryz.underlying221
 a131 := Tryz.isAgg221
 z131 := Tryz.sizeOf221
 v131 := Tryz.zeroValue221
 t182 := Tryz.underlying215
 a182 := Tryz.isAgg215
 z182 := Tryz.sizeOf215
 v182 := Tryz.zeroValue215
 t183 := Tryz.underlying216
 a183 := Tryz.isAgg216
 z183 := Tryz.sizeOf216
 v183 := Tryz.zeroValue216
 t218 := Tryz.underlying226
 a218 := Tryz.isAgg226
 z218 := Tryz.sizeOf226
 v218 := Tryz.zeroValue226
 t222 := Tryz.underlying230
 a222 := Tryz.isAgg230
 z222 := Tryz.sizeOf230
 v222 := Tryz.zeroValue230
 t228 := Tryz.underlying232
 a228 := Tryz.isAgg232
 z228 := Tryz.sizeOf232
 v228 := Tryz.zeroValue232
 t229 := Tryz.underlying233
 a229 := Tryz.isAgg233
 z229 := Tryz.sizeOf233
 v229 := Tryz.zeroValue233 }
open Go.Sort Go.RowKit in
theorem Tryz.slices_Sort_int (blk off cap : Nat) (zs : List Int) (w : World) (hH : Holds (Value.int .i64) w blk off zs.toArray) (hblk : blk < w.heap.size) (hsz : zs.length < 4611686018427387904) :
  Calls Tryz.prog 161 #[.slice (some ⟨blk, off, none⟩) zs.length cap] w fun e w' =>
   e = .returned (.tuple #[]) ∧ ∃ n os, w' = grow (putRow (Value.int .i64) (Sort.ahead w n) blk off (zs.mergeSort fun x y => decide (x ≤ y)).toArray) os := Any.slices_Sort_int Tryz.lays189 blk off cap zs w hH hblk hsz
open Go.RowKit Go.Sort in
theorem Tryz.slices_Sort_int_none (p : Option Addr) (cap : Nat) (w : World) :
  Calls Tryz.prog 161 #[.slice p 0 cap] w fun e w' => e = .returned (.tuple #[]) ∧ w' = w := Any.slices_Sort_int_none Tryz.lays189 p cap w
end Go.Proofs

namespace Go.Proofs.YtpnnncfbodfnhaaGreatDoor
open Go.RowKit
open KM
open Go.Sort
attribute [local go_sem ↓] Go.wp_at_zero Go.wp_at_succ

theorem cellsI (zs : List Int) : encI.cells zs = zs.map (Value.int .i64) := by
 induction zs with
 | nil => rfl
 | cons k ks ih =>
  have e : encI.cells (k :: ks) = .int .i64 k :: encI.cells ks := rfl
  rw [e, ih, List.map_cons]
def sortI (zs : List Int) : List Int := zs.mergeSort fun x y => decide (x ≤ y)
theorem sortI_len (zs : List Int) : (sortI zs).length = zs.length := by simp [sortI]
theorem sort89 (zs : List Int) (base : Nat) (v : Value) (w : World) (hn : zs.length ≤ 100000000) (hown : GOwn encI 3 w base v zs) :
  Calls Tryz.prog 161 #[v] w fun e w' => e = .returned (.tuple #[]) ∧ GOwn encI 3 w' base v (sortI zs) ∧ Below base w w' := by
 have h0 := hown
 rcases hown.2 with ⟨rfl, hz⟩ | ⟨g, cap, cur, rfl, hbase, hb, h1, h2, h3, h4⟩
 ·refine (Tryz.slices_Sort_int_none none 0 w).mono ?_
  rintro e w' ⟨rfl, rfl⟩
  have e : zs = [] := List.length_eq_zero_iff.1 hz
  subst e
  exact ⟨rfl, by simpa [sortI] using h0, Below.refl _ _⟩
 ·have h4' : cur.toList.take zs.length = zs.map (Value.int .i64) := by
   have e : encI.size = 1 := rfl
   rw [e, Nat.mul_one] at h4
   rw [h4, cellsI]
  have hg : g < w.heap.size := (Array.getElem?_eq_some_iff.1 hb).1
  refine (Tryz.slices_Sort_int g 0 cap zs w (holds_of_blockI hb h4') hg (by omega)).mono ?_
  rintro e w' ⟨rfl, n, os, rfl⟩
  refine ⟨rfl, ?_, grown_base (grownBy_sortedI _) hbase hg⟩
  have ho := ownsRow_sortedI (n := n) (os := os) (ts := zs.mergeSort fun x y => decide (x ≤ y)) (ss := zs) (by simp) hbase hb h1 h2 h3
  unfold GOwn
  rw [sortI_len, cellsI]
  exact ho

end Go.Proofs.YtpnnncfbodfnhaaGreatDoor

namespace Go.Proofs.YtpnnncfbodfnhaaGreatDoor
open Go.RowKit
open KM
attribute [local go_sem ↓] Go.wp_at_zero Go.wp_at_succ

set_option maxRecDepth 100000 in
set_option maxHeartbeats 2000000 in
theorem asc59 (zs : List Int) (a : Option Addr) (c n : Nat) (hx : n = zs.length) (hn : n ≤ 100000000) (w : World) (hp : GRow encI w a zs) :
  Calls Tryz.prog 152 #[.slice a n c] w fun e w' => e = .returned (.bool (ascIB zs)) ∧ Below w.heap.size w w' := by
 have HP : Hid (GRow encI w a zs) := hp
 have HX : Hid (n = zs.length) := hx
 clear hp hx
 go_enter Tryz.func152, Tryz.ntmps152
 go_wp2
 go_loopw [3] (fun t wr => ∃ k : Nat, 1 ≤ k ∧ t = .int .i64 k ∧ Hid (AscI zs k) ∧ Hid (Below w.heap.size w wr)) (fun t _ => n + 1 - (intOf t).toNat)
 case atStart => exact ⟨1, Nat.le_refl _, rfl, (fun j hj h1 h0 => by omega), belowRefl w⟩
 case round =>
  obtain ⟨k, hk1, rfl, HG, HB⟩ := hrel
  by_cases hlt : k < n
  ·have hlt' : (k : Int) < (n : Int) := by omega
   have h0 : (0 : Int) ≤ (k : Int) := by omega
   have hkz : k < zs.length := by rw [← HX.out]; exact hlt
   obtain ⟨b, off, rfl, hbl, hc⟩ := (HP.out.below HB.out) (by omega)
   obtain ⟨p, hp⟩ : ∃ p, k = p + 1 := ⟨k - 1, by omega⟩
   subst hp
   have r1 := iat hc (p + 1) hkz
   have r0 := iat hc p (by omega)
   have e1 : IntKind.i64.wrap (((p + 1 : Nat) : Int) - 1) = (p : Int) := by rw [IntKind.wrap_i64]; omega
   have e2 : ((p + 1 : Nat) : Int) - 1 = (p : Int) := by omega
   have hpn : (p : Int) < (n : Int) := by omega
   have hp0 : (0 : Int) ≤ (p : Int) := by omega
   have HY : Hid (zs[p] < zs[p + 1] → AscI zs (p + 1 + 1)) := fun h => ascI_more HG.out hkz (fun _ => h)
   have HN : Hid (¬ zs[p] < zs[p + 1] → ascIB zs = false) := fun h => ascI_no (p + 1) hkz (by omega) (by simpa using h)
   obtain ⟨x, hx⟩ : ∃ x, x = zs[p] := ⟨_, rfl⟩
   obtain ⟨y, hy⟩ : ∃ y, y = zs[p + 1] := ⟨_, rfl⟩
   rw [← hx] at r0 HY HN
   rw [← hy] at r1 HY HN
   clear hx hy hc hbl HG
   by_cases hq : x < y
   ·have HR := hide (HY.out hq)
    have ht : decide (x ≥ y) = false := by simpa using hq
    clear HY HN
    go_wp2
    go_quiet (fail)
    go_wp2
    go_roundw
    case rel => exact ⟨p + 1 + 1, by omega, by go_num, HR, below_drewN HB.out _⟩
    case measure => simp [intOf]; omega
   ·have HR : Hid (ascIB zs = false) := HN.out hq
    have ht : decide (x ≥ y) = true := by simpa using hq
    clear HY HN
    go_wp2
    go_quiet (fail)
    go_wp2
    go_ret
    exact ⟨ret_bool HR.out.symm, below_drewN HB.out _⟩
  ·have hd : ¬ (k : Int) < (n : Int) := by omega
   have HR : Hid (true = ascIB zs) := (ascI_all HG.out (by rw [← HX.out]; omega)).symm
   clear HG
   go_wp2
   go_ret
   exact ⟨ret_bool HR.out, HB.out⟩

end Go.Proofs.YtpnnncfbodfnhaaGreatDoor

namespace Go.Proofs.YtpnnncfbodfnhaaGreatDoor
open Go.RowKit
open KM
attribute [local go_sem ↓] Go.wp_at_zero Go.wp_at_succ

set_option maxRecDepth 100000 in
set_option maxHeartbeats 2000000 in
theorem asc64 (zs : List ByteArray) (a : Option Addr) (c n : Nat) (hx : n = zs.length) (hn : n ≤ 100000000) (w : World) (hp : GRow encS w a zs) :
  Calls Tryz.prog 156 #[.slice a n c] w fun e w' => e = .returned (.bool (ascSB zs)) ∧ Below w.heap.size w w' := by
 have HP : Hid (GRow encS w a zs) := hp
 have HX : Hid (n = zs.length) := hx
 clear hp hx
 go_enter Tryz.func156, Tryz.ntmps156
 go_wp2
 go_loopw [3] (fun t wr => ∃ k : Nat, 1 ≤ k ∧ t = .int .i64 k ∧ Hid (AscS zs k) ∧ Hid (Below w.heap.size w wr)) (fun t _ => n + 1 - (intOf t).toNat)
 case atStart => exact ⟨1, Nat.le_refl _, rfl, (fun j hj h1 h0 => by omega), belowRefl w⟩
 case round =>
  obtain ⟨k, hk1, rfl, HG, HB⟩ := hrel
  by_cases hlt : k < n
  ·have hlt' : (k : Int) < (n : Int) := by omega
   have h0 : (0 : Int) ≤ (k : Int) := by omega
   have hkz : k < zs.length := by rw [← HX.out]; exact hlt
   obtain ⟨b, off, rfl, hbl, hc⟩ := (HP.out.below HB.out) (by omega)
   obtain ⟨p, hp⟩ : ∃ p, k = p + 1 := ⟨k - 1, by omega⟩
   subst hp
   have r1 := sat hc (p + 1) hkz
   have r0 := sat hc p (by omega)
   have e1 : IntKind.i64.wrap (((p + 1 : Nat) : Int) - 1) = (p : Int) := by rw [IntKind.wrap_i64]; omega
   have e2 : ((p + 1 : Nat) : Int) - 1 = (p : Int) := by omega
   have hpn : (p : Int) < (n : Int) := by omega
   have hp0 : (0 : Int) ≤ (p : Int) := by omega
   have HY : Hid (Op.bytesLess zs[p].toList zs[p + 1].toList = true → AscS zs (p + 1 + 1)) := fun h => ascS_more HG.out hkz (fun _ => h)
   have HN : Hid (¬ Op.bytesLess zs[p].toList zs[p + 1].toList = true → ascSB zs = false) := fun h => ascS_no (p + 1) hkz (by omega) (by simpa using h)
   obtain ⟨x, hx⟩ : ∃ x, x = zs[p] := ⟨_, rfl⟩
   obtain ⟨y, hy⟩ : ∃ y, y = zs[p + 1] := ⟨_, rfl⟩
   rw [← hx] at r0 HY HN
   rw [← hy] at r1 HY HN
   clear hx hy hc hbl HG
   by_cases hq : Op.bytesLess x.toList y.toList = true
   ·have HR := hide (HY.out hq)
    have ht : Op.bytesLess x.toList y.toList = true := hq
    clear HY HN
    go_wp2
    go_quiet (fail)
    go_wp2
    go_roundw
    case rel => exact ⟨p + 1 + 1, by omega, by go_num, HR, below_drewN HB.out _⟩
    case measure => simp [intOf]; omega
   ·have HR : Hid (ascSB zs = false) := HN.out hq
    have ht : Op.bytesLess x.toList y.toList = false := by simpa using hq
    clear HY HN
    go_wp2
    go_quiet (fail)
    go_wp2
    go_ret
    exact ⟨ret_bool HR.out.symm, below_drewN HB.out _⟩
  ·have hd : ¬ (k : Int) < (n : Int) := by omega
   have HR : Hid (true = ascSB zs) := (ascS_all HG.out (by rw [← HX.out]; omega)).symm
   clear HG
   go_wp2
   go_ret
   exact ⟨ret_bool HR.out, HB.out⟩

end Go.Proofs.YtpnnncfbodfnhaaGreatDoor

namespace Go.Proofs.YtpnnncfbodfnhaaGreatDoor
open Go.RowKit
open KM
attribute [local go_sem ↓] Go.wp_at_zero Go.wp_at_succ

set_option maxRecDepth 100000 in
set_option maxHeartbeats 2000000 in
theorem asc36 (xs : List Ta) (a : Option Addr) (c n : Nat) (hx : n = xs.length) (hn : n ≤ 10000000) (w : World) (hp : TRows w a xs) :
  Calls Tryz.prog 137 #[.agg #[.slice a n c, .func (.func 151) #[] #[]]] w fun e w' => e = .returned (.bool (ascIB (xs.map fun x : Ta => x.t.cs))) ∧ Below w.heap.size w w' := by
 have HB0 : Hid (Below w.heap.size w (w.alloc (.cells #[.slice a n c, .func (.func 151) #[] #[]] 189))) := (belowRefl w).alloc (Nat.le_refl _) _
 have H := hide (keys58 xs a c n hx hn (w.alloc (.cells #[.slice a n c, .func (.func 151) #[] #[]] 189)) (hp.below HB0.out))
 have HX : Hid (n = (xs.map fun x : Ta => x.t.cs).length) := by show _ = _; rw [List.length_map, hx]
 clear hp hx
 go_enter Tryz.func137, Tryz.ntmps137
 go_wp2_with fail
 refine H.out.mono ?_
 rintro e w1 ⟨a1, c1, rfl, ho, hb1⟩
 have HB1 : Hid (Below w.heap.size w w1) := HB0.out.trans (hb1.mono HB0.out.size)
 have RO : Hid (GRow encI w1 a1 (xs.map fun x : Ta => x.t.cs)) := by have h := ho; rw [HX.out] at h; exact h.grow
 clear ho hb1 H
 go_wp2_with fail
 refine (asc59 (xs.map fun x : Ta => x.t.cs) a1 c1 n HX.out (by omega) _ RO.out).mono ?_
 rintro e w2 ⟨rfl, hb2⟩
 have HB2 : Hid (Below w.heap.size w w2) := HB1.out.trans (hb2.mono HB1.out.size)
 clear hb2
 go_wp2
 go_ret
 exact ⟨rfl, HB2.out⟩

set_option maxRecDepth 100000 in
set_option maxHeartbeats 2000000 in
theorem asc40 (xs : List Ta) (a : Option Addr) (c n : Nat) (hx : n = xs.length) (hn : n ≤ 10000000) (w : World) (hp : TRows w a xs) :
  Calls Tryz.prog 141 #[.agg #[.slice a n c, .func (.func 155) #[] #[]]] w fun e w' => e = .returned (.bool (ascSB (xs.map fun x : Ta => x.t.nm))) ∧ Below w.heap.size w w' := by
 have HB0 : Hid (Below w.heap.size w (w.alloc (.cells #[.slice a n c, .func (.func 155) #[] #[]] 194))) := (belowRefl w).alloc (Nat.le_refl _) _
 have H := hide (keys63 xs a c n hx hn (w.alloc (.cells #[.slice a n c, .func (.func 155) #[] #[]] 194)) (hp.below HB0.out))
 have HX : Hid (n = (xs.map fun x : Ta => x.t.nm).length) := by show _ = _; rw [List.length_map, hx]
 clear hp hx
 go_enter Tryz.func141, Tryz.ntmps141
 go_wp2_with fail
 refine H.out.mono ?_
 rintro e w1 ⟨a1, c1, rfl, ho, hb1⟩
 have HB1 : Hid (Below w.heap.size w w1) := HB0.out.trans (hb1.mono HB0.out.size)
 have RO : Hid (GRow encS w1 a1 (xs.map fun x : Ta => x.t.nm)) := by have h := ho; rw [HX.out] at h; exact h.grow
 clear ho hb1 H
 go_wp2_with fail
 refine (asc64 (xs.map fun x : Ta => x.t.nm) a1 c1 n HX.out (by omega) _ RO.out).mono ?_
 rintro e w2 ⟨rfl, hb2⟩
 have HB2 : Hid (Below w.heap.size w w2) := HB1.out.trans (hb2.mono HB1.out.size)
 clear hb2
 go_wp2
 go_ret
 exact ⟨rfl, HB2.out⟩

set_option maxRecDepth 100000 in
set_option maxHeartbeats 2000000 in
theorem unlike44 (xs : List Ta) (a : Option Addr) (c n : Nat) (hx : n = xs.length) (hn : n ≤ 10000000) (w : World) (hp : TRows w a xs) :
  Calls Tryz.prog 145 #[.agg #[.slice a n c, .func (.func 159) #[] #[]]] w fun e w' => e = .returned (.bool (ascIB (sortI (xs.map fun x : Ta => x.t.id)))) ∧ Below w.heap.size w w' := by
 have HB0 : Hid (Below w.heap.size w (w.alloc (.cells #[.slice a n c, .func (.func 159) #[] #[]] 189))) := (belowRefl w).alloc (Nat.le_refl _) _
 have H := hide (keys67 xs a c n hx hn (w.alloc (.cells #[.slice a n c, .func (.func 159) #[] #[]] 189)) (hp.below HB0.out))
 have HX : Hid (n = (xs.map fun x : Ta => x.t.id).length) := by show _ = _; rw [List.length_map, hx]
 clear hp hx
 go_enter Tryz.func145, Tryz.ntmps145
 go_wp2_with fail
 refine H.out.mono ?_
 rintro e w1 ⟨a1, c1, rfl, ho, hb1⟩
 have HB1 : Hid (Below w.heap.size w w1) := HB0.out.trans (hb1.mono HB0.out.size)
 have hbs : w.heap.size ≤ (w.alloc (.cells #[.slice a n c, .func (.func 159) #[] #[]] 189)).heap.size + 1 := by simp; omega
 have RO : Hid (GOwn encI 3 w1 w.heap.size (.slice a1 n c1) (xs.map fun x : Ta => x.t.id)) := GOwn.mono ho hbs
 have H2 := hide (sort89 (xs.map fun x : Ta => x.t.id) w.heap.size (.slice a1 n c1) w1 (by rw [← HX.out]; omega) RO.out)
 clear ho hb1 H hbs
 go_wp2_with fail
 refine H2.out.mono ?_
 rintro e w2 ⟨rfl, ho2, hb2⟩
 have HB2 : Hid (Below w.heap.size w w2) := HB1.out.trans hb2
 have HX2 : Hid (n = (sortI (xs.map fun x : Ta => x.t.id)).length) := by show _ = _; rw [sortI_len]; exact HX.out
 have RO2 : Hid (GRow encI w2 a1 (sortI (xs.map fun x : Ta => x.t.id))) := by have h := ho2; rw [HX2.out] at h; exact h.grow
 clear ho2 hb2 H2
 go_wp2_with fail
 refine (asc59 (sortI (xs.map fun x : Ta => x.t.id)) a1 c1 n HX2.out (by omega) _ RO2.out).mono ?_
 rintro e w3 ⟨rfl, hb3⟩
 have HB3 : Hid (Below w.heap.size w w3) := HB2.out.trans (hb3.mono HB2.out.size)
 clear hb3
 go_wp2
 go_ret
 exact ⟨rfl, HB3.out⟩

def pastB (b : Bb) : Bool := decide (b.ps.length ≤ 12) && (ascIB (b.ps.map fun x : Ta => x.t.cs) && (!(b.ps.any (fun x : Ta => decide (b.cs < x.t.cs))) && b.ps.all (inStB 3)))
def readyOkB (b : Bb) : Bool := decide (b.qs.length ≤ 3) && (ascSB (b.qs.map fun x : Ta => x.t.nm) && (!(b.qs.any (fun x : Ta => decide (b.cs < x.t.snap))) && b.qs.all (inStB 2)))
def idsB (b : Bb) : Bool := ascIB (sortI ((b.ps ++ b.qs).map fun x : Ta => x.t.id)) && !((b.ps ++ b.qs).any (fun x : Ta => decide (b.nx - 1 < x.t.id)))

set_option maxRecDepth 100000 in
set_option maxHeartbeats 4000000 in
theorem past19 (b : Bb) (hf : BFit b) (w : World) (hp : BRows w b) :
  Calls Tryz.prog 125 #[.agg #[.slice b.va b.vs.length b.vc, .slice b.pa b.ps.length b.pc, .slice b.qa b.qs.length b.qc, .int .i64 b.cs, .int .i64 b.nx]] w fun e w' => e = .returned (.bool (pastB b)) ∧ Below w.heap.size w w' := by
 have BA0 : Hid (Bx (w.alloc (.cells #[.slice b.va b.vs.length b.vc, .slice b.pa b.ps.length b.pc, .slice b.qa b.qs.length b.qc, .int .i64 b.cs, .int .i64 b.nx] 42)) w.heap.size [.slice b.va b.vs.length b.vc, .slice b.pa b.ps.length b.pc, .slice b.qa b.qs.length b.qc, .int .i64 b.cs, .int .i64 b.nx]) := Bx.new w [.slice b.va b.vs.length b.vc, .slice b.pa b.ps.length b.pc, .slice b.qa b.qs.length b.qc, .int .i64 b.cs, .int .i64 b.nx] 42
 have HB0 : Hid (Below w.heap.size w (w.alloc (.cells #[.slice b.va b.vs.length b.vc, .slice b.pa b.ps.length b.pc, .slice b.qa b.qs.length b.qc, .int .i64 b.cs, .int .i64 b.nx] 42))) := (belowRefl w).alloc (Nat.le_refl _) _
 have HP : Hid (TRows w b.pa b.ps) := hp.p
 have C1 : Hid (∀ W : World, Below w.heap.size w W → Calls Tryz.prog 137 #[.agg #[.slice b.pa b.ps.length b.pc, .func (.func 151) #[] #[]]] W fun e w' => e = .returned (.bool (ascIB (b.ps.map fun x : Ta => x.t.cs))) ∧ Below W.heap.size W w') := fun W h => asc36 b.ps b.pa b.pc b.ps.length rfl (Nat.le_trans hf.pl (by omega)) W (HP.out.below h)
 have C2 : Hid (∀ W : World, Below w.heap.size w W → Calls Tryz.prog 138 #[.agg #[.slice b.pa b.ps.length b.pc, .func (.func 151) #[] #[]], .int .i64 b.cs] W fun e w' => e = .returned (.bool (b.ps.any (fun x : Ta => decide (b.cs < x.t.cs)))) ∧ Below W.heap.size W w') := fun W h => any58 b.ps b.pa b.pc b.ps.length rfl (Nat.le_trans hf.pl (by omega)) b.cs W (HP.out.below h)
 have C3 : Hid (∀ W : World, Below w.heap.size w W → Calls Tryz.prog 139 #[.slice b.pa b.ps.length b.pc, .int .i64 3] W fun e w' => e = .returned (.bool (b.ps.all (inStB 3))) ∧ Below W.heap.size W w') := fun W h => allin38 b.ps b.pa b.pc b.ps.length 3 rfl (Nat.le_trans hf.pl (by omega)) hf.p W (HP.out.below h)
 clear hp hf HP
 unfold pastB
 obtain ⟨rl, hrl⟩ : ∃ rl, rl = decide (b.ps.length ≤ 12) := ⟨_, rfl⟩
 have HRL : Hid (decide ((b.ps.length : Int) ≤ 12) = rl) := by show _ = _; rw [hrl]; simp [show ((b.ps.length : Int) ≤ 12) ↔ (b.ps.length ≤ 12) by omega]
 rw [← hrl]
 clear hrl
 generalize ascIB (b.ps.map fun x : Ta => x.t.cs) = ra at *
 generalize b.ps.any (fun x : Ta => decide (b.cs < x.t.cs)) = rb at *
 generalize b.ps.all (inStB 3) = rg at *
 go_enter Tryz.func125, Tryz.ntmps125
 go_wp2_with fail
 refine (by35 b.pa b.pc b.ps.length _).mono ?_
 rintro e w1 ⟨rfl, hb⟩
 have HB1 : Hid (Below w.heap.size w w1) := HB0.out.trans (hb.mono HB0.out.size)
 have BA1 : Hid (Bx w1 w.heap.size [.slice b.va b.vs.length b.vc, .slice b.pa b.ps.length b.pc, .slice b.qa b.qs.length b.qc, .int .i64 b.cs, .int .i64 b.nx]) := BA0.out.below hb
 clear hb HB0 BA0
 go_upto_region 2 with fail
 have hba : Below w1.heap.size w1 (w1.alloc (.cells #[.slice b.pa b.ps.length b.pc, .func (.func 151) #[] #[]] 189)) := (belowRefl w1).alloc (Nat.le_refl _) _
 have HB2 : Hid (Below w.heap.size w (w1.alloc (.cells #[.slice b.pa b.ps.length b.pc, .func (.func 151) #[] #[]] 189))) := HB1.out.trans (hba.mono HB1.out.size)
 have BA2 : Hid (Bx (w1.alloc (.cells #[.slice b.pa b.ps.length b.pc, .func (.func 151) #[] #[]] 189)) w.heap.size [.slice b.va b.vs.length b.vc, .slice b.pa b.ps.length b.pc, .slice b.qa b.qs.length b.qc, .int .i64 b.cs, .int .i64 b.nx]) := BA1.out.below hba
 have BK2 : Hid (Bx (w1.alloc (.cells #[.slice b.pa b.ps.length b.pc, .func (.func 151) #[] #[]] 189)) w1.heap.size [.slice b.pa b.ps.length b.pc, .func (.func 151) #[] #[]]) := Bx.new w1 [.slice b.pa b.ps.length b.pc, .func (.func 151) #[] #[]] 189
 clear hba HB1 BA1
 generalize (w1.alloc (.cells #[.slice b.pa b.ps.length b.pc, .func (.func 151) #[] #[]] 189)) = w2 at *
 have x1 := BA2.out.c1
 have hrl0 := HRL.out
 cases rl
 ·go_wp2
  go_ret
  exact ⟨rfl, HB2.out⟩
 have k0 := BK2.out.c0
 have k1 := BK2.out.c1
 go_wp2_with fail
 refine (C1.out _ HB2.out).mono ?_
 rintro e w3 ⟨rfl, hb⟩
 have HB3 : Hid (Below w.heap.size w w3) := HB2.out.trans (hb.mono HB2.out.size)
 have BA3 : Hid (Bx w3 w.heap.size [.slice b.va b.vs.length b.vc, .slice b.pa b.ps.length b.pc, .slice b.qa b.qs.length b.qc, .int .i64 b.cs, .int .i64 b.nx]) := BA2.out.below hb
 have BK3 : Hid (Bx w3 w1.heap.size [.slice b.pa b.ps.length b.pc, .func (.func 151) #[] #[]]) := BK2.out.below hb
 clear hb HB2 BA2 BK2
 clear x1 k0 k1
 cases ra
 ·go_wp2
  go_ret
  exact ⟨rfl, HB3.out⟩
 have k0 := BK3.out.c0
 have k1 := BK3.out.c1
 have x3 := BA3.out.c3
 go_wp2_with fail
 refine (C2.out _ HB3.out).mono ?_
 rintro e w4 ⟨rfl, hb⟩
 have HB4 : Hid (Below w.heap.size w w4) := HB3.out.trans (hb.mono HB3.out.size)
 have BA4 : Hid (Bx w4 w.heap.size [.slice b.va b.vs.length b.vc, .slice b.pa b.ps.length b.pc, .slice b.qa b.qs.length b.qc, .int .i64 b.cs, .int .i64 b.nx]) := BA3.out.below hb
 have BK4 : Hid (Bx w4 w1.heap.size [.slice b.pa b.ps.length b.pc, .func (.func 151) #[] #[]]) := BK3.out.below hb
 clear hb HB3 BA3 BK3
 clear x3 k0 k1
 cases rb
 case true =>
  go_wp2
  go_ret
  exact ⟨rfl, HB4.out⟩
 have x1 := BA4.out.c1
 go_wp2_with fail
 refine (C3.out _ HB4.out).mono ?_
 rintro e w5 ⟨rfl, hb⟩
 have HB5 : Hid (Below w.heap.size w w5) := HB4.out.trans (hb.mono HB4.out.size)
 have BA5 : Hid (Bx w5 w.heap.size [.slice b.va b.vs.length b.vc, .slice b.pa b.ps.length b.pc, .slice b.qa b.qs.length b.qc, .int .i64 b.cs, .int .i64 b.nx]) := BA4.out.below hb
 have BK5 : Hid (Bx w5 w1.heap.size [.slice b.pa b.ps.length b.pc, .func (.func 151) #[] #[]]) := BK4.out.below hb
 clear hb HB4 BA4 BK4
 go_wp2
 go_ret
 exact ⟨by simp, HB5.out⟩

end Go.Proofs.YtpnnncfbodfnhaaGreatDoor

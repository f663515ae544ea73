/- All of a list in a state; lists put together. -/
import Derived.Test.YtjeicgibddfifaaPc21
import Derived.Lib.AppendZeros
import Derived.Deep.RegionHeld3
import Derived.Deep.Cut
import Derived.Deep.CutRange
import Derived.Laws.EntriesVeiled
import Derived.Test.YtjeicgibddfifaaPc22
namespace Go.Proofs.Ytjeicgibddfifaa
open Go.RowKit
open KM
attribute [local go_sem ↓] Go.wp_at_zero Go.wp_at_succ

structure Sl where
 a : Option Addr
 n : Nat
 c : Nat
 xs : List Ta
def encSl : Enc Sl := ⟨fun s => [.slice s.a s.n s.c], 1, by decide, fun _ => rfl⟩
theorem slat {w : World} {b off : Nat} {ss : List Sl} (hc : ∀ j (hj : j < ss.length) i, i < encSl.size → w.cell? ⟨b, off + j * encSl.size + i, none⟩ = (encSl.enc ss[j])[i]?) (j : Nat) (hj : j < ss.length) : w.cell? ⟨b, off + j, none⟩ = some (.slice ss[j].a ss[j].n ss[j].c) := by
 have h := hc j hj 0 (by decide)
 simpa [encSl] using h
def sums (ss : List Sl) : List Ta := ss.flatMap (·.xs)
theorem sums_next (ss : List Sl) (k : Nat) (h : k < ss.length) : sums (ss.take (k + 1)) = sums (ss.take k) ++ ss[k].xs := by
 unfold sums
 rw [List.take_add_one, List.getElem?_eq_getElem h, List.flatMap_append]
 simp
theorem sums_le (ss : List Sl) (k : Nat) : (sums (ss.take k)).length ≤ (sums ss).length := by
 have e : sums ss = sums (ss.take k) ++ sums (ss.drop k) := by unfold sums; rw [← List.flatMap_append, List.take_append_drop]
 rw [e, List.length_append]
 omega
structure SlOk (w : World) (s : Sl) : Prop where
 n : s.n = s.xs.length
 r : GRow encT w s.a s.xs
 z : s.a = none → s.n = 0 ∧ s.c = 0
theorem SlOk.below {w w' : World} {s : Sl} (h : SlOk w s) (hb : Below w.heap.size w w') : SlOk w' s := ⟨h.n, h.r.below hb, h.z⟩
set_option maxRecDepth 100000 in
theorem wpAppRowT {ops : Array Oper} {rest : List Oper} {o : Oper} {a : Act} {Q : Exit → Act → World → Prop} (hgd : o.guard = none) (s x : Operand) (ho : o.op = .call { callee := .builtin .append, args := #[s, x], argTypes := #[23, 23] })
  {W : World} {base : Nat} {v : Value} {ys : List Ta} (S : Sl) (hs : a.eval s = v) (hown : GOwn encT 51 W base v ys) (hx : a.eval x = .slice S.a S.n S.c)
  (hS : SlOk W S) (hlen : ys.length + S.xs.length ≤ 100000000) (hB : base ≤ W.heap.size)
  (h : ∀ v' w', GOwn encT 51 w' base v' (ys ++ S.xs) → Below base W w' → wpList Try.prog ops Q rest (a.put o.dst v') w') :
  wpList Try.prog ops Q (o :: rest) a W := by
 obtain ⟨i0, hi, hz0, hz1, hz2⟩ := info_parts Try.info51
 have hone : ∀ u ∈ encT.cells S.xs, u.oneCell' = true := fun u hu => by
  unfold Enc.cells at hu
  obtain ⟨y, _, hy⟩ := List.mem_flatMap.1 hu
  exact tone u hy
 have key : ∃ v' w', (Builtin.append_ #[23, 23] o.type #[v, .slice S.a S.n S.c]).run Try.prog W = .ok v' w' ∧ w'.ownsRow base 51 8 v' (ys ++ S.xs).length (encT.cells (ys ++ S.xs)) ∧ W.grownBy w' v.ownBlock := by
  rw [encT.cells_app, List.length_append]
  cases ha : S.a with
  | none =>
   obtain ⟨e1, e2⟩ := hS.z ha
   have e3 : S.xs = [] := List.length_eq_zero_iff.1 (by rw [← hS.n]; exact e1)
   rw [e1, e2, e3]
   refine ⟨v, W, run_append_owned_none (P := Try.prog) W base 23 o.type 51 i0 8 Try.underlying23 hi v _ _ hown, ?_, ⟨rfl, rfl, rfl, Nat.le_refl _, fun _ _ _ => rfl⟩⟩
   have e : encT.cells ([] : List Ta) = [] := rfl
   rw [e, List.append_nil]
   exact hown
  | some ad =>
   have hc : ∀ j u, (encT.cells S.xs)[j]? = some u → W.cell? (ad.add j) = some u := fun j u hj => by
    have hlt : j < (encT.cells S.xs).length := (List.getElem?_eq_some_iff.1 hj).1
    have hl8 : (encT.cells S.xs).length = S.xs.length * 8 := encT.cells_len S.xs
    rw [hl8] at hlt
    obtain ⟨b, off, e, hbl, hcell⟩ := hS.r (by omega)
    rw [ha] at e
    cases e
    have hj1 : j / 8 < S.xs.length := by omega
    have h9 := hcell (j / 8) hj1 (j % 8) (Nat.mod_lt _ (by decide))
    have h8 := encT.cells_at S.xs (j / 8) hj1 (j % 8) (Nat.mod_lt _ (by decide))
    have e8 : j / 8 * encT.size + j % 8 = j := by show j / 8 * 8 + j % 8 = j; omega
    rw [e8] at h8
    rw [Addr.add_lit, ← hj, h8, ← h9]
    congr 2
    show off + j = off + j / 8 * 8 + j % 8
    omega
   obtain ⟨v', w', hr, q1, q2, _⟩ := run_append_own (P := Try.prog) W base 23 o.type 51 i0 _ 8 104 Try.underlying23 hi hz0 hz1 hz2 rfl (by omega) v ys.length (encT.cells ys) hown ad S.n S.c (encT.cells S.xs) (by rw [encT.cells_len, hS.n]; rfl) hc hone (by rw [hS.n]; unfold maxLen; omega) (by rw [hS.n]; omega) hB
   refine ⟨v', w', hr, by rw [← hS.n]; exact q1, q2⟩
 obtain ⟨v', w', hr, q1, q2⟩ := key
 have hb : Below base W w' := (Below.refl _ _).grown q2 hB (fun j hj => (World.ownsRow.lt hown j hj).1)
 exact Lib.wpList_append_run W hgd s x 23 23 ho v (.slice S.a S.n S.c) hs hx v' w' hr (h v' w' q1 hb)

theorem zero_lenE (m : Nat) : (Builtin.zeroCells (Value.agg #[.int .i64 0, .int .i64 0, .int .i64 0, .int .i64 0, .slice none 0 0, .slice none 0 0, .bool false, .string ByteArray.empty]).cells m).toList.length = 8 * m := by
 simp [Builtin.zeroCells, Value.cells, Nat.mul_comm]

set_option maxRecDepth 100000 in
set_option maxHeartbeats 2000000 in
theorem grow68 (n : Nat) (hn : n ≤ 10000000) (w : World) : Calls Try.prog 71 #[.slice none 0 0, .int .i64 n] w fun e w' => ∃ (a1 : Option Addr) (c1 : Nat), e = .returned (.slice a1 0 c1) ∧ GOwn encT 51 w' w.heap.size (.slice a1 0 c1) [] ∧ Below w.heap.size w w' := by
 have hneg : ¬ (n : Int) < 0 := by omega
 have e1 : IntKind.i64.wrap ((n : Int) - 0) = (n : Int) := by rw [IntKind.wrap_i64]; omega
 by_cases h0 : n = 0
 ·subst h0
  go_enter Try.func71, Try.ntmps71
  go_wp2
  go_ret
  exact ⟨none, 0, rfl, GOwn.nil _ _, belowRefl w⟩
 ·have hp : (0 : Int) < (n : Int) := by omega
  have hp' : 0 < n := by omega
  obtain ⟨i0, hi, hz0, hz1, hz2⟩ := info_parts Try.info51
  have hr := fun ty => Lib.run_append_nil_zeros (P := Try.prog) w 23 3 ty 51 i0 _ .i64 .i64 Try.underlying23 Try.underlying3 hi hz0 n hp' (by rw [hz1]; omega) (by omega) (by rw [hz2]; omega)
  have hge := grownCap_ge w n 0 51
  have hle := grownCap_le_maxLen w n 0 51 (by unfold maxLen; omega)
  generalize grownCap w n 0 51 = cap at *
  have hsz : (Builtin.zeroCells (Value.agg #[.int .i64 0, .int .i64 0, .int .i64 0, .int .i64 0, .slice none 0 0, .slice none 0 0, .bool false, .string ByteArray.empty]).cells n ++ Builtin.zeroCells (Value.agg #[.int .i64 0, .int .i64 0, .int .i64 0, .int .i64 0, .slice none 0 0, .slice none 0 0, .bool false, .string ByteArray.empty]).cells (cap - n)).size = cap * 8 := by
   rw [Array.size_append, ← Array.length_toList, ← Array.length_toList, zero_lenE, zero_lenE]
   omega
  generalize Builtin.zeroCells (Value.agg #[.int .i64 0, .int .i64 0, .int .i64 0, .int .i64 0, .slice none 0 0, .slice none 0 0, .bool false, .string ByteArray.empty]).cells n ++ Builtin.zeroCells (Value.agg #[.int .i64 0, .int .i64 0, .int .i64 0, .int .i64 0, .slice none 0 0, .slice none 0 0, .bool false, .string ByteArray.empty]).cells (cap - n) = cur at *
  have HO : Hid (GOwn encT 51 (w.alloc (.cells cur 51)).drew w.heap.size (.slice (some ⟨w.heap.size, 0, none⟩) 0 cap) []) :=
   ⟨rfl, Or.inr ⟨w.heap.size, cap, cur, rfl, Nat.le_refl _, heap_alloc_new w _, Nat.zero_le _, hle, hsz, by simp [Enc.cells]⟩⟩
  have HB : Hid (Below w.heap.size w (w.alloc (.cells cur 51)).drew) := ((belowRefl w).alloc (Nat.le_refl _) _).drew
  have HR := hide hr
  clear hr hsz hi hz0 hz1 hz2
  go_enter Try.func71, Try.ntmps71
  go_wp2_with (at_builtin; refine Lib.wpList_append_run _ rfl _ _ _ _ rfl _ _ rfl rfl _ _ (HR.out _) ?_)
  go_wp2
  go_ret
  exact ⟨_, _, rfl, HO.out, HB.out⟩

set_option maxRecDepth 100000 in
set_option maxHeartbeats 2000000 in
theorem concat43 (ss : List Sl) (sa : Option Addr) (sc m : Nat) (hm : m = ss.length) (hmn : m ≤ 1000) (hn : (sums ss).length ≤ 10000000) (w : World) (hp : GRow encSl w sa ss) (hs : ∀ s ∈ ss, SlOk w s) :
  Calls Try.prog 56 #[.slice sa m sc] w fun e w' => ∃ (a1 : Option Addr) (c1 n1 : Nat), e = .returned (.slice a1 n1 c1) ∧ n1 = (sums ss).length ∧ GOwn encT 51 w' w.heap.size (.slice a1 n1 c1) (sums ss) ∧ Below w.heap.size w w' := by
 have HP : Hid (GRow encSl w sa ss) := hp
 have HS : Hid (∀ s ∈ ss, SlOk w s) := hs
 have HM : Hid (m = ss.length) := hm
 clear hp hs hm
 go_enter Try.func56, Try.ntmps56
 go_wp2
 go_loopw [3, 11] (fun v t wr => ∃ (k z : Nat), k ≤ m ∧ t = .int .i64 k ∧ v = .int .i64 z ∧ Hid (z = (sums (ss.take k)).length) ∧ w = wr) (fun _ t _ => m - (intOf t).toNat)
 case atStart => exact ⟨0, 0, Nat.zero_le _, rfl, rfl, rfl, rfl⟩
 case round =>
  obtain ⟨k, z, hk, rfl, rfl, HZ, rfl⟩ := hrel
  by_cases hlt : k < m
  ·have hlt' : (k : Int) < (m : Int) := by omega
   have h0 : (0 : Int) ≤ (k : Int) := by omega
   have hkx : k < ss.length := by rw [← HM.out]; exact hlt
   obtain ⟨b, o, rfl, hbl, hc⟩ := HP.out (by omega)
   have r0 := slat hc k hkx
   have hok := HS.out _ (List.getElem_mem hkx)
   have HNX : Hid (z + ss[k].n = (sums (ss.take (k + 1))).length) := by show _ = _; rw [HZ.out, sums_next ss k hkx, List.length_append, hok.n]
   have hbd : z + ss[k].n ≤ 10000000 := by rw [HNX.out]; exact Nat.le_trans (sums_le ss (k + 1)) hn
   obtain ⟨s, hx⟩ : ∃ s, s = ss[k] := ⟨_, rfl⟩
   rw [← hx] at r0 HNX hbd
   clear hx hkx hc hbl hok HZ
   obtain ⟨z2, hz2⟩ : ∃ z2, z2 = z + s.n := ⟨_, rfl⟩
   have e1 : IntKind.i64.wrap ((z : Int) + (s.n : Int)) = (z2 : Int) := by rw [IntKind.wrap_i64]; omega
   have e2 : ¬ (z2 : Int) < 0 := by omega
   have HZ2 : Hid (z2 = (sums (ss.take (k + 1))).length) := by show _ = _; rw [hz2]; exact HNX.out
   clear hz2 HNX
   go_wp2
   go_roundw
   case rel => exact ⟨k + 1, z2, by omega, by go_num, rfl, HZ2, trivial⟩
   case measure => simp [intOf]; omega
  ·have hd : ¬ (k : Int) < (m : Int) := by omega
   have HE : Hid (ss.take k = ss) := List.take_of_length_le (by rw [← HM.out]; omega)
   rw [HE.out] at HZ
   have hzb : z ≤ 10000000 := by rw [HZ.out]; exact hn
   clear HZ
   go_wp2_with fail
   refine (grow68 z hzb _).mono ?_
   rintro e w1 ⟨a1, c1, rfl, ho, hb1⟩
   have HO1 := hide ho
   have HB1 := hide hb1
   clear ho hb1
   go_wp2
   go_loopw [6, 27] (fun v t wr => ∃ k : Nat, k ≤ m ∧ t = .int .i64 k ∧ Hid (GOwn encT 51 wr w.heap.size v (sums (ss.take k))) ∧ Hid (Below w.heap.size w wr)) (fun _ t _ => m - (intOf t).toNat)
   case atStart => exact ⟨0, Nat.zero_le _, rfl, HO1, HB1⟩
   case round =>
    clear HO1 HB1
    obtain ⟨k, hk, rfl, HO, HB⟩ := hrel
    by_cases hlt : k < m
    ·have hlt' : (k : Int) < (m : Int) := by omega
     have h0 : (0 : Int) ≤ (k : Int) := by omega
     have hkx : k < ss.length := by rw [← HM.out]; exact hlt
     obtain ⟨b, o, rfl, hbl, hc⟩ := (HP.out.below HB.out) (by omega)
     have r0 := slat hc k hkx
     have OK := hide ((HS.out _ (List.getElem_mem hkx)).below HB.out)
     have HNX : Hid (sums (ss.take (k + 1)) = sums (ss.take k) ++ ss[k].xs) := sums_next ss k hkx
     have hbd : (sums (ss.take k)).length + ss[k].xs.length ≤ 100000000 := by have h := sums_le ss (k + 1); rw [sums_next ss k hkx, List.length_append] at h; omega
     obtain ⟨s, hx⟩ : ∃ s, s = ss[k] := ⟨_, rfl⟩
     rw [← hx] at r0 HNX hbd OK
     clear hx hkx hc hbl
     obtain ⟨F, hF⟩ : ∃ F, F = sums (ss.take k) := ⟨_, rfl⟩
     rw [← hF] at HO HNX hbd
     clear hF
     have hsz := HB.out.size
     go_wp2_with (at_builtin; refine wpAppRowT rfl _ _ rfl s rfl HO.out rfl OK.out hbd hsz ?_)
     intro v' w3 ho3 hb3
     have O3 : Hid (GOwn encT 51 w3 w.heap.size v' (F ++ s.xs)) := ho3
     have HB3 : Hid (Below w.heap.size w w3) := HB.out.trans hb3
     clear ho3 hb3 r0
     go_wp2
     go_roundw
     case rel => exact ⟨k + 1, by omega, by go_num, by rw [HNX.out]; exact O3, HB3⟩
     case measure => simp [intOf]; omega
    ·have hd : ¬ (k : Int) < (m : Int) := by omega
     have HE : Hid (ss.take k = ss) := List.take_of_length_le (by rw [← HM.out]; omega)
     rw [HE.out] at HO
     obtain ⟨a1, c1, rfl, _⟩ := HO.out.row
     obtain ⟨n1, hn1⟩ : ∃ n1, n1 = (sums ss).length := ⟨_, rfl⟩
     rw [← hn1] at HO ⊢
     have HN1 : Hid (n1 = (sums ss).length) := hn1
     clear hn1
     go_wp2
     go_ret
     exact ⟨a1, c1, n1, rfl, HN1.out, HO.out, HB.out⟩

end Go.Proofs.Ytjeicgibddfifaa

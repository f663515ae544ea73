/- Those of a list that are in one of some states: slices.Contains over numbers, inState. -/
import Derived.Test.YtjeicgibddfifaaPc19
import Derived.Test.YtjeicgibddfifaaPc12
import Derived.Deep.RegionHeld3
import Derived.Deep.Cut
import Derived.Deep.CutRange
import Derived.Test.YtjeicgibddfifaaPc14
import Derived.Test.YtjeicgibddfifaaProg
import Derived.WalkKit
import Derived.Test.YtjeicgibddfifaaPc01
import Derived.WalkSpells
import Derived.WalkLawsBesides
import Derived.Deep.QuietTactic
import Derived.BigQuiet
import Derived.Deep.DrawnRows
import Derived.Test.YtjeicgibddfifaaPc08
import Derived.Deep.AppendLies
import Derived.Test.YtjeicgibddfifaaPc02
import Derived.Deep.RegionHeld
import Derived.Test.YtjeicgibddfifaaPc04
import Derived.Test.YtjeicgibddfifaaPc03
import Derived.Test.YtjeicgibddfifaaPc09
import Derived.Sort.OwnSorted
import Derived.Lib.RowBridge
import Derived.Test.YtjeicgibddfifaaPc07
import Derived.Test.YtjeicgibddfifaaPc15
import Derived.Laws.EntriesVeiled
namespace Go.Proofs.Ytjeicgibddfifaa
open Go.RowKit
open KM
attribute [local go_sem ↓] Go.wp_at_zero Go.wp_at_succ

def inS (ss : List Int) (x : Int) : Bool := ss.any fun s => decide (x = s)
def NoIn (ss : List Int) (x : Int) (k : Nat) : Prop := ∀ j (hj : j < ss.length), j < k → ¬ x = ss[j]
theorem inS_yes {ss : List Int} {x : Int} (k : Nat) (hk : k < ss.length) (h : x = ss[k]) : inS ss x = true := List.any_eq_true.2 ⟨_, List.getElem_mem hk, by simpa using h⟩
theorem inS_no {ss : List Int} {x : Int} {k : Nat} (h : NoIn ss x k) (hk : ss.length ≤ k) : inS ss x = false := by
 unfold inS
 rw [List.any_eq_false]
 intro s hs
 obtain ⟨j, hj, rfl⟩ := List.getElem_of_mem hs
 simpa using h j hj (by omega)
theorem noI_more {ss : List Int} {x : Int} {k : Nat} (h : NoIn ss x k) (hk : k < ss.length) (h2 : ¬ x = ss[k]) : NoIn ss x (k + 1) := fun j hj hjk => by
 by_cases e : j = k
 ·subst e; exact h2
 ·exact h j hj (by omega)

set_option maxRecDepth 100000 in
set_option maxHeartbeats 2000000 in
theorem idxI (ss : List Int) (a : Option Addr) (c : Nat) (x : Int) (hn : ss.length ≤ 100000000) (w : World) (hp : GRow encI w a ss) :
  Calls Try.prog 50 #[.slice a ss.length c, .int .i64 x] w fun e w' => (∃ r : Int, e = .returned (.int .i64 r) ∧ decide (0 ≤ r) = inS ss x) ∧ Below w.heap.size w w' := by
 have HP : Hid (GRow encI w a ss) := hp
 clear hp
 go_enter Try.func50, Try.ntmps50
 go_wp2
 go_loopw [5, 8] (fun _ t wr => ∃ k : Nat, k ≤ ss.length ∧ t = .int .i64 k ∧ Hid (NoIn ss x k) ∧ Hid (Below w.heap.size w wr)) (fun _ t _ => ss.length - (intOf t).toNat)
 case atStart => exact ⟨0, Nat.zero_le _, rfl, (fun j hj h => by omega), belowRefl w⟩
 case round =>
  obtain ⟨k, hk, rfl, HN, HB⟩ := hrel
  by_cases hlt : k < ss.length
  ·have hlt' : (k : Int) < (ss.length : Int) := by omega
   have h0 : (0 : Int) ≤ (k : Int) := by omega
   obtain ⟨b, off, rfl, hbl, hc⟩ := (HP.out.below HB.out) (by omega)
   have r0 := iat hc k hlt
   clear hc
   have HYes : Hid (x = ss[k] → inS ss x = true) := fun h => inS_yes k hlt h
   have HNo : Hid (¬ x = ss[k] → NoIn ss x (k + 1)) := fun h => noI_more HN.out hlt h
   obtain ⟨y, hy⟩ : ∃ y, y = ss[k] := ⟨_, rfl⟩
   rw [← hy] at r0 HYes HNo
   clear hy
   by_cases he : x = y
   ·have HY := hide (HYes.out he)
    have he' : decide (x = y) = true := by simp [he]
    have he'' : (x == y) = true := by simp [he]
    clear he
    go_wp2
    go_ret
    exact ⟨⟨_, rfl, by rw [HY.out]; simp⟩, HB.out⟩
   ·have HN2 := hide (HNo.out he)
    go_wp2
    go_roundw
    case rel => exact ⟨k + 1, by omega, by go_num, HN2, HB⟩
    case measure => simp [intOf]; omega
  ·have hd : ¬ (k : Int) < (ss.length : Int) := by omega
   have HR : Hid (inS ss x = false) := inS_no HN.out (by omega)
   go_wp2
   go_ret
   exact ⟨⟨_, rfl, by rw [HR.out]; decide⟩, HB.out⟩

set_option maxRecDepth 100000 in
set_option maxHeartbeats 2000000 in
theorem hasI (ss : List Int) (a : Option Addr) (c : Nat) (x : Int) (hn : ss.length ≤ 100000000) (w : World) (hp : GRow encI w a ss) :
  Calls Try.prog 93 #[.slice a ss.length c, .int .i64 x] w fun e w' => e = .returned (.bool (inS ss x)) ∧ Below w.heap.size w w' := by
 have H := hide (idxI ss a c x hn w hp)
 clear hp
 go_enter Try.func93, Try.ntmps93
 go_wp2_with fail
 refine H.out.mono ?_
 rintro e w1 ⟨⟨r, rfl, hr⟩, hb⟩
 have HR : Hid (decide (0 ≤ r) = inS ss x) := hr
 clear hr
 go_wp2
 go_ret
 exact ⟨ret_bool HR.out, hb⟩

theorem tone {y : Ta} : ∀ u ∈ encT.enc y, u.oneCell' = true := by
 intro u hu
 simp only [encT, List.mem_cons, List.not_mem_nil, or_false] at hu
 rcases hu with rfl | rfl | rfl | rfl | rfl | rfl | rfl | rfl <;> rfl
theorem wpAppG8 {ops : Array Oper} {rest : List Oper} {o : Oper} {a : Act} {Q : Exit → Act → World → Prop} (T e size bytes : Nat) (z : Value) (hT : Try.prog.underlying T = some (.slice e))
  (hinfo : (Try.prog.info? e).map (fun i => (i.zero, i.size, i.bytes)) = some (some z, size, bytes)) (hzs : z.cells.size = size) (hsz : 0 < size) (hby : bytes ≤ 128)
  (hgd : o.guard = none) (s x : Operand) (ho : o.op = .call { callee := .builtin .append, args := #[s, x], argTypes := #[T, T] })
  {W : World} {base g n : Nat} {v : Value} {xs : List Value} (news : List Value)
  (hs : a.eval s = v) (hown : W.ownsRow base e size v n xs) (hx : a.eval x = .slice (some ⟨g, 0, none⟩) 1 1) (hblk : W.heap[g]? = some (.cells news.toArray e (0, 0)))
  (hl : news.length = size) (h1 : ∀ u ∈ news, u.oneCell' = true) (hlen : n ≤ 100000000) (hB : base ≤ W.heap.size)
  (h : ∀ g' cap w', w'.ownsRow base e size (.slice (some ⟨g', 0, none⟩) (n + 1) cap) (n + 1) (xs ++ news) → Below base W w' → wpList Try.prog ops Q rest (a.put o.dst (.slice (some ⟨g', 0, none⟩) (n + 1) cap)) w') :
  wpList Try.prog ops Q (o :: rest) a W := by
 obtain ⟨i0, hi, hz0, hz1, hz2⟩ := info_parts hinfo
 refine wpList_append_lies _ hgd s x T ho base e i0 z size bytes hT hi hz0 hz1 hz2 hzs hsz v n xs hs hown ⟨g, 0, none⟩ 1 1 news hx (by omega) ?_ h1 (by omega) (by unfold maxLen; omega) ?_ hB _ rfl ?_
 ·intro j u hj
  rw [Addr.add_lit, Nat.zero_add, World.cell?, hblk]
  simpa using hj
 ·calc (n + 1) * bytes ≤ 100000001 * 128 := Nat.mul_le_mul (by omega) hby
   _ ≤ _ := by omega
 ·intro g' cap w' h1 h2 _ _
  exact h g' cap w' h1 ((Below.refl _ _).grown h2 hB (fun j hj => (World.ownsRow.lt hown j hj).1))
theorem wpAppT {ops : Array Oper} {rest : List Oper} {o : Oper} {a : Act} {Q : Exit → Act → World → Prop} (hgd : o.guard = none) (s x : Operand) (ho : o.op = .call { callee := .builtin .append, args := #[s, x], argTypes := #[23, 23] })
  {W : World} {base : Nat} {v : Value} {xs : List Ta} (y : Ta) (hs : a.eval s = v) (hown : GOwn encT 51 W base v xs)
  (hx : a.eval x = .slice (some ⟨W.heap.size, 0, none⟩) 1 1) (hlen : xs.length ≤ 100000000) (hB : base ≤ W.heap.size)
  (h : ∀ v' w', GOwn encT 51 w' base v' (xs ++ [y]) → Below base W w' → wpList Try.prog ops Q rest (a.put o.dst v') w') :
  wpList Try.prog ops Q (o :: rest) a (W.alloc (.cells #[.int .i64 y.t.id, .int .i64 y.t.st, .int .i64 y.t.snap, .int .i64 y.t.cs, .slice y.ra y.t.rs.length y.rc, .slice y.wa y.t.ws.length y.wc, .bool y.t.out, .string y.t.nm] 51)) := by
 refine wpAppG8 23 51 8 104 _ Try.underlying23 Try.info51 rfl (by omega) (by omega) hgd s x ho (encT.enc y) hs (World.ownsRow.alloc hown _) hx (heap_alloc_new W _) rfl tone (by omega) (by simp; omega) ?_
 intro g' cap w' h1 h2
 refine h _ w' ?_ (((Below.refl _ _).alloc hB _).trans h2)
 have e : encT.cells (xs ++ [y]) = encT.cells xs ++ encT.enc y := by rw [encT.cells_app]; simp [Enc.cells]
 unfold GOwn
 rw [e, List.length_append]
 exact h1
def inSt (ss : List Int) (x : Ta) : Bool := inS ss x.t.st
theorem txs_filter (p : Tx → Bool) (xs : List Ta) : txs (xs.filter fun x => p x.t) = (txs xs).filter p := by
 simp [txs, List.filter_map, Function.comp_def]

set_option maxRecDepth 100000 in
set_option maxHeartbeats 2000000 in
theorem inSt49 (xs : List Ta) (a : Option Addr) (c n : Nat) (hx : n = xs.length) (hn : n ≤ 10000000) (ss : List Int) (sa : Option Addr) (sc : Nat) (hs : ss.length ≤ 100000000) (w : World) (hp : TRows w a xs) (hr : GRow encI w sa ss) :
  Calls Try.prog 77 #[.slice a n c, .slice sa ss.length sc] w fun e w' => ∃ (a1 : Option Addr) (c1 n1 : Nat), e = .returned (.slice a1 n1 c1) ∧ n1 = (xs.filter (inSt ss)).length ∧ GOwn encT 51 w' w.heap.size (.slice a1 n1 c1) (xs.filter (inSt ss)) ∧ Below w.heap.size w w' := by
 have HP : Hid (TRows w a xs) := hp
 have HR : Hid (GRow encI w sa ss) := hr
 have HX : Hid (n = xs.length) := hx
 clear hp hr hx
 go_enter Try.func77, Try.ntmps77
 go_wp2
 go_loopw [5, 10] (fun v t wr => ∃ k : Nat, k ≤ n ∧ t = .int .i64 k ∧ Hid (GOwn encT 51 wr w.heap.size v ((xs.take k).filter (inSt ss))) ∧ Hid (Below w.heap.size w wr)) (fun _ t _ => n - (intOf t).toNat)
 case atStart => exact ⟨0, Nat.zero_le _, rfl, GOwn.nil _ _, belowRefl w⟩
 case round =>
  obtain ⟨k, hk, rfl, HO, HB⟩ := hrel
  by_cases hlt : k < n
  ·have hlt' : (k : Int) < (n : Int) := by omega
   have h0 : (0 : Int) ≤ (k : Int) := by omega
   have hkx : k < xs.length := by rw [← HX.out]; exact hlt
   obtain ⟨b, o, rfl, hbl, hc, -⟩ := (HP.out.below HB.out).cls k hkx
   have HYes : Hid (inSt ss xs[k] = true → (xs.take (k + 1)).filter (inSt ss) = (xs.take k).filter (inSt ss) ++ [xs[k]]) := fun h => by show _ = _; rw [filter_take _ xs k hkx, h]; rfl
   have HNo : Hid (inSt ss xs[k] = false → (xs.take (k + 1)).filter (inSt ss) = (xs.take k).filter (inSt ss)) := fun h => by show _ = _; rw [filter_take _ xs k hkx, h]; simp
   have HLn : Hid (((xs.take k).filter (inSt ss)).length ≤ 100000000) := Nat.le_trans (List.length_filter_le _ _) (Nat.le_trans (List.length_take_le _ _) (by omega))
   obtain ⟨x, hx⟩ : ∃ x, x = xs[k] := ⟨_, rfl⟩
   rw [← hx] at hc HYes HNo
   clear hx hkx
   have r0 := hc.c0
   have r1 := hc.c1
   have r2 := hc.c2
   have r3 := hc.c3
   have r4 := hc.c4
   have r5 := hc.c5
   have r6 := hc.c6
   have r7 := hc.c7
   clear hc
   obtain ⟨F, hF⟩ : ∃ F, F = (xs.take k).filter (inSt ss) := ⟨_, rfl⟩
   rw [← hF] at HO HYes HNo HLn
   clear hF
   have hln := HLn.out
   have HB1 : Hid (Below w.heap.size w (wr.alloc (.cells #[.int .i64 x.t.id, .int .i64 x.t.st, .int .i64 x.t.snap, .int .i64 x.t.cs, .slice x.ra x.t.rs.length x.rc, .slice x.wa x.t.ws.length x.wc, .bool x.t.out, .string x.t.nm] 51))) := HB.out.alloc HB.out.size _
   have BX1 : Hid (Bx (wr.alloc (.cells #[.int .i64 x.t.id, .int .i64 x.t.st, .int .i64 x.t.snap, .int .i64 x.t.cs, .slice x.ra x.t.rs.length x.rc, .slice x.wa x.t.ws.length x.wc, .bool x.t.out, .string x.t.nm] 51)) wr.heap.size [.int .i64 x.t.id, .int .i64 x.t.st, .int .i64 x.t.snap, .int .i64 x.t.cs, .slice x.ra x.t.rs.length x.rc, .slice x.wa x.t.ws.length x.wc, .bool x.t.out, .string x.t.nm]) := Bx.new wr [.int .i64 x.t.id, .int .i64 x.t.st, .int .i64 x.t.snap, .int .i64 x.t.cs, .slice x.ra x.t.rs.length x.rc, .slice x.wa x.t.ws.length x.wc, .bool x.t.out, .string x.t.nm] 51
   have O1 := hide (HO.out.alloc (.cells #[.int .i64 x.t.id, .int .i64 x.t.st, .int .i64 x.t.snap, .int .i64 x.t.cs, .slice x.ra x.t.rs.length x.rc, .slice x.wa x.t.ws.length x.wc, .bool x.t.out, .string x.t.nm] 51))
   have H1 := hide (hasI ss sa sc x.t.st hs _ (HR.out.below HB1.out))
   cases hq : inSt ss x
   ·have hq' : inS ss x.t.st = false := hq
    rw [hq'] at H1
    have HE := hide (HNo.out hq)
    clear hq hq'
    go_wp2_with fail
    refine H1.out.mono ?_
    rintro e w2 ⟨rfl, hb2⟩
    have HB2 : Hid (Below w.heap.size w w2) := HB1.out.trans (hb2.mono HB1.out.size)
    have O2 := hide (O1.out.below hb2)
    clear hb2 r0 r1 r2 r3 r4 r5 r6 r7
    go_wp2
    go_roundw
    case rel => exact ⟨k + 1, by omega, by go_num, by rw [HE.out]; exact O2, HB2⟩
    case measure => simp [intOf]; omega
   ·have hq' : inS ss x.t.st = true := hq
    rw [hq'] at H1
    have HE := hide (HYes.out hq)
    clear hq hq'
    go_wp2_with fail
    refine H1.out.mono ?_
    rintro e w2 ⟨rfl, hb2⟩
    have HB2 : Hid (Below w.heap.size w w2) := HB1.out.trans (hb2.mono HB1.out.size)
    have O2 := hide (O1.out.below hb2)
    have BX2 : Hid (Bx w2 wr.heap.size [.int .i64 x.t.id, .int .i64 x.t.st, .int .i64 x.t.snap, .int .i64 x.t.cs, .slice x.ra x.t.rs.length x.rc, .slice x.wa x.t.ws.length x.wc, .bool x.t.out, .string x.t.nm]) := BX1.out.below hb2
    clear hb2 r0 r1 r2 r3 r4 r5 r6 r7
    have x0 := BX2.out.c0
    have x1 := BX2.out.c1
    have x2 := BX2.out.c2
    have x3 := BX2.out.c3
    have x4 := BX2.out.c4
    have x5 := BX2.out.c5
    have x6 := BX2.out.c6
    have x7 := BX2.out.c7
    have hsz := HB2.out.size
    go_wp2_with (at_builtin; refine wpAppT rfl _ _ rfl x rfl O2.out rfl hln hsz ?_)
    intro v' w3 ho3 hb3
    have O3 : Hid (GOwn encT 51 w3 w.heap.size v' (F ++ [x])) := ho3
    have HB3 : Hid (Below w.heap.size w w3) := HB2.out.trans hb3
    clear ho3 hb3 x0 x1 x2 x3 x4 x5 x6 x7
    go_wp2
    go_roundw
    case rel => exact ⟨k + 1, by omega, by go_num, by rw [HE.out]; exact O3, HB3⟩
    case measure => simp [intOf]; omega
  ·have hd : ¬ (k : Int) < (n : Int) := by omega
   have HE : Hid (xs.take k = xs) := List.take_of_length_le (by rw [← HX.out]; omega)
   rw [HE.out] at HO
   obtain ⟨a1, c1, rfl, _⟩ := HO.out.row
   obtain ⟨n1, hn1⟩ : ∃ n1, n1 = (xs.filter (inSt ss)).length := ⟨_, rfl⟩
   rw [← hn1] at HO ⊢
   have HN1 : Hid (n1 = (xs.filter (inSt ss)).length) := hn1
   clear hn1
   go_wp2
   go_ret
   exact ⟨a1, c1, n1, rfl, HN1.out, HO.out, HB.out⟩

end Go.Proofs.Ytjeicgibddfifaa

namespace Go.Proofs.Ytjeicgibddfifaa
open Go.RowKit
open KM
attribute [local go_sem ↓] Go.wp_at_zero Go.wp_at_succ

theorem bx_low {w w' : World} {b base : Nat} {cs : List Value} (h : Bx w b cs) (hb : Below base w w') (hl : b < base) : Bx w' b cs :=
 ⟨Nat.lt_of_lt_of_le h.lt hb.size, fun j hj => (hb.cell (p := ⟨b, j, none⟩) hl).trans (h.at' j hj), fun j => (hb.frozen (p := ⟨b, j, none⟩) hl).trans (h.fz j)⟩
end Go.Proofs.Ytjeicgibddfifaa

namespace Go.Proofs.Ytjeicgibddfifaa
open Go.RowKit
open KM
attribute [local go_sem ↓] Go.wp_at_zero Go.wp_at_succ

set_option maxRecDepth 100000 in
set_option maxHeartbeats 2000000 in
theorem by42 (a : Option Addr) (c n : Nat) (w : World) : Calls Try.prog 29 #[.slice a n c] w fun e w' => e = .returned (.agg #[.slice a n c, .func (.func 49) #[] #[]]) ∧ Below w.heap.size w w' := by
 go_enter Try.func29, Try.ntmps29
 go_wp2
 refine bodyPost_ret (v := .agg #[.slice a n c, .func (.func 49) #[] #[]]) (by simp [results, Try.results29, go_sem]) rfl ⟨rfl, ?_⟩
 exact (belowRefl w).alloc (Nat.le_refl _) _

set_option maxRecDepth 100000 in
set_option maxHeartbeats 2000000 in
theorem key67 (x : Ta) (w : World) : Calls Try.prog 49 #[.agg #[.int .i64 x.t.id, .int .i64 x.t.st, .int .i64 x.t.snap, .int .i64 x.t.cs, .slice x.ra x.t.rs.length x.rc, .slice x.wa x.t.ws.length x.wc, .bool x.t.out, .string x.t.nm]] w fun e w' => e = .returned (.int .i64 x.t.id) ∧ Below w.heap.size w w' := by
 have HB : Hid (Below w.heap.size w (w.alloc (.cells #[.int .i64 x.t.id, .int .i64 x.t.st, .int .i64 x.t.snap, .int .i64 x.t.cs, .slice x.ra x.t.rs.length x.rc, .slice x.wa x.t.ws.length x.wc, .bool x.t.out, .string x.t.nm] 51))) := (belowRefl w).alloc (Nat.le_refl _) _
 go_enter Try.func49, Try.ntmps49
 go_wp2
 go_ret
 exact ⟨rfl, HB.out⟩

set_option maxRecDepth 100000 in
set_option maxHeartbeats 2000000 in
theorem keys67 (xs : List Ta) (a : Option Addr) (c n : Nat) (hx : n = xs.length) (hn : n ≤ 10000000) (w : World) (hp : TRows w a xs) :
  Calls Try.prog 51 #[.agg #[.slice a n c, .func (.func 49) #[] #[]]] w fun e w' => ∃ (a1 : Option Addr) (c1 : Nat), e = .returned (.slice a1 n c1) ∧ GOwn encI 3 w' (w.heap.size + 1) (.slice a1 n c1) (xs.map fun x : Ta => x.t.id) ∧ Below w.heap.size w w' := by
 have BA0 : Hid (Bx (w.alloc (.cells #[.slice a n c, .func (.func 49) #[] #[]] 56)) w.heap.size [.slice a n c, .func (.func 49) #[] #[]]) := Bx.new w [.slice a n c, .func (.func 49) #[] #[]] 56
 have HB0 : Hid (Below w.heap.size w (w.alloc (.cells #[.slice a n c, .func (.func 49) #[] #[]] 56))) := (belowRefl w).alloc (Nat.le_refl _) _
 have HP : Hid (TRows w a xs) := hp
 have HX : Hid (n = xs.length) := hx
 clear hp hx
 go_enter Try.func51, Try.ntmps51
 go_upto_region 1 with fail
 generalize (w.alloc (.cells #[.slice a n c, .func (.func 49) #[] #[]] 56)) = w0 at *
 have x0 := BA0.out.c0
 go_wp2
 go_loopw [3, 9] (fun v t wr => ∃ k : Nat, k ≤ n ∧ t = .int .i64 k ∧ Hid (GOwn encI 3 wr (w.heap.size + 1) v ((xs.take k).map fun x : Ta => x.t.id)) ∧ Hid (Below w.heap.size w wr) ∧ Hid (Bx wr w.heap.size [.slice a n c, .func (.func 49) #[] #[]])) (fun _ t _ => n - (intOf t).toNat)
 case atStart => exact ⟨0, Nat.zero_le _, rfl, GOwn.nil _ _, HB0, BA0⟩
 case round =>
  clear BA0 HB0 x0
  obtain ⟨k, hk, rfl, HO, HB, BA⟩ := hrel
  by_cases hlt : k < n
  ·have hlt' : (k : Int) < (n : Int) := by omega
   have h0 : (0 : Int) ≤ (k : Int) := by omega
   have hkx : k < xs.length := by rw [← HX.out]; exact hlt
   obtain ⟨b, o, rfl, hbl, hc, -⟩ := (HP.out.below HB.out).cls k hkx
   have HNX : Hid (((xs.take (k + 1)).map fun x : Ta => x.t.id) = ((xs.take k).map fun x : Ta => x.t.id) ++ [xs[k].t.id]) := by
    show _ = _
    rw [List.take_add_one, List.getElem?_eq_getElem hkx, List.map_append]
    rfl
   have HLn : Hid (((xs.take k).map fun x : Ta => x.t.id).length ≤ 100000000) := by show _ ≤ _; rw [List.length_map]; exact Nat.le_trans (List.length_take_le _ _) (by omega)
   obtain ⟨x, hx⟩ : ∃ x, x = xs[k] := ⟨_, rfl⟩
   rw [← hx] at hc HNX
   clear hx hkx
   have r0 := hc.c0
   have r1 := hc.c1
   have r2 := hc.c2
   have r3 := hc.c3
   have r4 := hc.c4
   have r5 := hc.c5
   have r6 := hc.c6
   have r7 := hc.c7
   clear hc
   obtain ⟨F, hF⟩ : ∃ F, F = ((xs.take k).map fun x : Ta => x.t.id) := ⟨_, rfl⟩
   rw [← hF] at HO HNX HLn
   clear hF
   have hln := HLn.out
   have HB1 : Hid (Below w.heap.size w (wr.alloc (.cells #[.int .i64 x.t.id, .int .i64 x.t.st, .int .i64 x.t.snap, .int .i64 x.t.cs, .slice x.ra x.t.rs.length x.rc, .slice x.wa x.t.ws.length x.wc, .bool x.t.out, .string x.t.nm] 51))) := HB.out.alloc HB.out.size _
   have BX1 : Hid (Bx (wr.alloc (.cells #[.int .i64 x.t.id, .int .i64 x.t.st, .int .i64 x.t.snap, .int .i64 x.t.cs, .slice x.ra x.t.rs.length x.rc, .slice x.wa x.t.ws.length x.wc, .bool x.t.out, .string x.t.nm] 51)) wr.heap.size [.int .i64 x.t.id, .int .i64 x.t.st, .int .i64 x.t.snap, .int .i64 x.t.cs, .slice x.ra x.t.rs.length x.rc, .slice x.wa x.t.ws.length x.wc, .bool x.t.out, .string x.t.nm]) := Bx.new wr [.int .i64 x.t.id, .int .i64 x.t.st, .int .i64 x.t.snap, .int .i64 x.t.cs, .slice x.ra x.t.rs.length x.rc, .slice x.wa x.t.ws.length x.wc, .bool x.t.out, .string x.t.nm] 51
   have BA1 : Hid (Bx (wr.alloc (.cells #[.int .i64 x.t.id, .int .i64 x.t.st, .int .i64 x.t.snap, .int .i64 x.t.cs, .slice x.ra x.t.rs.length x.rc, .slice x.wa x.t.ws.length x.wc, .bool x.t.out, .string x.t.nm] 51)) w.heap.size [.slice (some ⟨b, o, none⟩) n c, .func (.func 49) #[] #[]]) := BA.out.alloc _
   have O1 := hide (HO.out.alloc (.cells #[.int .i64 x.t.id, .int .i64 x.t.st, .int .i64 x.t.snap, .int .i64 x.t.cs, .slice x.ra x.t.rs.length x.rc, .slice x.wa x.t.ws.length x.wc, .bool x.t.out, .string x.t.nm] 51))
   go_upto_region 5 with fail
   clear r0 r1 r2 r3 r4 r5 r6 r7 BA HO HB
   generalize (wr.alloc (.cells #[.int .i64 x.t.id, .int .i64 x.t.st, .int .i64 x.t.snap, .int .i64 x.t.cs, .slice x.ra x.t.rs.length x.rc, .slice x.wa x.t.ws.length x.wc, .bool x.t.out, .string x.t.nm] 51)) = w1 at *
   have y1 := BA1.out.c1
   have x0 := BX1.out.c0
   have x1 := BX1.out.c1
   have x2 := BX1.out.c2
   have x3 := BX1.out.c3
   have x4 := BX1.out.c4
   have x5 := BX1.out.c5
   have x6 := BX1.out.c6
   have x7 := BX1.out.c7
   go_wp2_with fail
   refine (key67 x _).mono ?_
   rintro e w2 ⟨rfl, hb2⟩
   have HB2 : Hid (Below w.heap.size w w2) := HB1.out.trans (hb2.mono HB1.out.size)
   have O2 := hide (O1.out.below hb2)
   have BA2 := hide (BA1.out.below hb2)
   have hsz2 := BA2.out.lt
   clear hb2 y1 x0 x1 x2 x3 x4 x5 x6 x7
   obtain ⟨yy, hyy⟩ : ∃ yy, yy = x.t.id := ⟨_, rfl⟩
   rw [← hyy] at HNX ⊢
   clear hyy
   have HBK : Hid ((w2.alloc (.cells #[.int .i64 yy] 3)).heap[w2.heap.size]? = some (.cells (encI.enc yy).toArray 3 (0, 0))) := heap_alloc_new w2 _
   have O2a := hide (O2.out.alloc (.cells #[.int .i64 yy] 3))
   obtain ⟨n0, hn0⟩ : ∃ n0, n0 = F.length := ⟨_, rfl⟩
   go_wp2_with (at_builtin; refine wpAppK (E := encI) 78 3 8 _ Try.underlying78 Try.info3 rfl (by omega) rfl _ _ rfl yy oneI rfl O2a.out rfl HBK.out hln (by simp; omega) ?_)
   intro g' cap w3 ho3 hg3 hg4 hlt3
   have hb3 : Below (w.heap.size + 1) w2 w3 := ((Below.refl _ _).alloc (Nat.succ_le_of_lt hsz2) _).trans ((Below.refl _ _).grown hg3 (by simp; omega) (fun j hj => (World.ownsRow.lt O2a.out j hj).1))
   have O3 : Hid (GOwn encI 3 w3 (w.heap.size + 1) (.slice (some ⟨g', 0, none⟩) (F.length + 1) cap) (F ++ [yy])) := ho3
   have HB3 : Hid (Below w.heap.size w w3) := HB2.out.trans (hb3.mono (Nat.le_succ _))
   have BA3 := hide (bx_low BA2.out hb3 (Nat.lt_succ_self _))
   clear ho3 hb3 hg3 hg4 hlt3 O2a O2 HBK hn0
   go_wp2
   go_roundw
   case rel => exact ⟨k + 1, by omega, by go_num, by rw [HNX.out]; exact O3, HB3, BA3⟩
   case measure => simp [intOf]; omega
  ·have hd : ¬ (k : Int) < (n : Int) := by omega
   have HE : Hid (xs.take k = xs) := List.take_of_length_le (by rw [← HX.out]; omega)
   rw [HE.out] at HO
   have HL : Hid ((xs.map fun x : Ta => x.t.id).length = n) := by show _ = _; rw [List.length_map, HX.out]
   obtain ⟨a1, c1, rfl, _⟩ := HO.out.row
   rw [HL.out] at HO ⊢
   go_wp2
   go_ret
   exact ⟨a1, c1, rfl, HO.out, HB.out⟩

end Go.Proofs.Ytjeicgibddfifaa

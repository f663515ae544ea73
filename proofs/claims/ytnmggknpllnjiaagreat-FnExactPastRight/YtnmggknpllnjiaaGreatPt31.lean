/- Those of a list that are in one of some states: slices.Contains over numbers, inState. -/
import Derived.Test.YtnmggknpllnjiaaGreatPt30
import Derived.Test.YtnmggknpllnjiaaGreatPt18
namespace Go.Proofs.YtnmggknpllnjiaaGreat
open Go.RowKit
open KM
attribute [local go_sem ↓] Go.wp_at_zero Go.wp_at_succ

def inS (ss : List Int) (x : Int) : Bool := ss.any fun s => decide (x = s)
def NoIn (ss : List Int) (x : Int) (k : Nat) : Prop := ∀ j (hj : j < ss.length), j < k → ¬ x = ss[j]
theorem inS_yes {ss : List Int} {x : Int} (k : Nat) (hk : k < ss.length) (h : x = ss[k]) : inS ss x = true := List.any_eq_true.2 ⟨_, List.getElem_mem hk, by simpa using h⟩
theorem inS_no {ss : List Int} {x : Int} {k : Nat} (h : NoIn ss x k) (hk : ss.length ≤ k) : inS ss x = false := by
 unfold inS
 rw [List.any_eq_false]
 intro s hs
 obtain ⟨j, hj, rfl⟩ := List.getElem_of_mem hs
 simpa using h j hj (by omega)
theorem noI_more {ss : List Int} {x : Int} {k : Nat} (h : NoIn ss x k) (hk : k < ss.length) (h2 : ¬ x = ss[k]) : NoIn ss x (k + 1) := fun j hj hjk => by
 by_cases e : j = k
 ·subst e; exact h2
 ·exact h j hj (by omega)

set_option maxRecDepth 100000 in
set_option maxHeartbeats 2000000 in
theorem idxI (ss : List Int) (a : Option Addr) (c : Nat) (x : Int) (hn : ss.length ≤ 100000000) (w : World) (hp : GRow encI w a ss) :
  Calls Tryz.prog 64 #[.slice a ss.length c, .int .i64 x] w fun e w' => (∃ r : Int, e = .returned (.int .i64 r) ∧ decide (0 ≤ r) = inS ss x) ∧ Below w.heap.size w w' := by
 have HP : Hid (GRow encI w a ss) := hp
 clear hp
 go_enter Tryz.func64, Tryz.ntmps64
 go_wp2
 go_loopw [5, 8] (fun _ t wr => ∃ k : Nat, k ≤ ss.length ∧ t = .int .i64 k ∧ Hid (NoIn ss x k) ∧ Hid (Below w.heap.size w wr)) (fun _ t _ => ss.length - (intOf t).toNat)
 case atStart => exact ⟨0, Nat.zero_le _, rfl, (fun j hj h => by omega), belowRefl w⟩
 case round =>
  obtain ⟨k, hk, rfl, HN, HB⟩ := hrel
  by_cases hlt : k < ss.length
  ·have hlt' : (k : Int) < (ss.length : Int) := by omega
   have h0 : (0 : Int) ≤ (k : Int) := by omega
   obtain ⟨b, off, rfl, hbl, hc⟩ := (HP.out.below HB.out) (by omega)
   have r0 := iat hc k hlt
   clear hc
   have HYes : Hid (x = ss[k] → inS ss x = true) := fun h => inS_yes k hlt h
   have HNo : Hid (¬ x = ss[k] → NoIn ss x (k + 1)) := fun h => noI_more HN.out hlt h
   obtain ⟨y, hy⟩ : ∃ y, y = ss[k] := ⟨_, rfl⟩
   rw [← hy] at r0 HYes HNo
   clear hy
   by_cases he : x = y
   ·have HY := hide (HYes.out he)
    have he' : decide (x = y) = true := by simp [he]
    have he'' : (x == y) = true := by simp [he]
    clear he
    go_wp2
    go_ret
    exact ⟨⟨_, rfl, by rw [HY.out]; simp⟩, HB.out⟩
   ·have HN2 := hide (HNo.out he)
    go_wp2
    go_roundw
    case rel => exact ⟨k + 1, by omega, by go_num, HN2, HB⟩
    case measure => simp [intOf]; omega
  ·have hd : ¬ (k : Int) < (ss.length : Int) := by omega
   have HR : Hid (inS ss x = false) := inS_no HN.out (by omega)
   go_wp2
   go_ret
   exact ⟨⟨_, rfl, by rw [HR.out]; decide⟩, HB.out⟩

set_option maxRecDepth 100000 in
set_option maxHeartbeats 2000000 in
theorem hasI (ss : List Int) (a : Option Addr) (c : Nat) (x : Int) (hn : ss.length ≤ 100000000) (w : World) (hp : GRow encI w a ss) :
  Calls Tryz.prog 46 #[.slice a ss.length c, .int .i64 x] w fun e w' => e = .returned (.bool (inS ss x)) ∧ Below w.heap.size w w' := by
 have H := hide (idxI ss a c x hn w hp)
 clear hp
 go_enter Tryz.func46, Tryz.ntmps46
 go_wp2_with fail
 refine H.out.mono ?_
 rintro e w1 ⟨⟨r, rfl, hr⟩, hb⟩
 have HR : Hid (decide (0 ≤ r) = inS ss x) := hr
 clear hr
 go_wp2
 go_ret
 exact ⟨ret_bool HR.out, hb⟩

theorem wpAppG8 {ops : Array Oper} {rest : List Oper} {o : Oper} {a : Act} {Q : Exit → Act → World → Prop} (T e size bytes : Nat) (z : Value) (hT : Tryz.prog.underlying T = some (.slice e))
  (hinfo : (Tryz.prog.info? e).map (fun i => (i.zero, i.size, i.bytes)) = some (some z, size, bytes)) (hzs : z.cells.size = size) (hsz : 0 < size) (hby : bytes ≤ 128)
  (hgd : o.guard = none) (s x : Operand) (ho : o.op = .call { callee := .builtin .append, args := #[s, x], argTypes := #[T, T] })
  {W : World} {base g n : Nat} {v : Value} {xs : List Value} (news : List Value)
  (hs : a.eval s = v) (hown : W.ownsRow base e size v n xs) (hx : a.eval x = .slice (some ⟨g, 0, none⟩) 1 1) (hblk : W.heap[g]? = some (.cells news.toArray e (0, 0)))
  (hl : news.length = size) (h1 : ∀ u ∈ news, u.oneCell' = true) (hlen : n ≤ 100000000) (hB : base ≤ W.heap.size)
  (h : ∀ g' cap w', w'.ownsRow base e size (.slice (some ⟨g', 0, none⟩) (n + 1) cap) (n + 1) (xs ++ news) → Below base W w' → wpList Tryz.prog ops Q rest (a.put o.dst (.slice (some ⟨g', 0, none⟩) (n + 1) cap)) w') :
  wpList Tryz.prog ops Q (o :: rest) a W := by
 obtain ⟨i0, hi, hz0, hz1, hz2⟩ := info_parts hinfo
 refine wpList_append_lies _ hgd s x T ho base e i0 z size bytes hT hi hz0 hz1 hz2 hzs hsz v n xs hs hown ⟨g, 0, none⟩ 1 1 news hx (by omega) ?_ h1 (by omega) (by unfold maxLen; omega) ?_ hB _ rfl ?_
 ·intro j u hj
  rw [Addr.add_lit, Nat.zero_add, World.cell?, hblk]
  simpa using hj
 ·calc (n + 1) * bytes ≤ 100000001 * 128 := Nat.mul_le_mul (by omega) hby
   _ ≤ _ := by omega
 ·intro g' cap w' h1 h2 _ _
  exact h g' cap w' h1 ((Below.refl _ _).grown h2 hB (fun j hj => (World.ownsRow.lt hown j hj).1))
theorem wpAppT {ops : Array Oper} {rest : List Oper} {o : Oper} {a : Act} {Q : Exit → Act → World → Prop} (hgd : o.guard = none) (s x : Operand) (ho : o.op = .call { callee := .builtin .append, args := #[s, x], argTypes := #[40, 40] })
  {W : World} {base : Nat} {v : Value} {xs : List Ta} (y : Ta) (hs : a.eval s = v) (hown : GOwn encT 63 W base v xs)
  (hx : a.eval x = .slice (some ⟨W.heap.size, 0, none⟩) 1 1) (hlen : xs.length ≤ 100000000) (hB : base ≤ W.heap.size)
  (h : ∀ v' w', GOwn encT 63 w' base v' (xs ++ [y]) → Below base W w' → wpList Tryz.prog ops Q rest (a.put o.dst v') w') :
  wpList Tryz.prog ops Q (o :: rest) a (W.alloc (.cells #[.int .i64 y.t.id, .int .i64 y.t.st, .int .i64 y.t.snap, .int .i64 y.t.cs, .slice y.ra y.t.rs.length y.rc, .slice y.wa y.t.ws.length y.wc, .bool y.t.out, .string y.t.nm] 63)) := by
 refine wpAppG8 40 63 8 104 _ Tryz.underlying40 Tryz.info63 rfl (by omega) (by omega) hgd s x ho (encT.enc y) hs (World.ownsRow.alloc hown _) hx (heap_alloc_new W _) rfl tone (by omega) (by simp; omega) ?_
 intro g' cap w' h1 h2
 refine h _ w' ?_ (((Below.refl _ _).alloc hB _).trans h2)
 have e : encT.cells (xs ++ [y]) = encT.cells xs ++ encT.enc y := by rw [encT.cells_app]; simp [Enc.cells]
 unfold GOwn
 rw [e, List.length_append]
 exact h1
def inSt (ss : List Int) (x : Ta) : Bool := inS ss x.t.st
set_option maxRecDepth 100000 in
set_option maxHeartbeats 2000000 in
theorem inSt49 (xs : List Ta) (a : Option Addr) (c n : Nat) (hx : n = xs.length) (hn : n ≤ 10000000) (ss : List Int) (sa : Option Addr) (sc : Nat) (hs : ss.length ≤ 100000000) (w : World) (hp : TRows w a xs) (hr : GRow encI w sa ss) :
  Calls Tryz.prog 24 #[.slice a n c, .slice sa ss.length sc] w fun e w' => ∃ (a1 : Option Addr) (c1 n1 : Nat), e = .returned (.slice a1 n1 c1) ∧ n1 = (xs.filter (inSt ss)).length ∧ GOwn encT 63 w' w.heap.size (.slice a1 n1 c1) (xs.filter (inSt ss)) ∧ Below w.heap.size w w' := by
 have HP : Hid (TRows w a xs) := hp
 have HR : Hid (GRow encI w sa ss) := hr
 have HX : Hid (n = xs.length) := hx
 clear hp hr hx
 go_enter Tryz.func24, Tryz.ntmps24
 go_wp2
 go_loopw [5, 10] (fun v t wr => ∃ k : Nat, k ≤ n ∧ t = .int .i64 k ∧ Hid (GOwn encT 63 wr w.heap.size v ((xs.take k).filter (inSt ss))) ∧ Hid (Below w.heap.size w wr)) (fun _ t _ => n - (intOf t).toNat)
 case atStart => exact ⟨0, Nat.zero_le _, rfl, GOwn.nil _ _, belowRefl w⟩
 case round =>
  obtain ⟨k, hk, rfl, HO, HB⟩ := hrel
  by_cases hlt : k < n
  ·have hlt' : (k : Int) < (n : Int) := by omega
   have h0 : (0 : Int) ≤ (k : Int) := by omega
   have hkx : k < xs.length := by rw [← HX.out]; exact hlt
   obtain ⟨b, o, rfl, hbl, hc, -⟩ := (HP.out.below HB.out).cls k hkx
   have HYes : Hid (inSt ss xs[k] = true → (xs.take (k + 1)).filter (inSt ss) = (xs.take k).filter (inSt ss) ++ [xs[k]]) := fun h => by show _ = _; rw [filter_take _ xs k hkx, h]; rfl
   have HNo : Hid (inSt ss xs[k] = false → (xs.take (k + 1)).filter (inSt ss) = (xs.take k).filter (inSt ss)) := fun h => by show _ = _; rw [filter_take _ xs k hkx, h]; simp
   have HLn : Hid (((xs.take k).filter (inSt ss)).length ≤ 100000000) := Nat.le_trans (List.length_filter_le _ _) (Nat.le_trans (List.length_take_le _ _) (by omega))
   obtain ⟨x, hx⟩ : ∃ x, x = xs[k] := ⟨_, rfl⟩
   rw [← hx] at hc HYes HNo
   clear hx hkx
   have r0 := hc.c0
   have r1 := hc.c1
   have r2 := hc.c2
   have r3 := hc.c3
   have r4 := hc.c4
   have r5 := hc.c5
   have r6 := hc.c6
   have r7 := hc.c7
   clear hc
   obtain ⟨F, hF⟩ : ∃ F, F = (xs.take k).filter (inSt ss) := ⟨_, rfl⟩
   rw [← hF] at HO HYes HNo HLn
   clear hF
   have hln := HLn.out
   have HB1 : Hid (Below w.heap.size w (wr.alloc (.cells #[.int .i64 x.t.id, .int .i64 x.t.st, .int .i64 x.t.snap, .int .i64 x.t.cs, .slice x.ra x.t.rs.length x.rc, .slice x.wa x.t.ws.length x.wc, .bool x.t.out, .string x.t.nm] 63))) := HB.out.alloc HB.out.size _
   have BX1 : Hid (Bx (wr.alloc (.cells #[.int .i64 x.t.id, .int .i64 x.t.st, .int .i64 x.t.snap, .int .i64 x.t.cs, .slice x.ra x.t.rs.length x.rc, .slice x.wa x.t.ws.length x.wc, .bool x.t.out, .string x.t.nm] 63)) wr.heap.size [.int .i64 x.t.id, .int .i64 x.t.st, .int .i64 x.t.snap, .int .i64 x.t.cs, .slice x.ra x.t.rs.length x.rc, .slice x.wa x.t.ws.length x.wc, .bool x.t.out, .string x.t.nm]) := Bx.new wr [.int .i64 x.t.id, .int .i64 x.t.st, .int .i64 x.t.snap, .int .i64 x.t.cs, .slice x.ra x.t.rs.length x.rc, .slice x.wa x.t.ws.length x.wc, .bool x.t.out, .string x.t.nm] 63
   have O1 := hide (HO.out.alloc (.cells #[.int .i64 x.t.id, .int .i64 x.t.st, .int .i64 x.t.snap, .int .i64 x.t.cs, .slice x.ra x.t.rs.length x.rc, .slice x.wa x.t.ws.length x.wc, .bool x.t.out, .string x.t.nm] 63))
   have H1 := hide (hasI ss sa sc x.t.st hs _ (HR.out.below HB1.out))
   cases hq : inSt ss x
   ·have hq' : inS ss x.t.st = false := hq
    rw [hq'] at H1
    have HE := hide (HNo.out hq)
    clear hq hq'
    go_wp2_with fail
    refine H1.out.mono ?_
    rintro e w2 ⟨rfl, hb2⟩
    have HB2 : Hid (Below w.heap.size w w2) := HB1.out.trans (hb2.mono HB1.out.size)
    have O2 := hide (O1.out.below hb2)
    clear hb2 r0 r1 r2 r3 r4 r5 r6 r7
    go_wp2
    go_roundw
    case rel => exact ⟨k + 1, by omega, by go_num, by rw [HE.out]; exact O2, HB2⟩
    case measure => simp [intOf]; omega
   ·have hq' : inS ss x.t.st = true := hq
    rw [hq'] at H1
    have HE := hide (HYes.out hq)
    clear hq hq'
    go_wp2_with fail
    refine H1.out.mono ?_
    rintro e w2 ⟨rfl, hb2⟩
    have HB2 : Hid (Below w.heap.size w w2) := HB1.out.trans (hb2.mono HB1.out.size)
    have O2 := hide (O1.out.below hb2)
    have BX2 : Hid (Bx w2 wr.heap.size [.int .i64 x.t.id, .int .i64 x.t.st, .int .i64 x.t.snap, .int .i64 x.t.cs, .slice x.ra x.t.rs.length x.rc, .slice x.wa x.t.ws.length x.wc, .bool x.t.out, .string x.t.nm]) := BX1.out.below hb2
    clear hb2 r0 r1 r2 r3 r4 r5 r6 r7
    have x0 := BX2.out.c0
    have x1 := BX2.out.c1
    have x2 := BX2.out.c2
    have x3 := BX2.out.c3
    have x4 := BX2.out.c4
    have x5 := BX2.out.c5
    have x6 := BX2.out.c6
    have x7 := BX2.out.c7
    have hsz := HB2.out.size
    go_wp2_with (at_builtin; refine wpAppT rfl _ _ rfl x rfl O2.out rfl hln hsz ?_)
    intro v' w3 ho3 hb3
    have O3 : Hid (GOwn encT 63 w3 w.heap.size v' (F ++ [x])) := ho3
    have HB3 : Hid (Below w.heap.size w w3) := HB2.out.trans hb3
    clear ho3 hb3 x0 x1 x2 x3 x4 x5 x6 x7
    go_wp2
    go_roundw
    case rel => exact ⟨k + 1, by omega, by go_num, by rw [HE.out]; exact O3, HB3⟩
    case measure => simp [intOf]; omega
  ·have hd : ¬ (k : Int) < (n : Int) := by omega
   have HE : Hid (xs.take k = xs) := List.take_of_length_le (by rw [← HX.out]; omega)
   rw [HE.out] at HO
   obtain ⟨a1, c1, rfl, _⟩ := HO.out.row
   obtain ⟨n1, hn1⟩ : ∃ n1, n1 = (xs.filter (inSt ss)).length := ⟨_, rfl⟩
   rw [← hn1] at HO ⊢
   have HN1 : Hid (n1 = (xs.filter (inSt ss)).length) := hn1
   clear hn1
   go_wp2
   go_ret
   exact ⟨a1, c1, n1, rfl, HN1.out, HO.out, HB.out⟩

end Go.Proofs.YtnmggknpllnjiaaGreat

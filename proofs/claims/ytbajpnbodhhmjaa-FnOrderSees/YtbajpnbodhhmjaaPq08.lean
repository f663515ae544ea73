/- One by one: countBehind, the counts of those that one must come before. -/
import Derived.Test.YtbajpnbodhhmjaaPq07
import Derived.Test.YtbajpnbodhhmjaaPq03
import Derived.Deep.Cut
namespace Go.Proofs.Ytbajpnbodhhmjaa
open Go.RowKit
open KM
attribute [local go_sem ↓] Go.wp_at_zero Go.wp_at_succ

theorem own_int {W : World} {base g cap n : Nat} {l : List Int} (h : GOwn encI 3 W base (.slice (some ⟨g, 0, none⟩) n cap) l) (hn : n = l.length) (i : Nat) (x : Int) :
    GOwn encI 3 (W.setCell ⟨g, i, none⟩ (.int .i64 x)) base (.slice (some ⟨g, 0, none⟩) n cap) (l.set i x) := by
  have hc : encI.cells (l.set i x) = (encI.cells l).set i (.int .i64 x) := by
    have e : ∀ ys : List Int, encI.cells ys = ys.map (fun y => Value.int .i64 y) := fun ys => by
      induction ys with
      | nil => rfl
      | cons y ys ih =>
        simp [Enc.cells, encI] at ih ⊢
        exact ih
    rw [e, e, List.map_set]
  subst hn
  unfold GOwn
  rw [hc, List.length_set]
  exact (World.ownsRow.stored h i _).1
def addK (t : Tx) (by' : Int) (ts : List Tx) (xs : List Int) (k : Nat) : List Int := (addL t by' ts xs).take k ++ xs.drop k
theorem addK_len (t : Tx) (by' : Int) (ts : List Tx) (xs : List Int) (k : Nat) (hk : k ≤ xs.length) : (addK t by' ts xs k).length = xs.length := by
  unfold addK
  rw [List.length_append, List.length_take, List.length_drop, addL_len]
  omega
theorem addK_zero (t : Tx) (by' : Int) (ts : List Tx) (xs : List Int) : addK t by' ts xs 0 = xs := by simp [addK]
theorem addK_all (t : Tx) (by' : Int) (ts : List Tx) (xs : List Int) : addK t by' ts xs xs.length = addL t by' ts xs := by
  unfold addK
  rw [List.drop_length, List.append_nil, List.take_of_length_le (by rw [addL_len]; exact Nat.le_refl _)]
theorem addK_at (t : Tx) (by' : Int) (ts : List Tx) (xs : List Int) (k : Nat) (hk : k < xs.length) : (addK t by' ts xs k)[k]'(by rw [addK_len _ _ _ _ _ (Nat.le_of_lt hk)]; exact hk) = xs[k] := by
  unfold addK
  rw [List.getElem_append_right (by rw [List.length_take, addL_len]; omega)]
  simp only [List.length_take, addL_len, List.getElem_drop]
  congr 1
  omega
theorem addL_at (t : Tx) (by' : Int) (ts : List Tx) (xs : List Int) (k : Nat) (hk : k < xs.length) (hts : k < ts.length) : (addL t by' ts xs)[k]'(by rw [addL_len]; exact hk) = xs[k] + if befB t ts[k] then by' else 0 := by
  unfold addL
  simp only [List.getElem_map, List.getElem_range]
  rw [List.getElem?_eq_getElem hk, List.getElem?_eq_getElem hts]
  rfl
theorem addK_get (t : Tx) (by' : Int) (ts : List Tx) (xs : List Int) (k : Nat) (hk : k ≤ xs.length) (j : Nat) : (addK t by' ts xs k)[j]? = if j < k then (addL t by' ts xs)[j]? else xs[j]? := by
  unfold addK
  rw [List.getElem?_append, List.length_take, addL_len, Nat.min_eq_left hk]
  by_cases h : j < k
  · rw [if_pos h, if_pos h, List.getElem?_take, if_pos h]
  · rw [if_neg h, if_neg h, List.getElem?_drop]
    congr 1
    omega
theorem addK_next (t : Tx) (by' : Int) (ts : List Tx) (xs : List Int) (k : Nat) (hk : k < xs.length) : addK t by' ts xs (k + 1) = (addK t by' ts xs k).set k ((addL t by' ts xs)[k]'(by rw [addL_len]; exact hk)) := by
  apply List.ext_getElem?
  intro j
  rw [addK_get _ _ _ _ _ hk, List.getElem?_set, addK_get _ _ _ _ _ (Nat.le_of_lt hk), addK_len _ _ _ _ _ (Nat.le_of_lt hk)]
  by_cases hkj : k = j
  · subst hkj
    rw [if_pos (Nat.lt_succ_self _), if_pos rfl, if_pos hk]
    exact List.getElem?_eq_getElem _
  · rw [if_neg hkj]
    by_cases hlt : j < k
    · rw [if_pos hlt, if_pos (by omega)]
    · rw [if_neg hlt, if_neg (by omega)]
theorem addK_no (t : Tx) (by' : Int) (ts : List Tx) (xs : List Int) (k : Nat) (hk : k < xs.length) (hts : k < ts.length) (hb : befB t ts[k] = false) : addK t by' ts xs (k + 1) = addK t by' ts xs k := by
  rw [addK_next _ _ _ _ _ hk, addL_at _ _ _ _ _ hk hts, hb]
  have := addK_at t by' ts xs k hk
  simp only [Bool.false_eq_true, if_false, Int.add_zero]
  rw [← this]
  exact List.set_getElem_self _
theorem addK_yes (t : Tx) (by' : Int) (ts : List Tx) (xs : List Int) (k : Nat) (hk : k < xs.length) (hts : k < ts.length) (hb : befB t ts[k] = true) : addK t by' ts xs (k + 1) = (addK t by' ts xs k).set k (xs[k] + by') := by
  rw [addK_next _ _ _ _ _ hk, addL_at _ _ _ _ _ hk hts, hb, if_pos rfl]

theorem own_fz {W : World} {base g cap n : Nat} {l : List Int} (h : GOwn encI 3 W base (.slice (some ⟨g, 0, none⟩) n cap) l) (hn : n = l.length) (k : Nat) : W.frozen? ⟨g, k, none⟩ = false := by
  subst hn
  exact World.ownsRow.frozenAt h k
theorem own_at {W : World} {base g cap n : Nat} {l : List Int} (h : GOwn encI 3 W base (.slice (some ⟨g, 0, none⟩) n cap) l) (hn : n = l.length) (k : Nat) (hk : k < l.length) : W.cell? ⟨g, k, none⟩ = some (.int .i64 l[k]) := by
  subst hn
  obtain ⟨b, o, hbo, _, hc⟩ := h.grow (by omega)
  cases hbo
  have := iat hc k hk
  simpa using this

set_option maxRecDepth 100000 in
set_option maxHeartbeats 4000000 in
theorem icbeh (ys : List Ta) (a : Option Addr) (c : Nat) (t : Tx) (ra wa : Option Addr) (rc wc : Nat) (z : Int) (hz : z = 1 ∨ z = -1) (xs : List Int) (n : Nat) (hnx : n = xs.length) (hny : n = ys.length) (hbd : ∀ x ∈ xs, -2000000 ≤ x ∧ x ≤ 2000000) (hn : n ≤ 1048576) (hf : LFit (txs ys)) (ht : TFit t) (g cap : Nat) (w0 w : World) (hB : Below w0.heap.size w0 w) (hl : TRows w0 a ys) (hr : TRow w0 t ra wa) (ho : GOwn encI 3 w w0.heap.size (.slice (some ⟨g, 0, none⟩) n cap) xs) :
    Calls Try.prog 15 #[.slice (some ⟨g, 0, none⟩) n cap, .slice a n c, .agg #[.int .i64 t.id, .int .i64 t.st, .int .i64 t.snap, .int .i64 t.cs, .slice ra t.rs.length rc, .slice wa t.ws.length wc, .bool t.out, .string t.nm], .int .i64 z] w fun e w' => e = .returned (.tuple #[]) ∧ GOwn encI 3 w' w0.heap.size (.slice (some ⟨g, 0, none⟩) n cap) (addL t z (txs ys) xs) ∧ w.grownBy w' (some g) ∧ Below w0.heap.size w0 w' := by
  have HL : Hid (TRows w0 a ys) := hl
  have HR : Hid (TRow w0 t ra wa) := hr
  have HF : Hid (LFit (txs ys)) := hf
  have HT : Hid (TFit t) := ht
  have HO : Hid (GOwn encI 3 w w0.heap.size (.slice (some ⟨g, 0, none⟩) n cap) xs) := ho
  have HB : Hid (Below w0.heap.size w0 w) := hB
  have HNX : Hid (n = xs.length) := hnx
  have HNY : Hid (n = ys.length) := hny
  have HBD : Hid (∀ x ∈ xs, -2000000 ≤ x ∧ x ≤ 2000000) := hbd
  have HZ : Hid (z = 1 ∨ z = -1) := hz
  have hgl : g < w.heap.size := (World.ownsRow.lt ho g rfl).2
  have hgb : w0.heap.size ≤ g := (World.ownsRow.lt ho g rfl).1
  have HGB : Hid (∀ w', w.grownBy w' (some g) → Below w0.heap.size w0 w') := fun w' h => hB.trans (grown_base h hgb hgl)
  have hne : g ≠ w.heap.size := Nat.ne_of_lt hgl
  have HNE : Hid (g ≠ w.heap.size) := hne
  clear hl hr hf ht ho hB hnx hny hbd hz hgl hgb hne
  go_enter Try.func15, Try.ntmps15
  go_wp2
  go_loopw [12] (fun s wr => ∃ k : Nat, k ≤ n ∧ s = .int .i64 k ∧ Hid (GOwn encI 3 wr w0.heap.size (.slice (some ⟨g, 0, none⟩) n cap) (addK t z (txs ys) xs k)) ∧ Hid (w.grownBy wr (some g)) ∧ Hid (Bx wr w.heap.size [.int .i64 t.id, .int .i64 t.st, .int .i64 t.snap, .int .i64 t.cs, .slice ra t.rs.length rc, .slice wa t.ws.length wc, .bool t.out, .string t.nm])) (fun s _ => n - (intOf s).toNat)
  case atStart => exact ⟨0, Nat.zero_le _, rfl, by rw [addK_zero]; exact HO.out.alloc _, grown_below _ ((belowRefl w).alloc (Nat.le_refl _) _), Bx.new w [.int .i64 t.id, .int .i64 t.st, .int .i64 t.snap, .int .i64 t.cs, .slice ra t.rs.length rc, .slice wa t.ws.length wc, .bool t.out, .string t.nm] 34⟩
  case round =>
    obtain ⟨k, hk, rfl, HOk, HG, BT⟩ := hrel
    by_cases hlt : k < n
    · have hlt' : (k : Int) < (n : Int) := by omega
      have h0 : (0 : Int) ≤ (k : Int) := by omega
      have hky : k < ys.length := by rw [← HNY.out]; exact hlt
      have hkx : k < xs.length := by rw [← HNX.out]; exact hlt
      have HBr : Hid (Below w0.heap.size w0 wr) := HGB.out wr HG.out
      obtain ⟨b, o, rfl, hbl, hc, hrow⟩ := (HL.out.below HBr.out).cls k hky
      have hfx : TFit ys[k].t := HF.out.2 _ (List.mem_map.2 ⟨_, List.getElem_mem hky, rfl⟩)
      obtain ⟨x, hx⟩ : ∃ x, x = ys[k] := ⟨_, rfl⟩
      rw [← hx] at hc hfx hrow
      have hkt : k < (txs ys).length := by rw [txs_len]; exact hky
      have HXT : Hid ((txs ys)[k] = x.t) := by show _ = _; rw [hx]; simp [txs]
      clear hx
      have r0 := hc.c0
      have r1 := hc.c1
      have r2 := hc.c2
      have r3 := hc.c3
      have r4 := hc.c4
      have r5 := hc.c5
      have r6 := hc.c6
      have r7 := hc.c7
      clear hc
      have HB1 : Hid (Below wr.heap.size wr (wr.alloc (.cells #[.int .i64 x.t.id, .int .i64 x.t.st, .int .i64 x.t.snap, .int .i64 x.t.cs, .slice x.ra x.t.rs.length x.rc, .slice x.wa x.t.ws.length x.wc, .bool x.t.out, .string x.t.nm] 34))) := (belowRefl wr).alloc (Nat.le_refl _) _
      have BX1 : Hid (Bx (wr.alloc (.cells #[.int .i64 x.t.id, .int .i64 x.t.st, .int .i64 x.t.snap, .int .i64 x.t.cs, .slice x.ra x.t.rs.length x.rc, .slice x.wa x.t.ws.length x.wc, .bool x.t.out, .string x.t.nm] 34)) wr.heap.size [.int .i64 x.t.id, .int .i64 x.t.st, .int .i64 x.t.snap, .int .i64 x.t.cs, .slice x.ra x.t.rs.length x.rc, .slice x.wa x.t.ws.length x.wc, .bool x.t.out, .string x.t.nm]) := Bx.new wr [.int .i64 x.t.id, .int .i64 x.t.st, .int .i64 x.t.snap, .int .i64 x.t.cs, .slice x.ra x.t.rs.length x.rc, .slice x.wa x.t.ws.length x.wc, .bool x.t.out, .string x.t.nm] 34
      have BT1 : Hid (Bx (wr.alloc (.cells #[.int .i64 x.t.id, .int .i64 x.t.st, .int .i64 x.t.snap, .int .i64 x.t.cs, .slice x.ra x.t.rs.length x.rc, .slice x.wa x.t.ws.length x.wc, .bool x.t.out, .string x.t.nm] 34)) w.heap.size [.int .i64 t.id, .int .i64 t.st, .int .i64 t.snap, .int .i64 t.cs, .slice ra t.rs.length rc, .slice wa t.ws.length wc, .bool t.out, .string t.nm]) := BT.out.alloc _
      have HR1 : Hid (TRow (wr.alloc (.cells #[.int .i64 x.t.id, .int .i64 x.t.st, .int .i64 x.t.snap, .int .i64 x.t.cs, .slice x.ra x.t.rs.length x.rc, .slice x.wa x.t.ws.length x.wc, .bool x.t.out, .string x.t.nm] 34)) t ra wa) := (HR.out.below HBr.out).below HB1.out
      have HC := hide (ibefore t x.t ra wa rc wc x.ra x.wa x.rc x.wc HT.out.1 HT.out.2.2.1 hfx.1 hfx.2.2.1 HT.out.2.2.2.1 hfx.2.2.2.1 (wr.alloc (.cells #[.int .i64 x.t.id, .int .i64 x.t.st, .int .i64 x.t.snap, .int .i64 x.t.cs, .slice x.ra x.t.rs.length x.rc, .slice x.wa x.t.ws.length x.wc, .bool x.t.out, .string x.t.nm] 34)) HR1.out.r HR1.out.w (hrow.below HB1.out).r (hrow.below HB1.out).w)
      clear hrow hfx HR1
      go_upto_region 4 with fail
      clear r0 r1 r2 r3 r4 r5 r6 r7
      generalize (wr.alloc (.cells #[.int .i64 x.t.id, .int .i64 x.t.st, .int .i64 x.t.snap, .int .i64 x.t.cs, .slice x.ra x.t.rs.length x.rc, .slice x.wa x.t.ws.length x.wc, .bool x.t.out, .string x.t.nm] 34)) = w1 at *
      have x0 := BX1.out.c0
      have x1 := BX1.out.c1
      have x2 := BX1.out.c2
      have x3 := BX1.out.c3
      have x4 := BX1.out.c4
      have x5 := BX1.out.c5
      have x6 := BX1.out.c6
      have x7 := BX1.out.c7
      have y0 := BT1.out.c0
      have y1 := BT1.out.c1
      have y2 := BT1.out.c2
      have y3 := BT1.out.c3
      have y4 := BT1.out.c4
      have y5 := BT1.out.c5
      have y6 := BT1.out.c6
      have y7 := BT1.out.c7
      cases hbf : befB t x.t
      · rw [hbf] at HC
        have HN : Hid (addK t z (txs ys) xs (k + 1) = addK t z (txs ys) xs k) := addK_no _ _ _ _ _ hkx hkt (by rw [HXT.out]; exact hbf)
        clear hbf
        go_wp2_with fail
        refine HC.out.mono ?_
        rintro e w2 ⟨rfl, hb2⟩
        have HB2 : Hid (Below wr.heap.size wr w2) := HB1.out.trans (hb2.mono HB1.out.size)
        have BT2 : Hid (Bx w2 w.heap.size [.int .i64 t.id, .int .i64 t.st, .int .i64 t.snap, .int .i64 t.cs, .slice ra t.rs.length rc, .slice wa t.ws.length wc, .bool t.out, .string t.nm]) := BT1.out.below hb2
        have HO2 : Hid (GOwn encI 3 w2 w0.heap.size (.slice (some ⟨g, 0, none⟩) n cap) (addK t z (txs ys) xs (k + 1))) := by show GOwn _ _ _ _ _ _; rw [HN.out]; exact HOk.out.below HB2.out
        have HG2 : Hid (w.grownBy w2 (some g)) := grown_trans HG.out (grown_below _ HB2.out)
        clear hb2 x0 x1 x2 x3 x4 x5 x6 x7 y0 y1 y2 y3 y4 y5 y6 y7 HN HOk HG BT
        go_wp2
        go_roundw
        case rel => exact ⟨k + 1, by omega, by go_num, HO2, HG2, BT2⟩
        case measure => simp [intOf]; omega
      · rw [hbf] at HC
        have HN : Hid (addK t z (txs ys) xs (k + 1) = (addK t z (txs ys) xs k).set k (xs[k] + z)) := addK_yes _ _ _ _ _ hkx hkt (by rw [HXT.out]; exact hbf)
        clear hbf
        go_wp2_with fail
        refine HC.out.mono ?_
        rintro e w2 ⟨rfl, hb2⟩
        have HB2 : Hid (Below wr.heap.size wr w2) := HB1.out.trans (hb2.mono HB1.out.size)
        have BT2 : Hid (Bx w2 w.heap.size [.int .i64 t.id, .int .i64 t.st, .int .i64 t.snap, .int .i64 t.cs, .slice ra t.rs.length rc, .slice wa t.ws.length wc, .bool t.out, .string t.nm]) := BT1.out.below hb2
        have HO2 : Hid (GOwn encI 3 w2 w0.heap.size (.slice (some ⟨g, 0, none⟩) n cap) (addK t z (txs ys) xs k)) := HOk.out.below HB2.out
        have HG2 : Hid (w.grownBy w2 (some g)) := grown_trans HG.out (grown_below _ HB2.out)
        have hkl : k < (addK t z (txs ys) xs k).length := by rw [addK_len _ _ _ _ _ (Nat.le_of_lt hkx)]; exact hkx
        have hln : n = (addK t z (txs ys) xs k).length := by rw [addK_len _ _ _ _ _ (Nat.le_of_lt hkx)]; exact HNX.out
        have q0 := own_at HO2.out hln k hkl
        rw [addK_at _ _ _ _ _ hkx] at q0
        have hvb := HBD.out xs[k] (List.getElem_mem hkx)
        have hz2 := HZ.out
        obtain ⟨v, hv⟩ : ∃ v, v = xs[k] := ⟨_, rfl⟩
        rw [← hv] at q0 hvb HN
        obtain ⟨u, hu⟩ : ∃ u, u = v + z := ⟨_, rfl⟩
        rw [← hu] at HN
        have e1 : IntKind.i64.wrap (v + z) = u := by rw [hu]; rw [IntKind.wrap_i64]; omega
        have e2 : v + z = u := hu.symm
        have e3 : wrap64 u = u := by unfold wrap64; omega
        have f0 : w2.frozen? ⟨g, k, none⟩ = false := own_fz HO2.out hln k
        have HO3 : Hid (GOwn encI 3 (w2.setCell ⟨g, k, none⟩ (.int .i64 u)) w0.heap.size (.slice (some ⟨g, 0, none⟩) n cap) (addK t z (txs ys) xs (k + 1))) := by show GOwn _ _ _ _ _ _; rw [HN.out]; exact own_int HO2.out hln k u
        have HG3 : Hid (w.grownBy (w2.setCell ⟨g, k, none⟩ (.int .i64 u)) (some g)) := grown_trans HG2.out (grown_set _ _ _ _)
        have BT3 : Hid (Bx (w2.setCell ⟨g, k, none⟩ (.int .i64 u)) w.heap.size [.int .i64 t.id, .int .i64 t.st, .int .i64 t.snap, .int .i64 t.cs, .slice ra t.rs.length rc, .slice wa t.ws.length wc, .bool t.out, .string t.nm]) := BT2.out.setO HNE.out _
        clear hb2 x0 x1 x2 x3 x4 x5 x6 x7 y0 y1 y2 y3 y4 y5 y6 y7 HN HOk HG BT hu hv hvb hz2 hkl hln HO2 HG2 BT2
        go_wp2
        go_roundw
        case rel => exact ⟨k + 1, by omega, by go_num, HO3, HG3, BT3⟩
        case measure => simp [intOf]; omega
    · have hd : ¬ (k : Int) < (n : Int) := by omega
      have HE : Hid (addK t z (txs ys) xs k = addL t z (txs ys) xs) := by
        show _ = _
        have : k = xs.length := by rw [← HNX.out]; omega
        rw [this, addK_all]
      have HO2 : Hid (GOwn encI 3 wr w0.heap.size (.slice (some ⟨g, 0, none⟩) n cap) (addL t z (txs ys) xs)) := by show GOwn _ _ _ _ _ _; rw [← HE.out]; exact HOk.out
      clear HE HOk
      go_wp2
      go_end0
      exact ⟨rfl, HO2.out, HG.out, HGB.out wr HG.out⟩
end Go.Proofs.Ytbajpnbodhhmjaa

namespace Go.Proofs.Ytbajpnbodhhmjaa
open Go.RowKit
open KM
attribute [local go_sem ↓] Go.wp_at_zero Go.wp_at_succ

theorem encI_cells (ys : List Int) : encI.cells ys = ys.map (fun y => Value.int .i64 y) := by
  induction ys with
  | nil => rfl
  | cons y ys ih =>
    simp [Enc.cells, encI] at ih ⊢
    exact ih
theorem own_zeros (w : World) (n : Nat) (hn : n ≤ 1048576) : GOwn encI 3 (w.alloc (.cells (madeCells (Value.int .i64 0).cells (n * 1)) 3)) w.heap.size (.slice (some ⟨w.heap.size, 0, none⟩) n n) (List.replicate n 0) := by
  have h := World.ownsRow_lit (size := 1) (e := 3) w (madeCells (Value.int .i64 0).cells (n * 1)) n (Nat.le_refl _) (by unfold maxLen; omega) (by rw [size_madeCells])
  unfold GOwn
  rw [List.length_replicate, encI_cells]
  have e : (madeCells (Value.int .i64 0).cells (n * 1)).toList = (List.replicate n (0 : Int)).map (fun y => Value.int .i64 y) := by
    have : (Value.int .i64 0).cells = #[Value.int .i64 0] := rfl
    rw [Nat.mul_one, this, toList_madeCells_one]
    simp
  rw [← e]
  exact h

set_option maxRecDepth 100000 in
set_option maxHeartbeats 4000000 in
theorem icounts (ys : List Ta) (a : Option Addr) (c n : Nat) (hny : n = ys.length) (hn : n ≤ 1048576) (hf : LFit (txs ys)) (w : World) (hl : TRows w a ys) :
    Calls Try.prog 14 #[.slice a n c] w fun e w' => ∃ g, e = .returned (.slice (some ⟨g, 0, none⟩) n n) ∧ GOwn encI 3 w' w.heap.size (.slice (some ⟨g, 0, none⟩) n n) (cnts (txs ys) []) ∧ Below w.heap.size w w' := by
  have HL : Hid (TRows w a ys) := hl
  have HF : Hid (LFit (txs ys)) := hf
  have HNY : Hid (n = ys.length) := hny
  have HNT : Hid (n = (txs ys).length) := by show _ = _; rw [txs_len]; exact hny
  clear hl hf hny
  have hmk := mkRow 26 3 1 8 _ Try.underlying26 Try.info3 n (by omega) (by omega)
  have HZ := hide (own_zeros w n hn)
  go_enter Try.func14, Try.ntmps14
  go_wp2
  clear hmk
  have HO0 : Hid (GOwn encI 3 (w.alloc (.cells (madeCells #[Value.int .i64 0] n) 3)) w.heap.size (.slice (some ⟨w.heap.size, 0, none⟩) n n) (cntsK (txs ys) 0)) := by
    rw [cntsK_zero, ← HNT.out]; have h := HZ.out; rw [Nat.mul_one] at h; exact h
  clear HZ
  go_loopw [11] (fun s wr => ∃ k : Nat, k ≤ n ∧ s = .int .i64 k ∧ Hid (GOwn encI 3 wr w.heap.size (.slice (some ⟨w.heap.size, 0, none⟩) n n) (cntsK (txs ys) k)) ∧ Hid (Below w.heap.size w wr)) (fun s _ => n - (intOf s).toNat)
  case atStart => exact ⟨0, Nat.zero_le _, rfl, HO0, (belowRefl w).alloc (Nat.le_refl _) _⟩
  case round =>
    obtain ⟨k, hk, rfl, HOk, HB⟩ := hrel
    by_cases hlt : k < n
    · have hlt' : (k : Int) < (n : Int) := by omega
      have h0 : (0 : Int) ≤ (k : Int) := by omega
      have hky : k < ys.length := by rw [← HNY.out]; exact hlt
      have hkt : k < (txs ys).length := by rw [← HNT.out]; exact hlt
      have hrow0 := ((HL.out).cls k hky)
      obtain ⟨b, o, ea, hbl, hc, hrow⟩ := (HL.out.below HB.out).cls k hky
      obtain ⟨b0, o0, e0, hb0, hc0, hrw⟩ := hrow0
      clear e0 hb0 hc0
      have hfx : TFit ys[k].t := HF.out.2 _ (List.mem_map.2 ⟨_, List.getElem_mem hky, rfl⟩)
      obtain ⟨x, hx⟩ : ∃ x, x = ys[k] := ⟨_, rfl⟩
      rw [← hx] at hc hfx hrw
      have HXT : Hid ((txs ys)[k] = x.t) := by show _ = _; rw [hx]; simp [txs]
      clear hx hrow
      have hle : (cntsK (txs ys) k).length = n := by rw [cntsK_len, ← HNT.out]
      have hbd := cntsK_bd (txs ys) k (by omega)
      rw [← HNT.out] at hbd
      have HCN := fun (wa : World) (h1 : Below w.heap.size w wa) (h2 : GOwn encI 3 wa w.heap.size (.slice (some ⟨w.heap.size, 0, none⟩) n n) (cntsK (txs ys) k)) =>
        icbeh ys a c x.t x.ra x.wa x.rc x.wc 1 (Or.inl rfl) (cntsK (txs ys) k) n hle.symm HNY.out (fun u hu => ⟨(hbd u hu).1, by have := (hbd u hu).2; omega⟩) hn HF.out hfx w.heap.size n w wa h1 HL.out hrw h2
      have HCN' := hide HCN
      have HE : Hid (addL x.t 1 (txs ys) (cntsK (txs ys) k) = cntsK (txs ys) (k + 1)) := by show _ = _; rw [← HXT.out]; exact cntsK_next _ k hkt
      clear HCN hbd hle hrw hfx HXT
      subst ea
      have r0 := hc.c0
      have r1 := hc.c1
      have r2 := hc.c2
      have r3 := hc.c3
      have r4 := hc.c4
      have r5 := hc.c5
      have r6 := hc.c6
      have r7 := hc.c7
      clear hc
      have HB1 : Hid (Below w.heap.size w (wr.alloc (.cells #[.int .i64 x.t.id, .int .i64 x.t.st, .int .i64 x.t.snap, .int .i64 x.t.cs, .slice x.ra x.t.rs.length x.rc, .slice x.wa x.t.ws.length x.wc, .bool x.t.out, .string x.t.nm] 34))) := HB.out.alloc HB.out.size _
      have BT1 : Hid (Bx (wr.alloc (.cells #[.int .i64 x.t.id, .int .i64 x.t.st, .int .i64 x.t.snap, .int .i64 x.t.cs, .slice x.ra x.t.rs.length x.rc, .slice x.wa x.t.ws.length x.wc, .bool x.t.out, .string x.t.nm] 34)) wr.heap.size [.int .i64 x.t.id, .int .i64 x.t.st, .int .i64 x.t.snap, .int .i64 x.t.cs, .slice x.ra x.t.rs.length x.rc, .slice x.wa x.t.ws.length x.wc, .bool x.t.out, .string x.t.nm]) := Bx.new wr [.int .i64 x.t.id, .int .i64 x.t.st, .int .i64 x.t.snap, .int .i64 x.t.cs, .slice x.ra x.t.rs.length x.rc, .slice x.wa x.t.ws.length x.wc, .bool x.t.out, .string x.t.nm] 34
      have HO1 : Hid (GOwn encI 3 (wr.alloc (.cells #[.int .i64 x.t.id, .int .i64 x.t.st, .int .i64 x.t.snap, .int .i64 x.t.cs, .slice x.ra x.t.rs.length x.rc, .slice x.wa x.t.ws.length x.wc, .bool x.t.out, .string x.t.nm] 34)) w.heap.size (.slice (some ⟨w.heap.size, 0, none⟩) n n) (cntsK (txs ys) k)) := HOk.out.alloc _
      have HC := hide (HCN'.out _ HB1.out HO1.out)
      go_upto_region 5 with fail
      clear r0 r1 r2 r3 r4 r5 r6 r7 HCN'
      generalize (wr.alloc (.cells #[.int .i64 x.t.id, .int .i64 x.t.st, .int .i64 x.t.snap, .int .i64 x.t.cs, .slice x.ra x.t.rs.length x.rc, .slice x.wa x.t.ws.length x.wc, .bool x.t.out, .string x.t.nm] 34)) = w1 at *
      have y0 := BT1.out.c0
      have y1 := BT1.out.c1
      have y2 := BT1.out.c2
      have y3 := BT1.out.c3
      have y4 := BT1.out.c4
      have y5 := BT1.out.c5
      have y6 := BT1.out.c6
      have y7 := BT1.out.c7
      go_wp2_with fail
      refine HC.out.mono ?_
      rintro e w2 ⟨rfl, ho2, hg2, hb2⟩
      have HO2 : Hid (GOwn encI 3 w2 w.heap.size (.slice (some ⟨w.heap.size, 0, none⟩) n n) (cntsK (txs ys) (k + 1))) := by show GOwn _ _ _ _ _ _; rw [← HE.out]; exact ho2
      have HB2 : Hid (Below w.heap.size w w2) := hb2
      clear y0 y1 y2 y3 y4 y5 y6 y7 ho2 hg2 hb2 HE HOk HB
      go_wp2
      go_roundw
      case rel => exact ⟨k + 1, by omega, by go_num, HO2, HB2⟩
      case measure => simp [intOf]; omega
    · have hd : ¬ (k : Int) < (n : Int) := by omega
      have HO2 : Hid (GOwn encI 3 wr w.heap.size (.slice (some ⟨w.heap.size, 0, none⟩) n n) (cnts (txs ys) [])) := by
        have e : k = (txs ys).length := by rw [← HNT.out]; omega
        have h := HOk.out
        rw [e, cntsK_all] at h
        exact h
      clear HOk
      go_wp2
      go_ret
      exact ⟨_, rfl, HO2.out, HB.out⟩
end Go.Proofs.Ytbajpnbodhhmjaa

/- Lists of those that look and change: their copy, their likeness. -/
import Derived.Test.YtebcfdomjlikoaaL1
namespace Go.Proofs.Ytebcfdomjlikoaa
open Go.RowKit
open KM
attribute [local go_sem ↓] Go.wp_at_zero Go.wp_at_succ

theorem mkRow8 (T e size bytes : Nat) (z : Value) (hT : Try.prog.underlying T = some (.slice e))
    (hinfo : (Try.prog.info? e).map (fun i => (i.zero, i.size, i.bytes)) = some (some z, size, bytes)) (n : Nat) (hn : n ≤ 100000000) (hby : bytes ≤ 128) (w : World) :
    (Instr.makeSlice T (.int .i64 (n : Int)) (.int .i64 (n : Int))).run Try.prog w = .ok (.slice (some ⟨w.heap.size, 0, none⟩) n n) (w.alloc (.cells (madeCells z.cells (n * size)) e)) := by
  obtain ⟨i0, hi, hz0, hz1, hz2⟩ := info_parts hinfo
  have hb : (bytes : Int) * (n : Int) ≤ 281474976710656 := by
    have h : bytes * n ≤ 128 * 100000000 := Nat.mul_le_mul hby hn
    have h2 : ((bytes * n : Nat) : Int) ≤ 281474976710656 := by omega
    rwa [Int.natCast_mul] at h2
  have h := run_make (P := Try.prog) w T e i0 z hT hi hz0 .i64 .i64 n n (by omega) (Int.le_refl _) (by rw [hz2]; exact hb) (by omega)
  rw [hz1] at h
  simpa using h

set_option maxRecDepth 100000 in
set_option maxHeartbeats 2000000 in
theorem toL (xs : List Ta) (a : Option Addr) (c : Nat) (hn : xs.length ≤ 100000000) (hf : LFit (txs xs)) (w : World) (hp : TRows w a xs) :
    Calls Try.prog 13 #[.slice a xs.length c] w fun e w' => ∃ (ys : List Ta) (a1 : Option Addr) (c1 : Nat), e = .returned (.slice a1 xs.length c1) ∧ txs ys = txs xs ∧ ys.length = xs.length ∧ GOwn encT 31 w' w.heap.size (.slice a1 ys.length c1) ys ∧ (∀ y ∈ ys, TLie w' w.heap.size w'.heap.size y.t y.ra y.rc y.wa y.wc) ∧ Below w.heap.size w w' := by
  have HP : Hid (TRows w a xs) := hp
  have HF : Hid (LFit (txs xs)) := hf
  clear hp hf
  have hmk := mkRow8 39 31 8 _ _ Try.underlying39 Try.info31 xs.length hn (by omega)
  go_enter Try.func13, Try.ntmps13
  go_wp2
  clear hmk
  obtain ⟨cs0, hcs0⟩ : ∃ cs, cs = madeCells (Value.agg #[.int .i64 0, .int .i64 0, .int .i64 0, .int .i64 0, .slice none 0 0, .slice none 0 0, .bool false, .string ByteArray.empty]).cells (xs.length * 8) := ⟨_, rfl⟩
  have HO : Hid ((w.alloc (.cells cs0 31)).ownsRow w.heap.size 31 8 (.slice (some ⟨w.heap.size, 0, none⟩) xs.length xs.length) xs.length cs0.toList) :=
    World.ownsRow_lit w _ _ (Nat.le_refl _) (by unfold maxLen; omega) (by rw [hcs0, size_madeCells])
  rw [hcs0] at HO
  clear hcs0 cs0
  go_loopw [4] (fun t wr => ∃ (k : Nat) (cs : List Value) (ys : List Ta), k ≤ xs.length ∧ t = .int .i64 k ∧ Hid (ys.length = k) ∧ Hid (txs ys = (txs xs).take k) ∧ Hid (wr.ownsRow w.heap.size 31 8 (.slice (some ⟨w.heap.size, 0, none⟩) xs.length xs.length) xs.length cs) ∧ Hid (∀ j, j < k * 8 → cs[j]? = (encT.cells ys)[j]?) ∧ Hid (∀ y ∈ ys, TLie wr (w.heap.size + 1) wr.heap.size y.t y.ra y.rc y.wa y.wc) ∧ Hid (Below w.heap.size w wr)) (fun t _ => xs.length - (intOf t).toNat)
  case atStart => exact ⟨0, _, [], Nat.zero_le _, rfl, rfl, rfl, HO, (fun j hj => by omega), (fun y hy => by cases hy), (belowRefl w).alloc (Nat.le_refl _) _⟩
  case round =>
    obtain ⟨k, cs, ys, hk, rfl, HYL, HYT, HX, HA, HY, HB⟩ := hrel
    by_cases hlt : k < xs.length
    · have hlt' : (k : Int) < (xs.length : Int) := by omega
      have h0 : (0 : Int) ≤ (k : Int) := by omega
      obtain ⟨b, off, rfl, hbl, hc, ht⟩ := (HP.out.below HB.out).cls k hlt
      have hfx : TFit xs[k].t := HF.out.2 _ (List.mem_map.2 ⟨_, List.getElem_mem hlt, rfl⟩)
      obtain ⟨x, hx⟩ : ∃ x, x = xs[k] := ⟨_, rfl⟩
      rw [← hx] at hc ht hfx
      have HXX : Hid (x = xs[k]) := hx
      have HT : Hid (TRow wr x.t x.ra x.wa) := ht
      clear hx ht
      have r0 := hc.c0
      have r1 := hc.c1
      have r2 := hc.c2
      have r3 := hc.c3
      have r4 := hc.c4
      have r5 := hc.c5
      have r6 := hc.c6
      have r7 := hc.c7
      clear hc
      have hgl : w.heap.size < wr.heap.size := (World.ownsRow.lt HX.out _ rfl).2
      go_wp2_with fail
      refine (toT x.t x.ra x.wa x.rc x.wc (Nat.le_trans hfx.1 (by omega)) (Nat.le_trans hfx.2.2.1 (by omega)) _ HT.out).mono ?_
      rintro e w2 ⟨pa, pc, qa, qc, rfl, hl, hb2⟩
      have HL : Hid (TLie w2 (w.heap.size + 1) w2.heap.size x.t pa pc qa qc) := hl.mono hgl (Nat.le_refl _)
      have HX0 : Hid (w2.ownsRow w.heap.size 31 8 (.slice (some ⟨w.heap.size, 0, none⟩) xs.length xs.length) xs.length cs) := ownsBelow HX.out hb2
      have HB2 : Hid (Below w.heap.size w w2) := HB.out.trans (hb2.mono HB.out.size)
      have HY2 : Hid (∀ y ∈ ys, TLie w2 (w.heap.size + 1) w2.heap.size y.t y.ra y.rc y.wa y.wc) := fun y hy => ((HY.out y hy).below hb2).mono (Nat.le_refl _) hb2.size
      clear r0 r1 r2 r3 r4 r5 r6 r7 hb2 hl hfx
      have hlen := HX0.out.1
      have hq0 : w2.cell? ⟨w.heap.size, k * 8, none⟩ = some (cs[k * 8]'(by omega)) := by
        rw [World.ownsRow.cellAt HX0.out (k * 8) (by omega)]; simp
      have hf0 := World.ownsRow.frozenAt HX0.out (k * 8)
      have hq1 : w2.cell? ⟨w.heap.size, k * 8 + 1, none⟩ = some (cs[k * 8 + 1]'(by omega)) := by
        rw [World.ownsRow.cellAt HX0.out (k * 8 + 1) (by omega)]; simp
      have hf1 := World.ownsRow.frozenAt HX0.out (k * 8 + 1)
      have hq2 : w2.cell? ⟨w.heap.size, k * 8 + 2, none⟩ = some (cs[k * 8 + 2]'(by omega)) := by
        rw [World.ownsRow.cellAt HX0.out (k * 8 + 2) (by omega)]; simp
      have hf2 := World.ownsRow.frozenAt HX0.out (k * 8 + 2)
      have hq3 : w2.cell? ⟨w.heap.size, k * 8 + 3, none⟩ = some (cs[k * 8 + 3]'(by omega)) := by
        rw [World.ownsRow.cellAt HX0.out (k * 8 + 3) (by omega)]; simp
      have hf3 := World.ownsRow.frozenAt HX0.out (k * 8 + 3)
      have hq4 : w2.cell? ⟨w.heap.size, k * 8 + 4, none⟩ = some (cs[k * 8 + 4]'(by omega)) := by
        rw [World.ownsRow.cellAt HX0.out (k * 8 + 4) (by omega)]; simp
      have hf4 := World.ownsRow.frozenAt HX0.out (k * 8 + 4)
      have hq5 : w2.cell? ⟨w.heap.size, k * 8 + 5, none⟩ = some (cs[k * 8 + 5]'(by omega)) := by
        rw [World.ownsRow.cellAt HX0.out (k * 8 + 5) (by omega)]; simp
      have hf5 := World.ownsRow.frozenAt HX0.out (k * 8 + 5)
      have hq6 : w2.cell? ⟨w.heap.size, k * 8 + 6, none⟩ = some (cs[k * 8 + 6]'(by omega)) := by
        rw [World.ownsRow.cellAt HX0.out (k * 8 + 6) (by omega)]; simp
      have hf6 := World.ownsRow.frozenAt HX0.out (k * 8 + 6)
      have hq7 : w2.cell? ⟨w.heap.size, k * 8 + 7, none⟩ = some (cs[k * 8 + 7]'(by omega)) := by
        rw [World.ownsRow.cellAt HX0.out (k * 8 + 7) (by omega)]; simp
      have hf7 := World.ownsRow.frozenAt HX0.out (k * 8 + 7)
      have hx2 := ((World.ownsRow.stored (World.ownsRow.stored (World.ownsRow.stored (World.ownsRow.stored (World.ownsRow.stored (World.ownsRow.stored (World.ownsRow.stored (World.ownsRow.stored HX0.out (k * 8) (.int .i64 x.t.id)).1 (k * 8 + 1) (.int .i64 x.t.st)).1 (k * 8 + 2) (.int .i64 x.t.snap)).1 (k * 8 + 3) (.int .i64 x.t.cs)).1 (k * 8 + 4) (.slice pa x.t.rs.length pc)).1 (k * 8 + 5) (.slice qa x.t.ws.length qc)).1 (k * 8 + 6) (.bool x.t.out)).1 (k * 8 + 7) (.string x.t.nm))).1
      have HX3 : Hid _ := hx2
      clear hx2
      have HA2 : Hid (∀ j, j < (k + 1) * 8 → (((((((((cs.set (k * 8) (.int .i64 x.t.id)).set (k * 8 + 1) (.int .i64 x.t.st)).set (k * 8 + 2) (.int .i64 x.t.snap)).set (k * 8 + 3) (.int .i64 x.t.cs)).set (k * 8 + 4) (.slice pa x.t.rs.length pc)).set (k * 8 + 5) (.slice qa x.t.ws.length qc)).set (k * 8 + 6) (.bool x.t.out)).set (k * 8 + 7) (.string x.t.nm)))[j]? = (encT.cells (ys ++ [⟨x.t, pa, pc, qa, qc⟩]))[j]?) := fun j hj => by
        have hyl : ys.length = k := HYL.out
        by_cases e0 : j = k * 8
        · subst e0
          rw [List.getElem?_set_ne (by omega), List.getElem?_set_ne (by omega), List.getElem?_set_ne (by omega), List.getElem?_set_ne (by omega), List.getElem?_set_ne (by omega), List.getElem?_set_ne (by omega), List.getElem?_set_ne (by omega), List.getElem?_set_self (by omega)]
          have := encT.cells_at (ys ++ [⟨x.t, pa, pc, qa, qc⟩]) k (by simp; omega) 0 (by decide)
          simp only [encT, Nat.add_zero] at this ⊢
          rw [this]; simp [hyl.symm]
        by_cases e1 : j = k * 8 + 1
        · subst e1
          rw [List.getElem?_set_ne (by omega), List.getElem?_set_ne (by omega), List.getElem?_set_ne (by omega), List.getElem?_set_ne (by omega), List.getElem?_set_ne (by omega), List.getElem?_set_ne (by omega), List.getElem?_set_self (by simp; omega)]
          have := encT.cells_at (ys ++ [⟨x.t, pa, pc, qa, qc⟩]) k (by simp; omega) 1 (by decide)
          simp only [encT] at this ⊢
          rw [this]; simp [hyl.symm]
        by_cases e2 : j = k * 8 + 2
        · subst e2
          rw [List.getElem?_set_ne (by omega), List.getElem?_set_ne (by omega), List.getElem?_set_ne (by omega), List.getElem?_set_ne (by omega), List.getElem?_set_ne (by omega), List.getElem?_set_self (by simp; omega)]
          have := encT.cells_at (ys ++ [⟨x.t, pa, pc, qa, qc⟩]) k (by simp; omega) 2 (by decide)
          simp only [encT] at this ⊢
          rw [this]; simp [hyl.symm]
        by_cases e3 : j = k * 8 + 3
        · subst e3
          rw [List.getElem?_set_ne (by omega), List.getElem?_set_ne (by omega), List.getElem?_set_ne (by omega), List.getElem?_set_ne (by omega), List.getElem?_set_self (by simp; omega)]
          have := encT.cells_at (ys ++ [⟨x.t, pa, pc, qa, qc⟩]) k (by simp; omega) 3 (by decide)
          simp only [encT] at this ⊢
          rw [this]; simp [hyl.symm]
        by_cases e4 : j = k * 8 + 4
        · subst e4
          rw [List.getElem?_set_ne (by omega), List.getElem?_set_ne (by omega), List.getElem?_set_ne (by omega), List.getElem?_set_self (by simp; omega)]
          have := encT.cells_at (ys ++ [⟨x.t, pa, pc, qa, qc⟩]) k (by simp; omega) 4 (by decide)
          simp only [encT] at this ⊢
          rw [this]; simp [hyl.symm]
        by_cases e5 : j = k * 8 + 5
        · subst e5
          rw [List.getElem?_set_ne (by omega), List.getElem?_set_ne (by omega), List.getElem?_set_self (by simp; omega)]
          have := encT.cells_at (ys ++ [⟨x.t, pa, pc, qa, qc⟩]) k (by simp; omega) 5 (by decide)
          simp only [encT] at this ⊢
          rw [this]; simp [hyl.symm]
        by_cases e6 : j = k * 8 + 6
        · subst e6
          rw [List.getElem?_set_ne (by omega), List.getElem?_set_self (by simp; omega)]
          have := encT.cells_at (ys ++ [⟨x.t, pa, pc, qa, qc⟩]) k (by simp; omega) 6 (by decide)
          simp only [encT] at this ⊢
          rw [this]; simp [hyl.symm]
        by_cases e7 : j = k * 8 + 7
        · subst e7
          rw [List.getElem?_set_self (by simp; omega)]
          have := encT.cells_at (ys ++ [⟨x.t, pa, pc, qa, qc⟩]) k (by simp; omega) 7 (by decide)
          simp only [encT] at this ⊢
          rw [this]; simp [hyl.symm]
        rw [List.getElem?_set_ne (by omega), List.getElem?_set_ne (by omega), List.getElem?_set_ne (by omega), List.getElem?_set_ne (by omega), List.getElem?_set_ne (by omega), List.getElem?_set_ne (by omega), List.getElem?_set_ne (by omega), List.getElem?_set_ne (by omega), HA.out j (by omega), encT.cells_app, List.getElem?_append_left (by rw [encT.cells_len, hyl]; show j < k * 8; omega)]
      have HYL2 : Hid ((ys ++ [(⟨x.t, pa, pc, qa, qc⟩ : Ta)]).length = k + 1) := by show _ = _; simp [HYL.out]
      have HYT2 : Hid (txs (ys ++ [(⟨x.t, pa, pc, qa, qc⟩ : Ta)]) = (txs xs).take (k + 1)) := by
        show _ = _
        rw [List.take_add_one, ← HYT.out]
        simp [txs, List.getElem?_eq_getElem hlt, HXX.out]
      have HB3 : Hid (Below w.heap.size w ((((((((w2.setCell ⟨w.heap.size, k * 8, none⟩ (.int .i64 x.t.id)).setCell ⟨w.heap.size, k * 8 + 1, none⟩ (.int .i64 x.t.st)).setCell ⟨w.heap.size, k * 8 + 2, none⟩ (.int .i64 x.t.snap)).setCell ⟨w.heap.size, k * 8 + 3, none⟩ (.int .i64 x.t.cs)).setCell ⟨w.heap.size, k * 8 + 4, none⟩ (.slice pa x.t.rs.length pc)).setCell ⟨w.heap.size, k * 8 + 5, none⟩ (.slice qa x.t.ws.length qc)).setCell ⟨w.heap.size, k * 8 + 6, none⟩ (.bool x.t.out)).setCell ⟨w.heap.size, k * 8 + 7, none⟩ (.string x.t.nm))) := ((((((((HB2.out.setCell (Nat.le_refl _) _).setCell (Nat.le_refl _) _).setCell (Nat.le_refl _) _).setCell (Nat.le_refl _) _).setCell (Nat.le_refl _) _).setCell (Nat.le_refl _) _).setCell (Nat.le_refl _) _).setCell (Nat.le_refl _) _)
      have HY3 : Hid (∀ y ∈ ys ++ [(⟨x.t, pa, pc, qa, qc⟩ : Ta)], TLie ((((((((w2.setCell ⟨w.heap.size, k * 8, none⟩ (.int .i64 x.t.id)).setCell ⟨w.heap.size, k * 8 + 1, none⟩ (.int .i64 x.t.st)).setCell ⟨w.heap.size, k * 8 + 2, none⟩ (.int .i64 x.t.snap)).setCell ⟨w.heap.size, k * 8 + 3, none⟩ (.int .i64 x.t.cs)).setCell ⟨w.heap.size, k * 8 + 4, none⟩ (.slice pa x.t.rs.length pc)).setCell ⟨w.heap.size, k * 8 + 5, none⟩ (.slice qa x.t.ws.length qc)).setCell ⟨w.heap.size, k * 8 + 6, none⟩ (.bool x.t.out)).setCell ⟨w.heap.size, k * 8 + 7, none⟩ (.string x.t.nm)) (w.heap.size + 1) ((((((((w2.setCell ⟨w.heap.size, k * 8, none⟩ (.int .i64 x.t.id)).setCell ⟨w.heap.size, k * 8 + 1, none⟩ (.int .i64 x.t.st)).setCell ⟨w.heap.size, k * 8 + 2, none⟩ (.int .i64 x.t.snap)).setCell ⟨w.heap.size, k * 8 + 3, none⟩ (.int .i64 x.t.cs)).setCell ⟨w.heap.size, k * 8 + 4, none⟩ (.slice pa x.t.rs.length pc)).setCell ⟨w.heap.size, k * 8 + 5, none⟩ (.slice qa x.t.ws.length qc)).setCell ⟨w.heap.size, k * 8 + 6, none⟩ (.bool x.t.out)).setCell ⟨w.heap.size, k * 8 + 7, none⟩ (.string x.t.nm)).heap.size y.t y.ra y.rc y.wa y.wc) := fun y hy => by
        have hsz : w2.heap.size ≤ ((((((((w2.setCell ⟨w.heap.size, k * 8, none⟩ (.int .i64 x.t.id)).setCell ⟨w.heap.size, k * 8 + 1, none⟩ (.int .i64 x.t.st)).setCell ⟨w.heap.size, k * 8 + 2, none⟩ (.int .i64 x.t.snap)).setCell ⟨w.heap.size, k * 8 + 3, none⟩ (.int .i64 x.t.cs)).setCell ⟨w.heap.size, k * 8 + 4, none⟩ (.slice pa x.t.rs.length pc)).setCell ⟨w.heap.size, k * 8 + 5, none⟩ (.slice qa x.t.ws.length qc)).setCell ⟨w.heap.size, k * 8 + 6, none⟩ (.bool x.t.out)).setCell ⟨w.heap.size, k * 8 + 7, none⟩ (.string x.t.nm)).heap.size := (((((((((((belowRefl w2).mono HB2.out.size).setCell (Nat.le_refl _) _).setCell (Nat.le_refl _) _).setCell (Nat.le_refl _) _).setCell (Nat.le_refl _) _).setCell (Nat.le_refl _) _).setCell (Nat.le_refl _) _).setCell (Nat.le_refl _) _).setCell (Nat.le_refl _) _)).size
        rcases List.mem_append.1 hy with h | h
        · exact (((((((((HY2.out y h).set (Nat.lt_succ_self _) _).set (Nat.lt_succ_self _) _).set (Nat.lt_succ_self _) _).set (Nat.lt_succ_self _) _).set (Nat.lt_succ_self _) _).set (Nat.lt_succ_self _) _).set (Nat.lt_succ_self _) _).set (Nat.lt_succ_self _) _).mono (Nat.le_refl _) hsz
        · obtain rfl := List.mem_singleton.1 h
          exact ((((((((HL.out.set (Nat.lt_succ_self _) _).set (Nat.lt_succ_self _) _).set (Nat.lt_succ_self _) _).set (Nat.lt_succ_self _) _).set (Nat.lt_succ_self _) _).set (Nat.lt_succ_self _) _).set (Nat.lt_succ_self _) _).set (Nat.lt_succ_self _) _).mono (Nat.le_refl _) hsz
      clear HL HY2 HB2 HX0
      go_wp2
      go_roundw
      case rel => exact ⟨k + 1, _, _, by omega, by go_num, HYL2, HYT2, HX3, HA2, HY3, HB3⟩
      case measure => simp [intOf]; omega
    · have hlt' : ¬ (k : Int) < (xs.length : Int) := by omega
      have hkn : k = xs.length := by omega
      have HD : Hid (GOwn encT 31 wr w.heap.size (.slice (some ⟨w.heap.size, 0, none⟩) ys.length xs.length) ys) := gown_of (by rw [HYL.out, hkn]) HX.out (fun j hj => HA.out j (Nat.lt_of_lt_of_le hj (Nat.mul_le_mul_right _ (by omega))))
      have HE : Hid (txs ys = txs xs) := by show _ = _; rw [HYT.out, List.take_of_length_le (by rw [txs_len]; omega)]
      have HLn : Hid (ys.length = xs.length) := by show _ = _; rw [HYL.out, hkn]
      clear hkn
      go_wp2
      go_ret
      exact ⟨ys, _, _, rfl, HE.out, HLn.out, HD.out, (fun y hy => (HY.out y hy).mono (Nat.le_succ _) (Nat.le_refl _)), HB.out⟩

set_option maxRecDepth 100000 in
set_option maxHeartbeats 2000000 in
theorem eqL (xs ys : List Ta) (a1 a2 : Option Addr) (c1 c2 n : Nat) (hx : n = xs.length) (hy : n = ys.length) (hn : n ≤ 100000000) (ht : txs xs = txs ys) (hf : LFit (txs xs)) (w : World) (h1 : TRows w a1 xs) (h2 : TRows w a2 ys) :
    Calls Try.prog 16 #[.slice a1 n c1, .slice a2 n c2] w fun e w' => e = .returned (.bool true) ∧ Below w.heap.size w w' := by
  have H1 : Hid (TRows w a1 xs) := h1
  have H2 : Hid (TRows w a2 ys) := h2
  have HT : Hid (txs xs = txs ys) := ht
  have HF : Hid (LFit (txs xs)) := hf
  have HX : Hid (n = xs.length) := hx
  have HY : Hid (n = ys.length) := hy
  clear h1 h2 ht hf hx hy
  go_enter Try.func16, Try.ntmps16
  go_wp2
  go_loopw [5] (fun t wr => ∃ k : Nat, k ≤ n ∧ t = .int .i64 k ∧ Hid (Below w.heap.size w wr)) (fun t _ => n - (intOf t).toNat)
  case atStart => exact ⟨0, Nat.zero_le _, rfl, Below.refl _ _⟩
  case round =>
    obtain ⟨k, hk, rfl, HB⟩ := hrel
    by_cases hlt : k < n
    · have hlt' : (k : Int) < (n : Int) := by omega
      have h0 : (0 : Int) ≤ (k : Int) := by omega
      have hkx : k < xs.length := by rw [← HX.out]; exact hlt
      have hky : k < ys.length := by rw [← HY.out]; exact hlt
      obtain ⟨b1, o1, rfl, hl1, q1, u1⟩ := (H1.out.below HB.out).cls k hkx
      obtain ⟨b2, o2, rfl, hl2, q2, u2⟩ := (H2.out.below HB.out).cls k hky
      have et : xs[k].t = ys[k].t := by
        have h := congrArg (fun l : List Tx => l[k]?) HT.out
        simpa [txs, List.getElem?_eq_getElem hkx, List.getElem?_eq_getElem hky] using h
      have hfx : TFit xs[k].t := HF.out.2 _ (List.mem_map.2 ⟨_, List.getElem_mem hkx, rfl⟩)
      obtain ⟨x, hx⟩ : ∃ x, x = xs[k] := ⟨_, rfl⟩
      obtain ⟨y, hy⟩ : ∃ y, y = ys[k] := ⟨_, rfl⟩
      rw [← hx] at q1 u1 et hfx
      rw [← hy] at q2 u2 et
      clear hx hy
      have HE : Hid (∀ W : World, TRow W x.t x.ra x.wa → TRow W x.t y.ra y.wa → Calls Try.prog 10 #[.agg #[.int .i64 x.t.id, .int .i64 x.t.st, .int .i64 x.t.snap, .int .i64 x.t.cs, .slice x.ra x.t.rs.length x.rc, .slice x.wa x.t.ws.length x.wc, .bool x.t.out, .string x.t.nm], .agg #[.int .i64 y.t.id, .int .i64 y.t.st, .int .i64 y.t.snap, .int .i64 y.t.cs, .slice y.ra y.t.rs.length y.rc, .slice y.wa y.t.ws.length y.wc, .bool y.t.out, .string y.t.nm]] W fun e w' => e = .returned (.bool true) ∧ Below W.heap.size W w') := by
        intro W g1 g2
        rw [← et]
        exact eqT x.t x.ra x.wa y.ra y.wa x.rc x.wc y.rc y.wc (Nat.le_trans hfx.1 (by omega)) (Nat.le_trans hfx.2.2.1 (by omega)) W g1 g2
      have U1 : Hid (TRow wr x.t x.ra x.wa) := u1
      have U2 : Hid (TRow wr x.t y.ra y.wa) := by rw [et]; exact u2
      have hHd : wr.cell? ⟨b1, o1 + k * 8, none⟩ = some (.int .i64 x.t.id) ∧ wr.cell? ⟨b1, o1 + k * 8 + 1, none⟩ = some (.int .i64 x.t.st) ∧ wr.cell? ⟨b1, o1 + k * 8 + 2, none⟩ = some (.int .i64 x.t.snap) ∧ wr.cell? ⟨b1, o1 + k * 8 + 3, none⟩ = some (.int .i64 x.t.cs) ∧ wr.cell? ⟨b1, o1 + k * 8 + 4, none⟩ = some (.slice x.ra x.t.rs.length x.rc) ∧ wr.cell? ⟨b1, o1 + k * 8 + 5, none⟩ = some (.slice x.wa x.t.ws.length x.wc) ∧ wr.cell? ⟨b1, o1 + k * 8 + 6, none⟩ = some (.bool x.t.out) ∧ wr.cell? ⟨b1, o1 + k * 8 + 7, none⟩ = some (.string x.t.nm) ∧ wr.cell? ⟨b2, o2 + k * 8, none⟩ = some (.int .i64 y.t.id) ∧ wr.cell? ⟨b2, o2 + k * 8 + 1, none⟩ = some (.int .i64 y.t.st) ∧ wr.cell? ⟨b2, o2 + k * 8 + 2, none⟩ = some (.int .i64 y.t.snap) ∧ wr.cell? ⟨b2, o2 + k * 8 + 3, none⟩ = some (.int .i64 y.t.cs) ∧ wr.cell? ⟨b2, o2 + k * 8 + 4, none⟩ = some (.slice y.ra y.t.rs.length y.rc) ∧ wr.cell? ⟨b2, o2 + k * 8 + 5, none⟩ = some (.slice y.wa y.t.ws.length y.wc) ∧ wr.cell? ⟨b2, o2 + k * 8 + 6, none⟩ = some (.bool y.t.out) ∧ wr.cell? ⟨b2, o2 + k * 8 + 7, none⟩ = some (.string y.t.nm) := ⟨q1.c0, q1.c1, q1.c2, q1.c3, q1.c4, q1.c5, q1.c6, q1.c7, q2.c0, q2.c1, q2.c2, q2.c3, q2.c4, q2.c5, q2.c6, q2.c7⟩
      have Q1 := hide q1
      have Q2 := hide q2
      clear q1 q2 u1 u2 et hfx hkx hky
      have HB0 := hide HB.out
      go_wp2
      refine wp_region_held_drew (S := fun w' => w'.cell? ⟨b1, o1 + k * 8, none⟩ = some (.int .i64 x.t.id) ∧ w'.cell? ⟨b1, o1 + k * 8 + 1, none⟩ = some (.int .i64 x.t.st) ∧ w'.cell? ⟨b1, o1 + k * 8 + 2, none⟩ = some (.int .i64 x.t.snap) ∧ w'.cell? ⟨b1, o1 + k * 8 + 3, none⟩ = some (.int .i64 x.t.cs) ∧ w'.cell? ⟨b1, o1 + k * 8 + 4, none⟩ = some (.slice x.ra x.t.rs.length x.rc) ∧ w'.cell? ⟨b1, o1 + k * 8 + 5, none⟩ = some (.slice x.wa x.t.ws.length x.wc) ∧ w'.cell? ⟨b1, o1 + k * 8 + 6, none⟩ = some (.bool x.t.out) ∧ w'.cell? ⟨b1, o1 + k * 8 + 7, none⟩ = some (.string x.t.nm) ∧ w'.cell? ⟨b2, o2 + k * 8, none⟩ = some (.int .i64 y.t.id) ∧ w'.cell? ⟨b2, o2 + k * 8 + 1, none⟩ = some (.int .i64 y.t.st) ∧ w'.cell? ⟨b2, o2 + k * 8 + 2, none⟩ = some (.int .i64 y.t.snap) ∧ w'.cell? ⟨b2, o2 + k * 8 + 3, none⟩ = some (.int .i64 y.t.cs) ∧ w'.cell? ⟨b2, o2 + k * 8 + 4, none⟩ = some (.slice y.ra y.t.rs.length y.rc) ∧ w'.cell? ⟨b2, o2 + k * 8 + 5, none⟩ = some (.slice y.wa y.t.ws.length y.wc) ∧ w'.cell? ⟨b2, o2 + k * 8 + 6, none⟩ = some (.bool y.t.out) ∧ w'.cell? ⟨b2, o2 + k * 8 + 7, none⟩ = some (.string y.t.nm)) (by kernel_rfl) hHd (fun hHeld => ?_)
      (refine wpAnyH_take (i := 0) (v := ?_) rfl (by kernel_rfl) (by kernel_rfl) (by kernel_rfl) (fun _ _ _ h => h) (Or.inl ⟨by rfl, ?_⟩) (by assumption) ?_; rotate_left; (focus (intro w hSw; (try dsimp only at hSw); go_simp; (try with_reducible rfl); done)); simp only [Act.put, List.getElem_toArray, List.getElem_cons_zero, List.setIfInBounds_toArray, List.set_cons_zero, List.set_cons_succ])
      (refine wpAnyH_take (i := 1) (v := ?_) rfl (by kernel_rfl) (by kernel_rfl) (by kernel_rfl) (fun _ _ _ h => h) (Or.inl ⟨by rfl, ?_⟩) (by assumption) ?_; rotate_left; (focus (intro w hSw; (try dsimp only at hSw); go_simp; (try with_reducible rfl); done)); simp only [Act.put, List.getElem_toArray, List.getElem_cons_zero, List.getElem_cons_succ, List.setIfInBounds_toArray, List.set_cons_zero, List.set_cons_succ])
      (refine wpAnyH_take (i := 2) (v := ?_) rfl (by kernel_rfl) (by kernel_rfl) (by kernel_rfl) (fun _ _ _ h => h) (Or.inl ⟨by rfl, ?_⟩) (by assumption) ?_; rotate_left; (focus (intro w hSw; (try dsimp only at hSw); go_simp; (try with_reducible rfl); done)); simp only [Act.put, List.getElem_toArray, List.getElem_cons_zero, List.getElem_cons_succ, List.setIfInBounds_toArray, List.set_cons_zero, List.set_cons_succ])
      (refine wpAnyH_take (i := 3) (v := ?_) rfl (by kernel_rfl) (by kernel_rfl) (by kernel_rfl) (fun _ _ _ h => h) (Or.inl ⟨by rfl, ?_⟩) (by assumption) ?_; rotate_left; (focus (intro w hSw; (try dsimp only at hSw); go_simp; (try with_reducible rfl); done)); simp only [Act.put, List.getElem_toArray, List.getElem_cons_zero, List.getElem_cons_succ, List.setIfInBounds_toArray, List.set_cons_zero, List.set_cons_succ])
      (refine wpAnyH_take (i := 4) (v := ?_) rfl (by kernel_rfl) (by kernel_rfl) (by kernel_rfl) (fun _ _ _ h => h) (Or.inl ⟨by rfl, ?_⟩) (by assumption) ?_; rotate_left; (focus (intro w hSw; (try dsimp only at hSw); go_simp; (try with_reducible rfl); done)); simp only [Act.put, List.getElem_toArray, List.getElem_cons_zero, List.getElem_cons_succ, List.setIfInBounds_toArray, List.set_cons_zero, List.set_cons_succ])
      (refine wpAnyH_take (i := 5) (v := ?_) rfl (by kernel_rfl) (by kernel_rfl) (by kernel_rfl) (fun _ _ _ h => h) (Or.inl ⟨by rfl, ?_⟩) (by assumption) ?_; rotate_left; (focus (intro w hSw; (try dsimp only at hSw); go_simp; (try with_reducible rfl); done)); simp only [Act.put, List.getElem_toArray, List.getElem_cons_zero, List.getElem_cons_succ, List.setIfInBounds_toArray, List.set_cons_zero, List.set_cons_succ])
      (refine wpAnyH_take (i := 6) (v := ?_) rfl (by kernel_rfl) (by kernel_rfl) (by kernel_rfl) (fun _ _ _ h => h) (Or.inl ⟨by rfl, ?_⟩) (by assumption) ?_; rotate_left; (focus (intro w hSw; (try dsimp only at hSw); go_simp; (try with_reducible rfl); done)); simp only [Act.put, List.getElem_toArray, List.getElem_cons_zero, List.getElem_cons_succ, List.setIfInBounds_toArray, List.set_cons_zero, List.set_cons_succ])
      (refine wpAnyH_take (i := 7) (v := ?_) rfl (by kernel_rfl) (by kernel_rfl) (by kernel_rfl) (fun _ _ _ h => h) (Or.inl ⟨by rfl, ?_⟩) (by assumption) ?_; rotate_left; (focus (intro w hSw; (try dsimp only at hSw); go_simp; (try with_reducible rfl); done)); simp only [Act.put, List.getElem_toArray, List.getElem_cons_zero, List.getElem_cons_succ, List.setIfInBounds_toArray, List.set_cons_zero, List.set_cons_succ])
      refine wpAnyH_ready (rs := [8]) (by kernel_rfl) (by simp) ?_
      refine AllReadyH.cons rfl (fun K hK => ?_) AllReadyH.nil
      go_simp
      go_wp2_with fail
      refine (HE.out _ U1.out.drewT U2.out.drewT).mono ?_
      rintro e w2 ⟨rfl, hb2⟩
      have hbu := undrew hb2
      have hHd2 : w2.cell? ⟨b1, o1 + k * 8, none⟩ = some (.int .i64 x.t.id) ∧ w2.cell? ⟨b1, o1 + k * 8 + 1, none⟩ = some (.int .i64 x.t.st) ∧ w2.cell? ⟨b1, o1 + k * 8 + 2, none⟩ = some (.int .i64 x.t.snap) ∧ w2.cell? ⟨b1, o1 + k * 8 + 3, none⟩ = some (.int .i64 x.t.cs) ∧ w2.cell? ⟨b1, o1 + k * 8 + 4, none⟩ = some (.slice x.ra x.t.rs.length x.rc) ∧ w2.cell? ⟨b1, o1 + k * 8 + 5, none⟩ = some (.slice x.wa x.t.ws.length x.wc) ∧ w2.cell? ⟨b1, o1 + k * 8 + 6, none⟩ = some (.bool x.t.out) ∧ w2.cell? ⟨b1, o1 + k * 8 + 7, none⟩ = some (.string x.t.nm) ∧ w2.cell? ⟨b2, o2 + k * 8, none⟩ = some (.int .i64 y.t.id) ∧ w2.cell? ⟨b2, o2 + k * 8 + 1, none⟩ = some (.int .i64 y.t.st) ∧ w2.cell? ⟨b2, o2 + k * 8 + 2, none⟩ = some (.int .i64 y.t.snap) ∧ w2.cell? ⟨b2, o2 + k * 8 + 3, none⟩ = some (.int .i64 y.t.cs) ∧ w2.cell? ⟨b2, o2 + k * 8 + 4, none⟩ = some (.slice y.ra y.t.rs.length y.rc) ∧ w2.cell? ⟨b2, o2 + k * 8 + 5, none⟩ = some (.slice y.wa y.t.ws.length y.wc) ∧ w2.cell? ⟨b2, o2 + k * 8 + 6, none⟩ = some (.bool y.t.out) ∧ w2.cell? ⟨b2, o2 + k * 8 + 7, none⟩ = some (.string y.t.nm) := by
        have cb : ∀ o, w2.cell? ⟨b1, o, none⟩ = wr.cell? ⟨b1, o, none⟩ := fun o => hbu.cell (p := ⟨b1, o, none⟩) hl1
        have cc : ∀ o, w2.cell? ⟨b2, o, none⟩ = wr.cell? ⟨b2, o, none⟩ := fun o => hbu.cell (p := ⟨b2, o, none⟩) hl2
        simp only [cb, cc]
        exact hHd
      go_wp2_with fail
      refine hK.out _ _ hHd2 (fun hHeld2 => ?_)
      have HB2 : Hid (Below w.heap.size w w2) := HB0.out.trans (hbu.mono HB0.out.size)
      clear hK K hb2 hbu hHd hHd2
      (refine wpAnyH_take (i := 9) (v := ?_) rfl (by kernel_rfl) (by kernel_rfl) (by kernel_rfl) (fun _ _ _ h => h) (Or.inl ⟨by rfl, ?_⟩) (by assumption) ?_; rotate_left; (focus (intro w hSw; (try dsimp only at hSw); go_simp; (try with_reducible rfl); done)); simp only [Act.put, List.getElem_toArray, List.getElem_cons_zero, List.getElem_cons_succ, List.setIfInBounds_toArray, List.set_cons_zero, List.set_cons_succ])
      refine wpAnyH_done (by kernel_rfl) ?_ _
      go_wp2
      go_roundw
      case rel => exact ⟨k + 1, by omega, by go_num, HB2⟩
      case measure => simp [intOf]; omega
    · have hd : ¬ (k : Int) < (n : Int) := by omega
      go_wp2
      go_ret
      exact ⟨rfl, HB.out⟩


end Go.Proofs.Ytebcfdomjlikoaa

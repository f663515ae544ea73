/- Lists of those that look and change: how they lie, their size, their copy, their likeness. -/
import Derived.Test.YtebcfdomjlikoaaE5
import Derived.Deep.RegionHeld3
namespace Go.Proofs.Ytebcfdomjlikoaa
open Go.RowKit
open KM
attribute [local go_sem ↓] Go.wp_at_zero Go.wp_at_succ

/-- one that looks and changes, and where its rows lie -/
structure Ta where
  t : Tx
  ra : Option Addr
  rc : Nat
  wa : Option Addr
  wc : Nat
/-- one of them -/
def someTa : Ta := ⟨⟨0, 0, 0, 0, [], [], false, ByteArray.empty⟩, none, 0, none, 0⟩
/-- in its cells -/
def encT : Enc Ta := ⟨fun x => [.int .i64 x.t.id, .int .i64 x.t.st, .int .i64 x.t.snap, .int .i64 x.t.cs, .slice x.ra x.t.rs.length x.rc, .slice x.wa x.t.ws.length x.wc, .bool x.t.out, .string x.t.nm], 8, by decide, fun _ => rfl⟩
theorem Try.info31 : (Try.prog.info? 31).map (fun i => (i.zero, i.size, i.bytes)) = some (some (.agg #[.int .i64 0, .int .i64 0, .int .i64 0, .int .i64 0, .slice none 0 0, .slice none 0 0, .bool false, .string ByteArray.empty]), 8, 104) := by kernel_rfl
/-- the cells of one -/
structure Cls (w : World) (b o : Nat) (x : Ta) : Prop where
  c0 : w.cell? ⟨b, o, none⟩ = some (.int .i64 x.t.id)
  c1 : w.cell? ⟨b, o + 1, none⟩ = some (.int .i64 x.t.st)
  c2 : w.cell? ⟨b, o + 2, none⟩ = some (.int .i64 x.t.snap)
  c3 : w.cell? ⟨b, o + 3, none⟩ = some (.int .i64 x.t.cs)
  c4 : w.cell? ⟨b, o + 4, none⟩ = some (.slice x.ra x.t.rs.length x.rc)
  c5 : w.cell? ⟨b, o + 5, none⟩ = some (.slice x.wa x.t.ws.length x.wc)
  c6 : w.cell? ⟨b, o + 6, none⟩ = some (.bool x.t.out)
  c7 : w.cell? ⟨b, o + 7, none⟩ = some (.string x.t.nm)
theorem tat {w : World} {b off : Nat} {xs : List Ta} (hc : ∀ j (hj : j < xs.length) i, i < encT.size → w.cell? ⟨b, off + j * encT.size + i, none⟩ = (encT.enc xs[j])[i]?) (j : Nat) (hj : j < xs.length) : Cls w b (off + j * 8) xs[j] :=
  ⟨by simpa [encT] using hc j hj 0 (by decide), by simpa [encT] using hc j hj 1 (by decide), by simpa [encT] using hc j hj 2 (by decide), by simpa [encT] using hc j hj 3 (by decide), by simpa [encT] using hc j hj 4 (by decide), by simpa [encT] using hc j hj 5 (by decide), by simpa [encT] using hc j hj 6 (by decide), by simpa [encT] using hc j hj 7 (by decide)⟩
/-- what is read of a list -/
structure TRows (w : World) (a : Option Addr) (xs : List Ta) : Prop where
  row : GRow encT w a xs
  each : ∀ x ∈ xs, TRow w x.t x.ra x.wa
theorem TRows.below {w w' : World} {a : Option Addr} {xs : List Ta} (h : TRows w a xs) (hb : Below w.heap.size w w') : TRows w' a xs := ⟨h.row.below hb, fun x hx => (h.each x hx).below hb⟩
theorem TRows.drewS {w : World} {a : Option Addr} {xs : List Ta} (h : TRows w a xs) : TRows w.drew a xs := ⟨h.row.drew, fun x hx => (h.each x hx).drewT⟩
theorem TRows.cls {w : World} {a : Option Addr} {xs : List Ta} (h : TRows w a xs) (k : Nat) (hk : k < xs.length) : ∃ b off, a = some ⟨b, off, none⟩ ∧ b < w.heap.size ∧ Cls w b (off + k * 8) xs[k] ∧ TRow w xs[k].t xs[k].ra xs[k].wa := by
  obtain ⟨b, off, rfl, hbl, hc⟩ := h.row (by omega)
  exact ⟨b, off, rfl, hbl, tat hc k hk, h.each _ (List.getElem_mem hk)⟩
/-- what is handed in: a list -/
structure LArg (w : World) (a : Option Addr) (xs : List Ta) : Prop where
  len : xs.length ≤ maxLen
  each : ∀ x ∈ xs, TArg w x.t x.ra x.wa
  row : GRow encT w a xs
theorem LArg.rows {w : World} {a : Option Addr} {xs : List Ta} (h : LArg w a xs) : TRows w a xs := ⟨h.row, fun x hx => (h.each x hx).row⟩
theorem TArg.below {w w' : World} {t : Tx} {ra wa : Option Addr} (h : TArg w t ra wa) (hb : Below w.heap.size w w') : TArg w' t ra wa := ⟨h.rl, h.rf, h.wl, h.wf, h.nm, h.row.below hb⟩
theorem LArg.below {w w' : World} {a : Option Addr} {xs : List Ta} (h : LArg w a xs) (hb : Below w.heap.size w w') : LArg w' a xs := ⟨h.len, fun x hx => (h.each x hx).below hb, h.row.below hb⟩
/-- texts that are not too long -/
def LFit (ts : List Tx) : Prop := ts.length ≤ 1048576 ∧ ∀ t ∈ ts, TFit t
/-- those of a list, without where they lie -/
def txs (xs : List Ta) : List Tx := xs.map (·.t)
theorem txs_len (xs : List Ta) : (txs xs).length = xs.length := by simp [txs]

set_option maxRecDepth 100000 in
set_option maxHeartbeats 2000000 in
theorem szL (xs : List Ta) (a : Option Addr) (c : Nat) (L : Int) (h0 : 0 ≤ L) (h1 : L ≤ 1048576) (w : World) (hp : LArg w a xs) :
    Calls Try.prog 11 #[.slice a xs.length c, .int .i64 L] w fun e w' => Below w.heap.size w w' ∧ ∃ r : Int, e = .returned (.int .i64 r) ∧ r ≤ 1048576 ∧ (0 ≤ r → LFit (txs xs)) := by
  have HP : Hid (LArg w a xs) := hp
  have hn := hp.len
  clear hp
  unfold maxLen at hn
  by_cases hneg : L - (xs.length : Int) < 0
  · go_enter Try.func11, Try.ntmps11
    go_wp2
    go_ret
    exact ⟨belowRefl w, -1, rfl, by omega, fun h => by omega⟩
  · have hneg' : decide (L - (xs.length : Int) < 0) = false := by simpa using hneg
    go_enter Try.func11, Try.ntmps11
    go_wp2
    go_loopw [1, 5] (fun tl t wr => ∃ (k : Nat) (l : Int), k ≤ xs.length ∧ t = .int .i64 k ∧ tl = .int .i64 l ∧ 0 ≤ l ∧ l ≤ 1048576 ∧ Hid (∀ j (hj : j < xs.length), j < k → TFit xs[j].t) ∧ Hid (Below w.heap.size w wr)) (fun _ t _ => xs.length - (intOf t).toNat)
    case atStart => exact ⟨0, L - (xs.length : Int), Nat.zero_le _, rfl, rfl, by omega, by omega, fun j hj h => by omega, belowRefl w⟩
    case round =>
      obtain ⟨k, l, hk, rfl, rfl, hl0, hl1, HA, HB⟩ := hrel
      by_cases hlt : k < xs.length
      · have hlt' : (k : Int) < (xs.length : Int) := by omega
        have hk0 : (0 : Int) ≤ (k : Int) := by omega
        have HR0 := hide (HP.out.below HB.out)
        obtain ⟨b, off, rfl, hbl, hc, -⟩ := HR0.out.rows.cls k hlt
        obtain ⟨x, hx⟩ : ∃ x, x = xs[k] := ⟨_, rfl⟩
        rw [← hx] at hc
        have HX : Hid (x = xs[k]) := hx
        have HT : Hid (TArg wr x.t x.ra x.wa) := by rw [hx]; exact HR0.out.each _ (List.getElem_mem hlt)
        clear hx
        have r0 := hc.c0
        have r1 := hc.c1
        have r2 := hc.c2
        have r3 := hc.c3
        have r4 := hc.c4
        have r5 := hc.c5
        have r6 := hc.c6
        have r7 := hc.c7
        clear hc
        go_wp2_with fail
        refine (szT x.t x.ra x.wa x.rc x.wc l hl0 hl1 _ HT.out).mono ?_
        rintro e w2 ⟨hb2, r, rfl, hr1, hr⟩
        have HB2 : Hid (Below w.heap.size w w2) := HB.out.trans (hb2.mono HB.out.size)
        have HF : Hid (0 ≤ r → TFit x.t) := hr
        clear hb2 hr r0 r1 r2 r3 r4 r5 r6 r7
        by_cases hn2 : r < 0
        · go_wp2
          go_ret
          exact ⟨HB2.out, -1, rfl, by omega, fun h => by omega⟩
        · have hn3 : ¬ r < 0 := hn2
          have HA2 : Hid (∀ j (hj : j < xs.length), j < k + 1 → TFit xs[j].t) := fun j hj h => by
            by_cases e : j = k
            · subst e; rw [← HX.out]; exact HF.out (by omega)
            · exact HA.out j hj (by omega)
          have hr0 : 0 ≤ r := by omega
          clear hn2
          go_wp2
          go_roundw
          case rel => exact ⟨k + 1, r, by omega, by go_num, rfl, hr0, hr1, HA2, HB2⟩
          case measure => simp [intOf]; omega
      · have hlt' : ¬ (k : Int) < (xs.length : Int) := by omega
        have HA2 : Hid (LFit (txs xs)) := ⟨by rw [txs_len]; omega, fun s hs => by
          obtain ⟨y, hy, rfl⟩ := List.mem_map.1 hs
          obtain ⟨j, hj, rfl⟩ := List.getElem_of_mem hy
          exact HA.out j hj (by omega)⟩
        go_wp2
        go_ret
        exact ⟨HB.out, l, rfl, hl1, fun _ => HA2.out⟩


end Go.Proofs.Ytebcfdomjlikoaa

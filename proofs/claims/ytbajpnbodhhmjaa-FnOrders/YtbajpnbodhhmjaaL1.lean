/- Lists of those that look and change: how they lie, their size, their copy, their likeness. -/
import Derived.Test.YtbajpnbodhhmjaaE5
import Derived.Deep.RegionHeld3
namespace Go.Proofs.Ytbajpnbodhhmjaa
open Go.RowKit
open KM
attribute [local go_sem ↓] Go.wp_at_zero Go.wp_at_succ

/-- one that looks and changes, and where its rows lie -/
structure Ta where
  t : Tx
  ra : Option Addr
  rc : Nat
  wa : Option Addr
  wc : Nat
/-- one of them -/
def someTa : Ta := ⟨⟨0, 0, 0, 0, [], [], false, ByteArray.empty⟩, none, 0, none, 0⟩
/-- in its cells -/
def encT : Enc Ta := ⟨fun x => [.int .i64 x.t.id, .int .i64 x.t.st, .int .i64 x.t.snap, .int .i64 x.t.cs, .slice x.ra x.t.rs.length x.rc, .slice x.wa x.t.ws.length x.wc, .bool x.t.out, .string x.t.nm], 8, by decide, fun _ => rfl⟩
theorem Try.info34 : (Try.prog.info? 34).map (fun i => (i.zero, i.size, i.bytes)) = some (some (.agg #[.int .i64 0, .int .i64 0, .int .i64 0, .int .i64 0, .slice none 0 0, .slice none 0 0, .bool false, .string ByteArray.empty]), 8, 104) := by kernel_rfl
/-- the cells of one -/
structure Cls (w : World) (b o : Nat) (x : Ta) : Prop where
  c0 : w.cell? ⟨b, o, none⟩ = some (.int .i64 x.t.id)
  c1 : w.cell? ⟨b, o + 1, none⟩ = some (.int .i64 x.t.st)
  c2 : w.cell? ⟨b, o + 2, none⟩ = some (.int .i64 x.t.snap)
  c3 : w.cell? ⟨b, o + 3, none⟩ = some (.int .i64 x.t.cs)
  c4 : w.cell? ⟨b, o + 4, none⟩ = some (.slice x.ra x.t.rs.length x.rc)
  c5 : w.cell? ⟨b, o + 5, none⟩ = some (.slice x.wa x.t.ws.length x.wc)
  c6 : w.cell? ⟨b, o + 6, none⟩ = some (.bool x.t.out)
  c7 : w.cell? ⟨b, o + 7, none⟩ = some (.string x.t.nm)
theorem tat {w : World} {b off : Nat} {xs : List Ta} (hc : ∀ j (hj : j < xs.length) i, i < encT.size → w.cell? ⟨b, off + j * encT.size + i, none⟩ = (encT.enc xs[j])[i]?) (j : Nat) (hj : j < xs.length) : Cls w b (off + j * 8) xs[j] :=
  ⟨by simpa [encT] using hc j hj 0 (by decide), by simpa [encT] using hc j hj 1 (by decide), by simpa [encT] using hc j hj 2 (by decide), by simpa [encT] using hc j hj 3 (by decide), by simpa [encT] using hc j hj 4 (by decide), by simpa [encT] using hc j hj 5 (by decide), by simpa [encT] using hc j hj 6 (by decide), by simpa [encT] using hc j hj 7 (by decide)⟩
/-- what is read of a list -/
structure TRows (w : World) (a : Option Addr) (xs : List Ta) : Prop where
  row : GRow encT w a xs
  each : ∀ x ∈ xs, TRow w x.t x.ra x.wa
theorem TRows.below {w w' : World} {a : Option Addr} {xs : List Ta} (h : TRows w a xs) (hb : Below w.heap.size w w') : TRows w' a xs := ⟨h.row.below hb, fun x hx => (h.each x hx).below hb⟩
theorem TRows.drewS {w : World} {a : Option Addr} {xs : List Ta} (h : TRows w a xs) : TRows w.drew a xs := ⟨h.row.drew, fun x hx => (h.each x hx).drewT⟩
theorem TRows.cls {w : World} {a : Option Addr} {xs : List Ta} (h : TRows w a xs) (k : Nat) (hk : k < xs.length) : ∃ b off, a = some ⟨b, off, none⟩ ∧ b < w.heap.size ∧ Cls w b (off + k * 8) xs[k] ∧ TRow w xs[k].t xs[k].ra xs[k].wa := by
  obtain ⟨b, off, rfl, hbl, hc⟩ := h.row (by omega)
  exact ⟨b, off, rfl, hbl, tat hc k hk, h.each _ (List.getElem_mem hk)⟩
/-- what is handed in: a list -/
structure LArg (w : World) (a : Option Addr) (xs : List Ta) : Prop where
  len : xs.length ≤ maxLen
  each : ∀ x ∈ xs, TArg w x.t x.ra x.wa
  row : GRow encT w a xs
theorem LArg.rows {w : World} {a : Option Addr} {xs : List Ta} (h : LArg w a xs) : TRows w a xs := ⟨h.row, fun x hx => (h.each x hx).row⟩
theorem TArg.below {w w' : World} {t : Tx} {ra wa : Option Addr} (h : TArg w t ra wa) (hb : Below w.heap.size w w') : TArg w' t ra wa := ⟨h.rl, h.rf, h.wl, h.wf, h.nm, h.row.below hb⟩
theorem LArg.below {w w' : World} {a : Option Addr} {xs : List Ta} (h : LArg w a xs) (hb : Below w.heap.size w w') : LArg w' a xs := ⟨h.len, fun x hx => (h.each x hx).below hb, h.row.below hb⟩
/-- texts that are not too long -/
def LFit (ts : List Tx) : Prop := ts.length ≤ 1048576 ∧ ∀ t ∈ ts, TFit t
/-- those of a list, without where they lie -/
def txs (xs : List Ta) : List Tx := xs.map (·.t)
theorem txs_len (xs : List Ta) : (txs xs).length = xs.length := by simp [txs]

end Go.Proofs.Ytbajpnbodhhmjaa

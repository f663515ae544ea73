/- One by one: the order that is found, without Go. -/
import Derived.Test.YtbajpnbodhhmjaaPq06
import Derived.Test.YtbajpnbodhhmjaaPq04
import Derived.Deep.RegionHeld3
namespace Go.Proofs.Ytbajpnbodhhmjaa
open Go.RowKit
open KM

theorem befB_self (a : Tx) : befB a a = false := by simp [befB]
def bef (ts : List Tx) (k i : Nat) : Bool := match ts[k]?, ts[i]? with
  | some a, some b => befB a b
  | _, _ => false
theorem bef_at (ts : List Tx) (k i : Nat) (hk : k < ts.length) (hi : i < ts.length) : bef ts k i = befB ts[k] ts[i] := by
  unfold bef
  rw [List.getElem?_eq_getElem hk, List.getElem?_eq_getElem hi]
theorem bef_self (ts : List Tx) (k : Nat) : bef ts k k = false := by
  unfold bef
  cases h : ts[k]? with
  | none => rfl
  | some a => exact befB_self a
def waits (ts : List Tx) (o : List Nat) (i : Nat) : List Nat := (List.range ts.length).filter fun k => !(o.contains k) && bef ts k i
def freeB (ts : List Tx) (o : List Nat) (i : Nat) : Bool := !(o.contains i) && (List.range ts.length).all fun k => o.contains k || !(bef ts k i)
def nxt (ts : List Tx) (o : List Nat) : Option Nat := (List.range ts.length).find? (freeB ts o)
def serF (ts : List Tx) : Nat → List Nat → Option (List Nat)
  | 0, o => some o
  | f + 1, o => match nxt ts o with
    | none => none
    | some i => serF ts f (o ++ [i])
def serB (ts : List Tx) : Option (List Nat) := serF ts ts.length []
def serO (ts : List Tx) : List Nat := (serB ts).getD []
theorem free_waits (ts : List Tx) (o : List Nat) (i : Nat) : freeB ts o i = (!(o.contains i) && decide (waits ts o i = [])) := by
  unfold freeB waits
  congr 1
  rw [Bool.eq_iff_iff]
  simp only [List.all_eq_true, decide_eq_true_eq, List.filter_eq_nil_iff]
  constructor
  · intro h k hk
    have := h k hk
    cases hc : o.contains k <;> cases hb : bef ts k i <;> simp_all
  · intro h k hk
    have := h k hk
    cases hc : o.contains k <;> cases hb : bef ts k i <;> simp_all
structure Ordd (ts : List Tx) (o : List Nat) : Prop where
  lt : ∀ j ∈ o, j < ts.length
  nd : o.Nodup
  no : ∀ j ∈ o, ∀ k, k < ts.length → k ∉ o → bef ts k j = false
theorem Ordd.nil (ts : List Tx) : Ordd ts [] := ⟨(fun _ h => by cases h), List.nodup_nil, (fun _ h => by cases h)⟩
theorem free_iff (ts : List Tx) (o : List Nat) (i : Nat) : freeB ts o i = true ↔ i ∉ o ∧ ∀ k, k < ts.length → k ∉ o → bef ts k i = false := by
  unfold freeB
  simp only [Bool.and_eq_true, Bool.not_eq_true', List.all_eq_true, List.mem_range, Bool.or_eq_true]
  constructor
  · rintro ⟨h1, h2⟩
    refine ⟨fun h => by simp [h] at h1, fun k hk hn => ?_⟩
    rcases h2 k hk with h | h
    · exact absurd (by simpa using h) hn
    · exact h
  · rintro ⟨h1, h2⟩
    refine ⟨by simpa using h1, fun k hk => ?_⟩
    by_cases h : k ∈ o
    · left; simpa using h
    · right; exact h2 k hk h
theorem Ordd.snoc {ts : List Tx} {o : List Nat} {i : Nat} (h : Ordd ts o) (hi : i < ts.length) (hf : freeB ts o i = true) : Ordd ts (o ++ [i]) := by
  obtain ⟨h1, h2⟩ := (free_iff ts o i).1 hf
  refine ⟨fun j hj => ?_, ?_, fun j hj k hk hn => ?_⟩
  · rcases List.mem_append.1 hj with h3 | h3
    · exact h.lt j h3
    · rw [List.mem_singleton.1 h3]; exact hi
  · rw [List.nodup_append]
    refine ⟨h.nd, by simp, fun a ha b hb => ?_⟩
    rw [List.mem_singleton.1 hb]
    intro e
    exact h1 (e ▸ ha)
  · have hko : k ∉ o := fun hm => hn (List.mem_append_left _ hm)
    rcases List.mem_append.1 hj with h3 | h3
    · exact h.no j h3 k hk hko
    · rw [List.mem_singleton.1 h3]; exact h2 k hk hko
theorem nodup_le : ∀ (n : Nat) (o : List Nat), o.Nodup → (∀ j ∈ o, j < n) → o.length ≤ n
  | 0, o, _, h => by
    cases o with
    | nil => simp
    | cons x o => exact absurd (h x (List.mem_cons_self ..)) (Nat.not_lt_zero _)
  | n + 1, o, hn, h => by
    have h1 : (o.erase n).length ≤ n := nodup_le n (o.erase n) (hn.erase n) (fun j hj => by
      have h2 := (hn.mem_erase_iff).1 hj
      have h3 := h j h2.2
      have h4 := h2.1
      omega)
    by_cases hm : n ∈ o
    · have := List.length_erase_of_mem hm
      omega
    · rw [List.erase_of_not_mem hm] at h1
      omega
theorem Ordd.len {ts : List Tx} {o : List Nat} (h : Ordd ts o) : o.length ≤ ts.length := nodup_le _ o h.nd h.lt
theorem nxt_some {ts : List Tx} {o : List Nat} {i : Nat} (h : nxt ts o = some i) : i < ts.length ∧ freeB ts o i = true :=
  ⟨List.mem_range.1 (List.mem_of_find?_eq_some h), List.find?_some h⟩
theorem nxt_first {ts : List Tx} {o : List Nat} {i : Nat} (hi : i < ts.length) (hf : freeB ts o i = true) (hb : ∀ j, j < i → freeB ts o j = false) : nxt ts o = some i := by
  unfold nxt
  rw [List.find?_eq_some_iff_getElem]
  refine ⟨hf, i, by simpa using hi, by simp, fun j hj => ?_⟩
  simp only [List.getElem_range]
  rw [hb j hj]; rfl
theorem nxt_none {ts : List Tx} {o : List Nat} (hb : ∀ j, j < ts.length → freeB ts o j = false) : nxt ts o = none := by
  unfold nxt
  rw [List.find?_eq_none]
  intro j hj
  rw [hb j (List.mem_range.1 hj)]
  simp
theorem ser_step {ts : List Tx} {o : List Nat} {i : Nat} (hl : o.length < ts.length) (h : nxt ts o = some i) : serF ts (ts.length - o.length) o = serF ts (ts.length - (o ++ [i]).length) (o ++ [i]) := by
  obtain ⟨f, hf⟩ : ∃ f, ts.length - o.length = f + 1 := ⟨ts.length - o.length - 1, by omega⟩
  rw [hf]
  have h2 : ts.length - (o ++ [i]).length = f := by simp; omega
  rw [h2]
  show (match nxt ts o with | none => none | some i => serF ts f (o ++ [i])) = _
  rw [h]
theorem ser_stop {ts : List Tx} {o : List Nat} (hl : o.length < ts.length) (h : nxt ts o = none) : serF ts (ts.length - o.length) o = none := by
  obtain ⟨f, hf⟩ : ∃ f, ts.length - o.length = f + 1 := ⟨ts.length - o.length - 1, by omega⟩
  rw [hf]
  show (match nxt ts o with | none => none | some i => serF ts f (o ++ [i])) = _
  rw [h]
theorem ser_end {ts : List Tx} {o : List Nat} (hl : o.length = ts.length) : serF ts (ts.length - o.length) o = some o := by
  rw [hl, Nat.sub_self]; rfl
def cnt (ts : List Tx) (o : List Nat) (j : Nat) : Int := if o.contains j then -1 else ((waits ts o j).length : Int)
def cnts (ts : List Tx) (o : List Nat) : List Int := (List.range ts.length).map (cnt ts o)
theorem cnts_len (ts : List Tx) (o : List Nat) : (cnts ts o).length = ts.length := by simp [cnts]
theorem cnts_at (ts : List Tx) (o : List Nat) (j : Nat) (h : j < ts.length) : (cnts ts o)[j]'(by rw [cnts_len]; exact h) = cnt ts o j := by simp [cnts]
theorem cnt_zero (ts : List Tx) (o : List Nat) (j : Nat) : freeB ts o j = decide (cnt ts o j = 0) := by
  rw [free_waits]
  unfold cnt
  cases h : o.contains j
  · simp
  · simp
theorem waits_le (ts : List Tx) (o : List Nat) (j : Nat) : (waits ts o j).length ≤ ts.length := by
  unfold waits
  exact Nat.le_trans (List.length_filter_le _ _) (by simp)
theorem cnt_bd (ts : List Tx) (o : List Nat) (j : Nat) : -1 ≤ cnt ts o j ∧ cnt ts o j ≤ (ts.length : Int) := by
  have := waits_le ts o j
  unfold cnt
  split <;> omega
def addL (t : Tx) (by' : Int) (ts : List Tx) (xs : List Int) : List Int := (List.range xs.length).map fun j => (xs[j]?.getD 0) + (match ts[j]? with | some b => if befB t b then by' else 0 | none => 0)
theorem addL_len (t : Tx) (by' : Int) (ts : List Tx) (xs : List Int) : (addL t by' ts xs).length = xs.length := by simp [addL]
theorem filter_one {p q : Nat → Bool} {i : Nat} : ∀ (l : List Nat), l.Nodup → i ∈ l → p i = true → q i = false → (∀ k ∈ l, k ≠ i → q k = p k) → (l.filter p).length = (l.filter q).length + 1
  | [], _, h, _, _, _ => by cases h
  | x :: l, hnd, hm, hp, hq, he => by
    rw [List.nodup_cons] at hnd
    by_cases hx : x = i
    · subst hx
      rw [List.filter_cons_of_pos hp, List.filter_cons_of_neg (by simp [hq])]
      have : l.filter p = l.filter q := List.filter_congr (fun k hk => ((he k (List.mem_cons_of_mem _ hk)) (fun e => hnd.1 (e ▸ hk))).symm)
      simp [this]
    · have hm' : i ∈ l := by
        rcases List.mem_cons.1 hm with h | h
        · exact absurd h.symm hx
        · exact h
      have ih := filter_one l hnd.2 hm' hp hq (fun k hk hne => he k (List.mem_cons_of_mem _ hk) hne)
      have hxx := he x (List.mem_cons_self ..) hx
      cases hpx : p x
      · rw [List.filter_cons_of_neg (by simp [hpx]), List.filter_cons_of_neg (by rw [hxx]; simp [hpx])]; exact ih
      · rw [List.filter_cons_of_pos hpx, List.filter_cons_of_pos (by rw [hxx]; exact hpx)]; simp [ih]
theorem waits_yes {ts : List Tx} {o : List Nat} {i j : Nat} (hi : i < ts.length) (hn : i ∉ o) (hb : bef ts i j = true) : (waits ts o j).length = (waits ts (o ++ [i]) j).length + 1 := by
  unfold waits
  refine filter_one (i := i) _ List.nodup_range (List.mem_range.2 hi) ?_ ?_ ?_
  · simp [hn, hb]
  · simp
  · intro k _ hk; simp [hk]
theorem waits_no {ts : List Tx} {o : List Nat} {i j : Nat} (hb : bef ts i j = false) : waits ts (o ++ [i]) j = waits ts o j := by
  unfold waits
  apply List.filter_congr
  intro k _
  by_cases hk : k = i
  · subst hk; simp [hb]
  · simp [hk]
theorem cnts_next {ts : List Tx} {o : List Nat} {i : Nat} (h : Ordd ts o) (hi : i < ts.length) (hf : freeB ts o i = true) : addL ts[i] (-1) ts ((cnts ts o).set i (-1)) = cnts ts (o ++ [i]) := by
  obtain ⟨h1, h2⟩ := (free_iff ts o i).1 hf
  apply List.ext_getElem
  · rw [addL_len, List.length_set, cnts_len, cnts_len]
  · intro j hj1 hj2
    have hj : j < ts.length := by rw [cnts_len] at hj2; exact hj2
    rw [cnts_at _ _ j hj]
    simp only [addL, List.getElem_map, List.getElem_range]
    rw [List.getElem?_eq_getElem hj, List.getElem?_eq_getElem (by rw [List.length_set, cnts_len]; exact hj)]
    simp only [Option.getD_some]
    rw [← bef_at ts i j hi hj, List.getElem_set]
    by_cases hij : i = j
    · subst hij
      rw [bef_self]
      simp [cnt]
    · rw [if_neg hij, cnts_at _ _ j hj]
      unfold cnt
      have hji : ¬ j = i := fun e => hij e.symm
      by_cases hjo : j ∈ o
      · have hbf := h.no j hjo i hi h1
        simp [hjo, hbf]
      · have hc : o.contains j = false := by simpa using hjo
        have hc2 : (o ++ [i]).contains j = false := by simp [hjo, hji]
        rw [hc, hc2]
        cases hb : bef ts i j
        · rw [waits_no hb]; simp
        · rw [waits_yes hi h1 hb]; simp; omega
def cntK (ts : List Tx) (k j : Nat) : Int := (((List.range k).filter fun i => bef ts i j).length : Int)
def cntsK (ts : List Tx) (k : Nat) : List Int := (List.range ts.length).map (cntK ts k)
theorem cntsK_len (ts : List Tx) (k : Nat) : (cntsK ts k).length = ts.length := by simp [cntsK]
theorem cntsK_zero (ts : List Tx) : cntsK ts 0 = List.replicate ts.length 0 := by
  apply List.ext_getElem
  · simp [cntsK]
  · intro j h1 h2; simp [cntsK, cntK]
theorem cntsK_all (ts : List Tx) : cntsK ts ts.length = cnts ts [] := by
  unfold cntsK cnts
  apply List.map_congr_left
  intro j _
  simp [cntK, cnt, waits]
theorem cntsK_next (ts : List Tx) (k : Nat) (hk : k < ts.length) : addL ts[k] 1 ts (cntsK ts k) = cntsK ts (k + 1) := by
  apply List.ext_getElem
  · rw [addL_len, cntsK_len, cntsK_len]
  · intro j hj1 hj2
    have hj : j < ts.length := by rw [cntsK_len] at hj2; exact hj2
    simp only [addL, cntsK, List.getElem_map, List.getElem_range]
    rw [List.getElem?_eq_getElem hj, List.getElem?_eq_getElem (by simpa using hj)]
    simp only [Option.getD_some, List.getElem_map, List.getElem_range]
    rw [← bef_at ts k j hk hj]
    unfold cntK
    rw [List.range_succ, List.filter_append]
    cases hb : bef ts k j <;> simp [hb]
theorem cntsK_bd (ts : List Tx) (k : Nat) (hk : k ≤ ts.length) : ∀ x ∈ cntsK ts k, -2000000 ≤ x ∧ x ≤ (ts.length : Int) := by
  intro x hx
  obtain ⟨j, _, rfl⟩ := List.mem_map.1 hx
  unfold cntK
  have h := List.length_filter_le (fun i => bef ts i j) (List.range k)
  simp only [List.length_range] at h
  omega
theorem cnts_bd (ts : List Tx) (o : List Nat) (i : Nat) : ∀ x ∈ (cnts ts o).set i (-1), -2000000 ≤ x ∧ x ≤ (ts.length : Int) := by
  intro x hx
  rcases List.mem_or_eq_of_mem_set hx with h | rfl
  · obtain ⟨j, _, rfl⟩ := List.mem_map.1 h
    have := cnt_bd ts o j
    omega
  · omega
end Go.Proofs.Ytbajpnbodhhmjaa

namespace Go.Proofs.Ytbajpnbodhhmjaa
open Go.RowKit
open KM
attribute [local go_sem ↓] Go.wp_at_zero Go.wp_at_succ

structure Ta where
  t : Tx
  ra : Option Addr
  rc : Nat
  wa : Option Addr
  wc : Nat
def encT : Enc Ta := ⟨fun x => [.int .i64 x.t.id, .int .i64 x.t.st, .int .i64 x.t.snap, .int .i64 x.t.cs, .slice x.ra x.t.rs.length x.rc, .slice x.wa x.t.ws.length x.wc, .bool x.t.out, .string x.t.nm], 8, by decide, fun _ => rfl⟩
theorem Try.info34 : (Try.prog.info? 34).map (fun i => (i.zero, i.size, i.bytes)) = some (some (.agg #[.int .i64 0, .int .i64 0, .int .i64 0, .int .i64 0, .slice none 0 0, .slice none 0 0, .bool false, .string ByteArray.empty]), 8, 104) := by kernel_rfl
structure Cls (w : World) (b o : Nat) (x : Ta) : Prop where
  c0 : w.cell? ⟨b, o, none⟩ = some (.int .i64 x.t.id)
  c1 : w.cell? ⟨b, o + 1, none⟩ = some (.int .i64 x.t.st)
  c2 : w.cell? ⟨b, o + 2, none⟩ = some (.int .i64 x.t.snap)
  c3 : w.cell? ⟨b, o + 3, none⟩ = some (.int .i64 x.t.cs)
  c4 : w.cell? ⟨b, o + 4, none⟩ = some (.slice x.ra x.t.rs.length x.rc)
  c5 : w.cell? ⟨b, o + 5, none⟩ = some (.slice x.wa x.t.ws.length x.wc)
  c6 : w.cell? ⟨b, o + 6, none⟩ = some (.bool x.t.out)
  c7 : w.cell? ⟨b, o + 7, none⟩ = some (.string x.t.nm)
theorem tat {w : World} {b off : Nat} {xs : List Ta} (hc : ∀ j (hj : j < xs.length) i, i < encT.size → w.cell? ⟨b, off + j * encT.size + i, none⟩ = (encT.enc xs[j])[i]?) (j : Nat) (hj : j < xs.length) : Cls w b (off + j * 8) xs[j] :=
  ⟨by simpa [encT] using hc j hj 0 (by decide), by simpa [encT] using hc j hj 1 (by decide), by simpa [encT] using hc j hj 2 (by decide), by simpa [encT] using hc j hj 3 (by decide), by simpa [encT] using hc j hj 4 (by decide), by simpa [encT] using hc j hj 5 (by decide), by simpa [encT] using hc j hj 6 (by decide), by simpa [encT] using hc j hj 7 (by decide)⟩
structure TRows (w : World) (a : Option Addr) (xs : List Ta) : Prop where
  row : GRow encT w a xs
  each : ∀ x ∈ xs, TRow w x.t x.ra x.wa
theorem TRows.below {w w' : World} {a : Option Addr} {xs : List Ta} (h : TRows w a xs) (hb : Below w.heap.size w w') : TRows w' a xs := ⟨h.row.below hb, fun x hx => (h.each x hx).below hb⟩
theorem TRows.cls {w : World} {a : Option Addr} {xs : List Ta} (h : TRows w a xs) (k : Nat) (hk : k < xs.length) : ∃ b off, a = some ⟨b, off, none⟩ ∧ b < w.heap.size ∧ Cls w b (off + k * 8) xs[k] ∧ TRow w xs[k].t xs[k].ra xs[k].wa := by
  obtain ⟨b, off, rfl, hbl, hc⟩ := h.row (by omega)
  exact ⟨b, off, rfl, hbl, tat hc k hk, h.each _ (List.getElem_mem hk)⟩
structure LArg (w : World) (a : Option Addr) (xs : List Ta) : Prop where
  len : xs.length ≤ maxLen
  each : ∀ x ∈ xs, TArg w x.t x.ra x.wa
  row : GRow encT w a xs
theorem LArg.rows {w : World} {a : Option Addr} {xs : List Ta} (h : LArg w a xs) : TRows w a xs := ⟨h.row, fun x hx => (h.each x hx).row⟩
theorem TArg.below {w w' : World} {t : Tx} {ra wa : Option Addr} (h : TArg w t ra wa) (hb : Below w.heap.size w w') : TArg w' t ra wa := ⟨h.rl, h.rf, h.wl, h.wf, h.nm, h.row.below hb⟩
theorem LArg.below {w w' : World} {a : Option Addr} {xs : List Ta} (h : LArg w a xs) (hb : Below w.heap.size w w') : LArg w' a xs := ⟨h.len, fun x hx => (h.each x hx).below hb, h.row.below hb⟩
def LFit (ts : List Tx) : Prop := ts.length ≤ 1048576 ∧ ∀ t ∈ ts, TFit t
def txs (xs : List Ta) : List Tx := xs.map (·.t)
theorem txs_len (xs : List Ta) : (txs xs).length = xs.length := by simp [txs]

end Go.Proofs.Ytbajpnbodhhmjaa

namespace Go.Proofs.Ytbajpnbodhhmjaa
open Go.RowKit
open KM
attribute [local go_sem ↓] Go.wp_at_zero Go.wp_at_succ

end Go.Proofs.Ytbajpnbodhhmjaa

/- One by one: the order that is found, without Go. -/
import Derived.Test.YtbajpnbodhhmjaaGreatPs04
import Derived.Test.YtbajpnbodhhmjaaGreatPs03
import Derived.Deep.RegionHeld3
import Derived.Test.YtbajpnbodhhmjaaGreatPs02
import Derived.Deep.Cut
namespace Go.Proofs.YtbajpnbodhhmjaaGreat
open Go.RowKit
open KM

theorem befB_self (a : Tx) : befB a a = false := by simp [befB]
def bef (ts : List Tx) (k i : Nat) : Bool := match ts[k]?, ts[i]? with
 | some a, some b => befB a b
 | _, _ => false
theorem bef_at (ts : List Tx) (k i : Nat) (hk : k < ts.length) (hi : i < ts.length) : bef ts k i = befB ts[k] ts[i] := by
 unfold bef
 rw [List.getElem?_eq_getElem hk, List.getElem?_eq_getElem hi]
theorem bef_self (ts : List Tx) (k : Nat) : bef ts k k = false := by
 unfold bef
 cases h : ts[k]? with
 | none => rfl
 | some a => exact befB_self a
def waits (ts : List Tx) (o : List Nat) (i : Nat) : List Nat := (List.range ts.length).filter fun k => !(o.contains k) && bef ts k i
def freeB (ts : List Tx) (o : List Nat) (i : Nat) : Bool := !(o.contains i) && (List.range ts.length).all fun k => o.contains k || !(bef ts k i)
def nxt (ts : List Tx) (o : List Nat) : Option Nat := (List.range ts.length).find? (freeB ts o)
def serF (ts : List Tx) : Nat → List Nat → Option (List Nat)
 | 0, o => some o
 | f + 1, o => match nxt ts o with
  | none => none
  | some i => serF ts f (o ++ [i])
def serB (ts : List Tx) : Option (List Nat) := serF ts ts.length []
def serO (ts : List Tx) : List Nat := (serB ts).getD []
theorem free_waits (ts : List Tx) (o : List Nat) (i : Nat) : freeB ts o i = (!(o.contains i) && decide (waits ts o i = [])) := by
 unfold freeB waits
 congr 1
 rw [Bool.eq_iff_iff]
 simp only [List.all_eq_true, decide_eq_true_eq, List.filter_eq_nil_iff]
 constructor
 ·intro h k hk
  have := h k hk
  cases hc : o.contains k <;> cases hb : bef ts k i <;> simp_all
 ·intro h k hk
  have := h k hk
  cases hc : o.contains k <;> cases hb : bef ts k i <;> simp_all
structure Ordd (ts : List Tx) (o : List Nat) : Prop where
 lt : ∀ j ∈ o, j < ts.length
 nd : o.Nodup
 no : ∀ j ∈ o, ∀ k, k < ts.length → k ∉ o → bef ts k j = false
theorem Ordd.nil (ts : List Tx) : Ordd ts [] := ⟨(fun _ h => by cases h), List.nodup_nil, (fun _ h => by cases h)⟩
theorem free_iff (ts : List Tx) (o : List Nat) (i : Nat) : freeB ts o i = true ↔ i ∉ o ∧ ∀ k, k < ts.length → k ∉ o → bef ts k i = false := by
 unfold freeB
 simp only [Bool.and_eq_true, Bool.not_eq_true', List.all_eq_true, List.mem_range, Bool.or_eq_true]
 constructor
 ·rintro ⟨h1, h2⟩
  refine ⟨fun h => by simp [h] at h1, fun k hk hn => ?_⟩
  rcases h2 k hk with h | h
  ·exact absurd (by simpa using h) hn
  ·exact h
 ·rintro ⟨h1, h2⟩
  refine ⟨by simpa using h1, fun k hk => ?_⟩
  by_cases h : k ∈ o
  ·left; simpa using h
  ·right; exact h2 k hk h
theorem Ordd.snoc {ts : List Tx} {o : List Nat} {i : Nat} (h : Ordd ts o) (hi : i < ts.length) (hf : freeB ts o i = true) : Ordd ts (o ++ [i]) := by
 obtain ⟨h1, h2⟩ := (free_iff ts o i).1 hf
 refine ⟨fun j hj => ?_, ?_, fun j hj k hk hn => ?_⟩
 ·rcases List.mem_append.1 hj with h3 | h3
  ·exact h.lt j h3
  ·rw [List.mem_singleton.1 h3]; exact hi
 ·rw [List.nodup_append]
  refine ⟨h.nd, by simp, fun a ha b hb => ?_⟩
  rw [List.mem_singleton.1 hb]
  intro e
  exact h1 (e ▸ ha)
 ·have hko : k ∉ o := fun hm => hn (List.mem_append_left _ hm)
  rcases List.mem_append.1 hj with h3 | h3
  ·exact h.no j h3 k hk hko
  ·rw [List.mem_singleton.1 h3]; exact h2 k hk hko
theorem nodup_le : ∀ (n : Nat) (o : List Nat), o.Nodup → (∀ j ∈ o, j < n) → o.length ≤ n
 | 0, o, _, h => by
  cases o with
  | nil => simp
  | cons x o => exact absurd (h x (List.mem_cons_self ..)) (Nat.not_lt_zero _)
 | n + 1, o, hn, h => by
  have h1 : (o.erase n).length ≤ n := nodup_le n (o.erase n) (hn.erase n) (fun j hj => by
   have h2 := (hn.mem_erase_iff).1 hj
   have h3 := h j h2.2
   have h4 := h2.1
   omega)
  by_cases hm : n ∈ o
  ·have := List.length_erase_of_mem hm
   omega
  ·rw [List.erase_of_not_mem hm] at h1
   omega
theorem Ordd.len {ts : List Tx} {o : List Nat} (h : Ordd ts o) : o.length ≤ ts.length := nodup_le _ o h.nd h.lt
theorem nxt_some {ts : List Tx} {o : List Nat} {i : Nat} (h : nxt ts o = some i) : i < ts.length ∧ freeB ts o i = true :=
 ⟨List.mem_range.1 (List.mem_of_find?_eq_some h), List.find?_some h⟩
theorem nxt_first {ts : List Tx} {o : List Nat} {i : Nat} (hi : i < ts.length) (hf : freeB ts o i = true) (hb : ∀ j, j < i → freeB ts o j = false) : nxt ts o = some i := by
 unfold nxt
 rw [List.find?_eq_some_iff_getElem]
 refine ⟨hf, i, by simpa using hi, by simp, fun j hj => ?_⟩
 simp only [List.getElem_range]
 rw [hb j hj]; rfl
theorem nxt_none {ts : List Tx} {o : List Nat} (hb : ∀ j, j < ts.length → freeB ts o j = false) : nxt ts o = none := by
 unfold nxt
 rw [List.find?_eq_none]
 intro j hj
 rw [hb j (List.mem_range.1 hj)]
 simp
theorem ser_step {ts : List Tx} {o : List Nat} {i : Nat} (hl : o.length < ts.length) (h : nxt ts o = some i) : serF ts (ts.length - o.length) o = serF ts (ts.length - (o ++ [i]).length) (o ++ [i]) := by
 obtain ⟨f, hf⟩ : ∃ f, ts.length - o.length = f + 1 := ⟨ts.length - o.length - 1, by omega⟩
 rw [hf]
 have h2 : ts.length - (o ++ [i]).length = f := by simp; omega
 rw [h2]
 show (match nxt ts o with | none => none | some i => serF ts f (o ++ [i])) = _
 rw [h]
theorem ser_stop {ts : List Tx} {o : List Nat} (hl : o.length < ts.length) (h : nxt ts o = none) : serF ts (ts.length - o.length) o = none := by
 obtain ⟨f, hf⟩ : ∃ f, ts.length - o.length = f + 1 := ⟨ts.length - o.length - 1, by omega⟩
 rw [hf]
 show (match nxt ts o with | none => none | some i => serF ts f (o ++ [i])) = _
 rw [h]
theorem ser_end {ts : List Tx} {o : List Nat} (hl : o.length = ts.length) : serF ts (ts.length - o.length) o = some o := by
 rw [hl, Nat.sub_self]; rfl
def cnt (ts : List Tx) (o : List Nat) (j : Nat) : Int := if o.contains j then -1 else ((waits ts o j).length : Int)
def cnts (ts : List Tx) (o : List Nat) : List Int := (List.range ts.length).map (cnt ts o)
theorem cnts_len (ts : List Tx) (o : List Nat) : (cnts ts o).length = ts.length := by simp [cnts]
theorem cnts_at (ts : List Tx) (o : List Nat) (j : Nat) (h : j < ts.length) : (cnts ts o)[j]'(by rw [cnts_len]; exact h) = cnt ts o j := by simp [cnts]
theorem cnt_zero (ts : List Tx) (o : List Nat) (j : Nat) : freeB ts o j = decide (cnt ts o j = 0) := by
 rw [free_waits]
 unfold cnt
 cases h : o.contains j
 ·simp
 ·simp
theorem waits_le (ts : List Tx) (o : List Nat) (j : Nat) : (waits ts o j).length ≤ ts.length := by
 unfold waits
 exact Nat.le_trans (List.length_filter_le _ _) (by simp)
theorem cnt_bd (ts : List Tx) (o : List Nat) (j : Nat) : -1 ≤ cnt ts o j ∧ cnt ts o j ≤ (ts.length : Int) := by
 have := waits_le ts o j
 unfold cnt
 split <;> omega
def addL (t : Tx) (by' : Int) (ts : List Tx) (xs : List Int) : List Int := (List.range xs.length).map fun j => (xs[j]?.getD 0) + (match ts[j]? with | some b => if befB t b then by' else 0 | none => 0)
theorem addL_len (t : Tx) (by' : Int) (ts : List Tx) (xs : List Int) : (addL t by' ts xs).length = xs.length := by simp [addL]
theorem filter_one {p q : Nat → Bool} {i : Nat} : ∀ (l : List Nat), l.Nodup → i ∈ l → p i = true → q i = false → (∀ k ∈ l, k ≠ i → q k = p k) → (l.filter p).length = (l.filter q).length + 1
 | [], _, h, _, _, _ => by cases h
 | x :: l, hnd, hm, hp, hq, he => by
  rw [List.nodup_cons] at hnd
  by_cases hx : x = i
  ·subst hx
   rw [List.filter_cons_of_pos hp, List.filter_cons_of_neg (by simp [hq])]
   have : l.filter p = l.filter q := List.filter_congr (fun k hk => ((he k (List.mem_cons_of_mem _ hk)) (fun e => hnd.1 (e ▸ hk))).symm)
   simp [this]
  ·have hm' : i ∈ l := by
    rcases List.mem_cons.1 hm with h | h
    ·exact absurd h.symm hx
    ·exact h
   have ih := filter_one l hnd.2 hm' hp hq (fun k hk hne => he k (List.mem_cons_of_mem _ hk) hne)
   have hxx := he x (List.mem_cons_self ..) hx
   cases hpx : p x
   ·rw [List.filter_cons_of_neg (by simp [hpx]), List.filter_cons_of_neg (by rw [hxx]; simp [hpx])]; exact ih
   ·rw [List.filter_cons_of_pos hpx, List.filter_cons_of_pos (by rw [hxx]; exact hpx)]; simp [ih]
theorem waits_yes {ts : List Tx} {o : List Nat} {i j : Nat} (hi : i < ts.length) (hn : i ∉ o) (hb : bef ts i j = true) : (waits ts o j).length = (waits ts (o ++ [i]) j).length + 1 := by
 unfold waits
 refine filter_one (i := i) _ List.nodup_range (List.mem_range.2 hi) ?_ ?_ ?_
 ·simp [hn, hb]
 ·simp
 ·intro k _ hk; simp [hk]
theorem waits_no {ts : List Tx} {o : List Nat} {i j : Nat} (hb : bef ts i j = false) : waits ts (o ++ [i]) j = waits ts o j := by
 unfold waits
 apply List.filter_congr
 intro k _
 by_cases hk : k = i
 ·subst hk; simp [hb]
 ·simp [hk]
theorem cnts_next {ts : List Tx} {o : List Nat} {i : Nat} (h : Ordd ts o) (hi : i < ts.length) (hf : freeB ts o i = true) : addL ts[i] (-1) ts ((cnts ts o).set i (-1)) = cnts ts (o ++ [i]) := by
 obtain ⟨h1, h2⟩ := (free_iff ts o i).1 hf
 apply List.ext_getElem
 ·rw [addL_len, List.length_set, cnts_len, cnts_len]
 ·intro j hj1 hj2
  have hj : j < ts.length := by rw [cnts_len] at hj2; exact hj2
  rw [cnts_at _ _ j hj]
  simp only [addL, List.getElem_map, List.getElem_range]
  rw [List.getElem?_eq_getElem hj, List.getElem?_eq_getElem (by rw [List.length_set, cnts_len]; exact hj)]
  simp only [Option.getD_some]
  rw [← bef_at ts i j hi hj, List.getElem_set]
  by_cases hij : i = j
  ·subst hij
   rw [bef_self]
   simp [cnt]
  ·rw [if_neg hij, cnts_at _ _ j hj]
   unfold cnt
   have hji : ¬ j = i := fun e => hij e.symm
   by_cases hjo : j ∈ o
   ·have hbf := h.no j hjo i hi h1
    simp [hjo, hbf]
   ·have hc : o.contains j = false := by simpa using hjo
    have hc2 : (o ++ [i]).contains j = false := by simp [hjo, hji]
    rw [hc, hc2]
    cases hb : bef ts i j
    ·rw [waits_no hb]; simp
    ·rw [waits_yes hi h1 hb]; simp; omega
def cntK (ts : List Tx) (k j : Nat) : Int := (((List.range k).filter fun i => bef ts i j).length : Int)
def cntsK (ts : List Tx) (k : Nat) : List Int := (List.range ts.length).map (cntK ts k)
theorem cntsK_len (ts : List Tx) (k : Nat) : (cntsK ts k).length = ts.length := by simp [cntsK]
theorem cntsK_zero (ts : List Tx) : cntsK ts 0 = List.replicate ts.length 0 := by
 apply List.ext_getElem
 ·simp [cntsK]
 ·intro j h1 h2; simp [cntsK, cntK]
theorem cntsK_all (ts : List Tx) : cntsK ts ts.length = cnts ts [] := by
 unfold cntsK cnts
 apply List.map_congr_left
 intro j _
 simp [cntK, cnt, waits]
theorem cntsK_next (ts : List Tx) (k : Nat) (hk : k < ts.length) : addL ts[k] 1 ts (cntsK ts k) = cntsK ts (k + 1) := by
 apply List.ext_getElem
 ·rw [addL_len, cntsK_len, cntsK_len]
 ·intro j hj1 hj2
  have hj : j < ts.length := by rw [cntsK_len] at hj2; exact hj2
  simp only [addL, cntsK, List.getElem_map, List.getElem_range]
  rw [List.getElem?_eq_getElem hj, List.getElem?_eq_getElem (by simpa using hj)]
  simp only [Option.getD_some, List.getElem_map, List.getElem_range]
  rw [← bef_at ts k j hk hj]
  unfold cntK
  rw [List.range_succ, List.filter_append]
  cases hb : bef ts k j <;> simp [hb]
theorem cntsK_bd (ts : List Tx) (k : Nat) (hk : k ≤ ts.length) : ∀ x ∈ cntsK ts k, -2000000 ≤ x ∧ x ≤ (ts.length : Int) := by
 intro x hx
 obtain ⟨j, _, rfl⟩ := List.mem_map.1 hx
 unfold cntK
 have h := List.length_filter_le (fun i => bef ts i j) (List.range k)
 simp only [List.length_range] at h
 omega
theorem cnts_bd (ts : List Tx) (o : List Nat) (i : Nat) : ∀ x ∈ (cnts ts o).set i (-1), -2000000 ≤ x ∧ x ≤ (ts.length : Int) := by
 intro x hx
 rcases List.mem_or_eq_of_mem_set hx with h | rfl
 ·obtain ⟨j, _, rfl⟩ := List.mem_map.1 h
  have := cnt_bd ts o j
  omega
 ·omega
end Go.Proofs.YtbajpnbodhhmjaaGreat

namespace Go.Proofs.YtbajpnbodhhmjaaGreat
open Go.RowKit
open KM
attribute [local go_sem ↓] Go.wp_at_zero Go.wp_at_succ

structure Ta where
 t : Tx
 ra : Option Addr
 rc : Nat
 wa : Option Addr
 wc : Nat
def encT : Enc Ta := ⟨fun x => [.int .i64 x.t.id, .int .i64 x.t.st, .int .i64 x.t.snap, .int .i64 x.t.cs, .slice x.ra x.t.rs.length x.rc, .slice x.wa x.t.ws.length x.wc, .bool x.t.out, .string x.t.nm], 8, by decide, fun _ => rfl⟩
theorem Tryz.info30 : (Tryz.prog.info? 30).map (fun i => (i.zero, i.size, i.bytes)) = some (some (.agg #[.int .i64 0, .int .i64 0, .int .i64 0, .int .i64 0, .slice none 0 0, .slice none 0 0, .bool false, .string ByteArray.empty]), 8, 104) := by kernel_rfl
structure Cls (w : World) (b o : Nat) (x : Ta) : Prop where
 c0 : w.cell? ⟨b, o, none⟩ = some (.int .i64 x.t.id)
 c1 : w.cell? ⟨b, o + 1, none⟩ = some (.int .i64 x.t.st)
 c2 : w.cell? ⟨b, o + 2, none⟩ = some (.int .i64 x.t.snap)
 c3 : w.cell? ⟨b, o + 3, none⟩ = some (.int .i64 x.t.cs)
 c4 : w.cell? ⟨b, o + 4, none⟩ = some (.slice x.ra x.t.rs.length x.rc)
 c5 : w.cell? ⟨b, o + 5, none⟩ = some (.slice x.wa x.t.ws.length x.wc)
 c6 : w.cell? ⟨b, o + 6, none⟩ = some (.bool x.t.out)
 c7 : w.cell? ⟨b, o + 7, none⟩ = some (.string x.t.nm)
theorem tat {w : World} {b off : Nat} {xs : List Ta} (hc : ∀ j (hj : j < xs.length) i, i < encT.size → w.cell? ⟨b, off + j * encT.size + i, none⟩ = (encT.enc xs[j])[i]?) (j : Nat) (hj : j < xs.length) : Cls w b (off + j * 8) xs[j] :=
 ⟨by simpa [encT] using hc j hj 0 (by decide), by simpa [encT] using hc j hj 1 (by decide), by simpa [encT] using hc j hj 2 (by decide), by simpa [encT] using hc j hj 3 (by decide), by simpa [encT] using hc j hj 4 (by decide), by simpa [encT] using hc j hj 5 (by decide), by simpa [encT] using hc j hj 6 (by decide), by simpa [encT] using hc j hj 7 (by decide)⟩
structure TRows (w : World) (a : Option Addr) (xs : List Ta) : Prop where
 row : GRow encT w a xs
 each : ∀ x ∈ xs, TRow w x.t x.ra x.wa
theorem TRows.below {w w' : World} {a : Option Addr} {xs : List Ta} (h : TRows w a xs) (hb : Below w.heap.size w w') : TRows w' a xs := ⟨h.row.below hb, fun x hx => (h.each x hx).below hb⟩
theorem TRows.cls {w : World} {a : Option Addr} {xs : List Ta} (h : TRows w a xs) (k : Nat) (hk : k < xs.length) : ∃ b off, a = some ⟨b, off, none⟩ ∧ b < w.heap.size ∧ Cls w b (off + k * 8) xs[k] ∧ TRow w xs[k].t xs[k].ra xs[k].wa := by
 obtain ⟨b, off, rfl, hbl, hc⟩ := h.row (by omega)
 exact ⟨b, off, rfl, hbl, tat hc k hk, h.each _ (List.getElem_mem hk)⟩
structure LArg (w : World) (a : Option Addr) (xs : List Ta) : Prop where
 len : xs.length ≤ maxLen
 each : ∀ x ∈ xs, TArg w x.t x.ra x.wa
 row : GRow encT w a xs
theorem LArg.rows {w : World} {a : Option Addr} {xs : List Ta} (h : LArg w a xs) : TRows w a xs := ⟨h.row, fun x hx => (h.each x hx).row⟩
theorem TArg.below {w w' : World} {t : Tx} {ra wa : Option Addr} (h : TArg w t ra wa) (hb : Below w.heap.size w w') : TArg w' t ra wa := ⟨h.rl, h.rf, h.wl, h.wf, h.nm, h.row.below hb⟩
theorem LArg.below {w w' : World} {a : Option Addr} {xs : List Ta} (h : LArg w a xs) (hb : Below w.heap.size w w') : LArg w' a xs := ⟨h.len, fun x hx => (h.each x hx).below hb, h.row.below hb⟩
def LFit (ts : List Tx) : Prop := ts.length ≤ 1048576 ∧ ∀ t ∈ ts, TFit t
def txs (xs : List Ta) : List Tx := xs.map (·.t)
theorem txs_len (xs : List Ta) : (txs xs).length = xs.length := by simp [txs]

end Go.Proofs.YtbajpnbodhhmjaaGreat

namespace Go.Proofs.YtbajpnbodhhmjaaGreat
open Go.RowKit
open KM
attribute [local go_sem ↓] Go.wp_at_zero Go.wp_at_succ

end Go.Proofs.YtbajpnbodhhmjaaGreat

namespace Go.Proofs.YtbajpnbodhhmjaaGreat
open Go.RowKit
open KM
attribute [local go_sem ↓] Go.wp_at_zero Go.wp_at_succ

theorem own_int {W : World} {base g cap n : Nat} {l : List Int} (h : GOwn encI 3 W base (.slice (some ⟨g, 0, none⟩) n cap) l) (hn : n = l.length) (i : Nat) (x : Int) :
  GOwn encI 3 (W.setCell ⟨g, i, none⟩ (.int .i64 x)) base (.slice (some ⟨g, 0, none⟩) n cap) (l.set i x) := by
 have hc : encI.cells (l.set i x) = (encI.cells l).set i (.int .i64 x) := by
  have e : ∀ ys : List Int, encI.cells ys = ys.map (fun y => Value.int .i64 y) := fun ys => by
   induction ys with
   | nil => rfl
   | cons y ys ih =>
    simp [Enc.cells, encI] at ih ⊢
    exact ih
  rw [e, e, List.map_set]
 subst hn
 unfold GOwn
 rw [hc, List.length_set]
 exact (World.ownsRow.stored h i _).1
def addK (t : Tx) (by' : Int) (ts : List Tx) (xs : List Int) (k : Nat) : List Int := (addL t by' ts xs).take k ++ xs.drop k
theorem addK_len (t : Tx) (by' : Int) (ts : List Tx) (xs : List Int) (k : Nat) (hk : k ≤ xs.length) : (addK t by' ts xs k).length = xs.length := by
 unfold addK
 rw [List.length_append, List.length_take, List.length_drop, addL_len]
 omega
theorem addK_zero (t : Tx) (by' : Int) (ts : List Tx) (xs : List Int) : addK t by' ts xs 0 = xs := by simp [addK]
theorem addK_all (t : Tx) (by' : Int) (ts : List Tx) (xs : List Int) : addK t by' ts xs xs.length = addL t by' ts xs := by
 unfold addK
 rw [List.drop_length, List.append_nil, List.take_of_length_le (by rw [addL_len]; exact Nat.le_refl _)]
theorem addK_at (t : Tx) (by' : Int) (ts : List Tx) (xs : List Int) (k : Nat) (hk : k < xs.length) : (addK t by' ts xs k)[k]'(by rw [addK_len _ _ _ _ _ (Nat.le_of_lt hk)]; exact hk) = xs[k] := by
 unfold addK
 rw [List.getElem_append_right (by rw [List.length_take, addL_len]; omega)]
 simp only [List.length_take, addL_len, List.getElem_drop]
 congr 1
 omega
theorem addL_at (t : Tx) (by' : Int) (ts : List Tx) (xs : List Int) (k : Nat) (hk : k < xs.length) (hts : k < ts.length) : (addL t by' ts xs)[k]'(by rw [addL_len]; exact hk) = xs[k] + if befB t ts[k] then by' else 0 := by
 unfold addL
 simp only [List.getElem_map, List.getElem_range]
 rw [List.getElem?_eq_getElem hk, List.getElem?_eq_getElem hts]
 rfl
theorem addK_get (t : Tx) (by' : Int) (ts : List Tx) (xs : List Int) (k : Nat) (hk : k ≤ xs.length) (j : Nat) : (addK t by' ts xs k)[j]? = if j < k then (addL t by' ts xs)[j]? else xs[j]? := by
 unfold addK
 rw [List.getElem?_append, List.length_take, addL_len, Nat.min_eq_left hk]
 by_cases h : j < k
 ·rw [if_pos h, if_pos h, List.getElem?_take, if_pos h]
 ·rw [if_neg h, if_neg h, List.getElem?_drop]
  congr 1
  omega
theorem addK_next (t : Tx) (by' : Int) (ts : List Tx) (xs : List Int) (k : Nat) (hk : k < xs.length) : addK t by' ts xs (k + 1) = (addK t by' ts xs k).set k ((addL t by' ts xs)[k]'(by rw [addL_len]; exact hk)) := by
 apply List.ext_getElem?
 intro j
 rw [addK_get _ _ _ _ _ hk, List.getElem?_set, addK_get _ _ _ _ _ (Nat.le_of_lt hk), addK_len _ _ _ _ _ (Nat.le_of_lt hk)]
 by_cases hkj : k = j
 ·subst hkj
  rw [if_pos (Nat.lt_succ_self _), if_pos rfl, if_pos hk]
  exact List.getElem?_eq_getElem _
 ·rw [if_neg hkj]
  by_cases hlt : j < k
  ·rw [if_pos hlt, if_pos (by omega)]
  ·rw [if_neg hlt, if_neg (by omega)]
theorem addK_no (t : Tx) (by' : Int) (ts : List Tx) (xs : List Int) (k : Nat) (hk : k < xs.length) (hts : k < ts.length) (hb : befB t ts[k] = false) : addK t by' ts xs (k + 1) = addK t by' ts xs k := by
 rw [addK_next _ _ _ _ _ hk, addL_at _ _ _ _ _ hk hts, hb]
 have := addK_at t by' ts xs k hk
 simp only [Bool.false_eq_true, if_false, Int.add_zero]
 rw [← this]
 exact List.set_getElem_self _
theorem addK_yes (t : Tx) (by' : Int) (ts : List Tx) (xs : List Int) (k : Nat) (hk : k < xs.length) (hts : k < ts.length) (hb : befB t ts[k] = true) : addK t by' ts xs (k + 1) = (addK t by' ts xs k).set k (xs[k] + by') := by
 rw [addK_next _ _ _ _ _ hk, addL_at _ _ _ _ _ hk hts, hb, if_pos rfl]

theorem own_fz {W : World} {base g cap n : Nat} {l : List Int} (h : GOwn encI 3 W base (.slice (some ⟨g, 0, none⟩) n cap) l) (hn : n = l.length) (k : Nat) : W.frozen? ⟨g, k, none⟩ = false := by
 subst hn
 exact World.ownsRow.frozenAt h k
theorem own_at {W : World} {base g cap n : Nat} {l : List Int} (h : GOwn encI 3 W base (.slice (some ⟨g, 0, none⟩) n cap) l) (hn : n = l.length) (k : Nat) (hk : k < l.length) : W.cell? ⟨g, k, none⟩ = some (.int .i64 l[k]) := by
 subst hn
 obtain ⟨b, o, hbo, _, hc⟩ := h.grow (by omega)
 cases hbo
 have := iat hc k hk
 simpa using this

set_option maxRecDepth 100000 in
set_option maxHeartbeats 4000000 in
theorem icbeh (ys : List Ta) (a : Option Addr) (c : Nat) (t : Tx) (ra wa : Option Addr) (rc wc : Nat) (z : Int) (hz : z = 1 ∨ z = -1) (xs : List Int) (n : Nat) (hnx : n = xs.length) (hny : n = ys.length) (hbd : ∀ x ∈ xs, -2000000 ≤ x ∧ x ≤ 2000000) (hn : n ≤ 1048576) (hf : LFit (txs ys)) (ht : TFit t) (g cap : Nat) (w0 w : World) (hB : Below w0.heap.size w0 w) (hl : TRows w0 a ys) (hr : TRow w0 t ra wa) (ho : GOwn encI 3 w w0.heap.size (.slice (some ⟨g, 0, none⟩) n cap) xs) :
  Calls Tryz.prog 64 #[.slice (some ⟨g, 0, none⟩) n cap, .slice a n c, .agg #[.int .i64 t.id, .int .i64 t.st, .int .i64 t.snap, .int .i64 t.cs, .slice ra t.rs.length rc, .slice wa t.ws.length wc, .bool t.out, .string t.nm], .int .i64 z] w fun e w' => e = .returned (.tuple #[]) ∧ GOwn encI 3 w' w0.heap.size (.slice (some ⟨g, 0, none⟩) n cap) (addL t z (txs ys) xs) ∧ w.grownBy w' (some g) ∧ Below w0.heap.size w0 w' := by
 have HL : Hid (TRows w0 a ys) := hl
 have HR : Hid (TRow w0 t ra wa) := hr
 have HF : Hid (LFit (txs ys)) := hf
 have HT : Hid (TFit t) := ht
 have HO : Hid (GOwn encI 3 w w0.heap.size (.slice (some ⟨g, 0, none⟩) n cap) xs) := ho
 have HB : Hid (Below w0.heap.size w0 w) := hB
 have HNX : Hid (n = xs.length) := hnx
 have HNY : Hid (n = ys.length) := hny
 have HBD : Hid (∀ x ∈ xs, -2000000 ≤ x ∧ x ≤ 2000000) := hbd
 have HZ : Hid (z = 1 ∨ z = -1) := hz
 have hgl : g < w.heap.size := (World.ownsRow.lt ho g rfl).2
 have hgb : w0.heap.size ≤ g := (World.ownsRow.lt ho g rfl).1
 have HGB : Hid (∀ w', w.grownBy w' (some g) → Below w0.heap.size w0 w') := fun w' h => hB.trans (grown_base h hgb hgl)
 have hne : g ≠ w.heap.size := Nat.ne_of_lt hgl
 have HNE : Hid (g ≠ w.heap.size) := hne
 clear hl hr hf ht ho hB hnx hny hbd hz hgl hgb hne
 go_enter Tryz.func64, Tryz.ntmps64
 go_wp2
 go_loopw [12] (fun s wr => ∃ k : Nat, k ≤ n ∧ s = .int .i64 k ∧ Hid (GOwn encI 3 wr w0.heap.size (.slice (some ⟨g, 0, none⟩) n cap) (addK t z (txs ys) xs k)) ∧ Hid (w.grownBy wr (some g)) ∧ Hid (Bx wr w.heap.size [.int .i64 t.id, .int .i64 t.st, .int .i64 t.snap, .int .i64 t.cs, .slice ra t.rs.length rc, .slice wa t.ws.length wc, .bool t.out, .string t.nm])) (fun s _ => n - (intOf s).toNat)
 case atStart => exact ⟨0, Nat.zero_le _, rfl, by rw [addK_zero]; exact HO.out.alloc _, grown_below _ ((belowRefl w).alloc (Nat.le_refl _) _), Bx.new w [.int .i64 t.id, .int .i64 t.st, .int .i64 t.snap, .int .i64 t.cs, .slice ra t.rs.length rc, .slice wa t.ws.length wc, .bool t.out, .string t.nm] 30⟩
 case round =>
  obtain ⟨k, hk, rfl, HOk, HG, BT⟩ := hrel
  by_cases hlt : k < n
  ·have hlt' : (k : Int) < (n : Int) := by omega
   have h0 : (0 : Int) ≤ (k : Int) := by omega
   have hky : k < ys.length := by rw [← HNY.out]; exact hlt
   have hkx : k < xs.length := by rw [← HNX.out]; exact hlt
   have HBr : Hid (Below w0.heap.size w0 wr) := HGB.out wr HG.out
   obtain ⟨b, o, rfl, hbl, hc, hrow⟩ := (HL.out.below HBr.out).cls k hky
   have hfx : TFit ys[k].t := HF.out.2 _ (List.mem_map.2 ⟨_, List.getElem_mem hky, rfl⟩)
   obtain ⟨x, hx⟩ : ∃ x, x = ys[k] := ⟨_, rfl⟩
   rw [← hx] at hc hfx hrow
   have hkt : k < (txs ys).length := by rw [txs_len]; exact hky
   have HXT : Hid ((txs ys)[k] = x.t) := by show _ = _; rw [hx]; simp [txs]
   clear hx
   have r0 := hc.c0
   have r1 := hc.c1
   have r2 := hc.c2
   have r3 := hc.c3
   have r4 := hc.c4
   have r5 := hc.c5
   have r6 := hc.c6
   have r7 := hc.c7
   clear hc
   have HB1 : Hid (Below wr.heap.size wr (wr.alloc (.cells #[.int .i64 x.t.id, .int .i64 x.t.st, .int .i64 x.t.snap, .int .i64 x.t.cs, .slice x.ra x.t.rs.length x.rc, .slice x.wa x.t.ws.length x.wc, .bool x.t.out, .string x.t.nm] 30))) := (belowRefl wr).alloc (Nat.le_refl _) _
   have BX1 : Hid (Bx (wr.alloc (.cells #[.int .i64 x.t.id, .int .i64 x.t.st, .int .i64 x.t.snap, .int .i64 x.t.cs, .slice x.ra x.t.rs.length x.rc, .slice x.wa x.t.ws.length x.wc, .bool x.t.out, .string x.t.nm] 30)) wr.heap.size [.int .i64 x.t.id, .int .i64 x.t.st, .int .i64 x.t.snap, .int .i64 x.t.cs, .slice x.ra x.t.rs.length x.rc, .slice x.wa x.t.ws.length x.wc, .bool x.t.out, .string x.t.nm]) := Bx.new wr [.int .i64 x.t.id, .int .i64 x.t.st, .int .i64 x.t.snap, .int .i64 x.t.cs, .slice x.ra x.t.rs.length x.rc, .slice x.wa x.t.ws.length x.wc, .bool x.t.out, .string x.t.nm] 30
   have BT1 : Hid (Bx (wr.alloc (.cells #[.int .i64 x.t.id, .int .i64 x.t.st, .int .i64 x.t.snap, .int .i64 x.t.cs, .slice x.ra x.t.rs.length x.rc, .slice x.wa x.t.ws.length x.wc, .bool x.t.out, .string x.t.nm] 30)) w.heap.size [.int .i64 t.id, .int .i64 t.st, .int .i64 t.snap, .int .i64 t.cs, .slice ra t.rs.length rc, .slice wa t.ws.length wc, .bool t.out, .string t.nm]) := BT.out.alloc _
   have HR1 : Hid (TRow (wr.alloc (.cells #[.int .i64 x.t.id, .int .i64 x.t.st, .int .i64 x.t.snap, .int .i64 x.t.cs, .slice x.ra x.t.rs.length x.rc, .slice x.wa x.t.ws.length x.wc, .bool x.t.out, .string x.t.nm] 30)) t ra wa) := (HR.out.below HBr.out).below HB1.out
   have HC := hide (ibefore t x.t ra wa rc wc x.ra x.wa x.rc x.wc HT.out.1 HT.out.2.2.1 hfx.1 hfx.2.2.1 HT.out.2.2.2.1 hfx.2.2.2.1 (wr.alloc (.cells #[.int .i64 x.t.id, .int .i64 x.t.st, .int .i64 x.t.snap, .int .i64 x.t.cs, .slice x.ra x.t.rs.length x.rc, .slice x.wa x.t.ws.length x.wc, .bool x.t.out, .string x.t.nm] 30)) HR1.out.r HR1.out.w (hrow.below HB1.out).r (hrow.below HB1.out).w)
   clear hrow hfx HR1
   go_upto_region 4 with fail
   clear r0 r1 r2 r3 r4 r5 r6 r7
   generalize (wr.alloc (.cells #[.int .i64 x.t.id, .int .i64 x.t.st, .int .i64 x.t.snap, .int .i64 x.t.cs, .slice x.ra x.t.rs.length x.rc, .slice x.wa x.t.ws.length x.wc, .bool x.t.out, .string x.t.nm] 30)) = w1 at *
   have x0 := BX1.out.c0
   have x1 := BX1.out.c1
   have x2 := BX1.out.c2
   have x3 := BX1.out.c3
   have x4 := BX1.out.c4
   have x5 := BX1.out.c5
   have x6 := BX1.out.c6
   have x7 := BX1.out.c7
   have y0 := BT1.out.c0
   have y1 := BT1.out.c1
   have y2 := BT1.out.c2
   have y3 := BT1.out.c3
   have y4 := BT1.out.c4
   have y5 := BT1.out.c5
   have y6 := BT1.out.c6
   have y7 := BT1.out.c7
   cases hbf : befB t x.t
   ·rw [hbf] at HC
    have HN : Hid (addK t z (txs ys) xs (k + 1) = addK t z (txs ys) xs k) := addK_no _ _ _ _ _ hkx hkt (by rw [HXT.out]; exact hbf)
    clear hbf
    go_wp2_with fail
    refine HC.out.mono ?_
    rintro e w2 ⟨rfl, hb2⟩
    have HB2 : Hid (Below wr.heap.size wr w2) := HB1.out.trans (hb2.mono HB1.out.size)
    have BT2 : Hid (Bx w2 w.heap.size [.int .i64 t.id, .int .i64 t.st, .int .i64 t.snap, .int .i64 t.cs, .slice ra t.rs.length rc, .slice wa t.ws.length wc, .bool t.out, .string t.nm]) := BT1.out.below hb2
    have HO2 : Hid (GOwn encI 3 w2 w0.heap.size (.slice (some ⟨g, 0, none⟩) n cap) (addK t z (txs ys) xs (k + 1))) := by show GOwn _ _ _ _ _ _; rw [HN.out]; exact HOk.out.below HB2.out
    have HG2 : Hid (w.grownBy w2 (some g)) := grown_trans HG.out (grown_below _ HB2.out)
    clear hb2 x0 x1 x2 x3 x4 x5 x6 x7 y0 y1 y2 y3 y4 y5 y6 y7 HN HOk HG BT
    go_wp2
    go_roundw
    case rel => exact ⟨k + 1, by omega, by go_num, HO2, HG2, BT2⟩
    case measure => simp [intOf]; omega
   ·rw [hbf] at HC
    have HN : Hid (addK t z (txs ys) xs (k + 1) = (addK t z (txs ys) xs k).set k (xs[k] + z)) := addK_yes _ _ _ _ _ hkx hkt (by rw [HXT.out]; exact hbf)
    clear hbf
    go_wp2_with fail
    refine HC.out.mono ?_
    rintro e w2 ⟨rfl, hb2⟩
    have HB2 : Hid (Below wr.heap.size wr w2) := HB1.out.trans (hb2.mono HB1.out.size)
    have BT2 : Hid (Bx w2 w.heap.size [.int .i64 t.id, .int .i64 t.st, .int .i64 t.snap, .int .i64 t.cs, .slice ra t.rs.length rc, .slice wa t.ws.length wc, .bool t.out, .string t.nm]) := BT1.out.below hb2
    have HO2 : Hid (GOwn encI 3 w2 w0.heap.size (.slice (some ⟨g, 0, none⟩) n cap) (addK t z (txs ys) xs k)) := HOk.out.below HB2.out
    have HG2 : Hid (w.grownBy w2 (some g)) := grown_trans HG.out (grown_below _ HB2.out)
    have hkl : k < (addK t z (txs ys) xs k).length := by rw [addK_len _ _ _ _ _ (Nat.le_of_lt hkx)]; exact hkx
    have hln : n = (addK t z (txs ys) xs k).length := by rw [addK_len _ _ _ _ _ (Nat.le_of_lt hkx)]; exact HNX.out
    have q0 := own_at HO2.out hln k hkl
    rw [addK_at _ _ _ _ _ hkx] at q0
    have hvb := HBD.out xs[k] (List.getElem_mem hkx)
    have hz2 := HZ.out
    obtain ⟨v, hv⟩ : ∃ v, v = xs[k] := ⟨_, rfl⟩
    rw [← hv] at q0 hvb HN
    obtain ⟨u, hu⟩ : ∃ u, u = v + z := ⟨_, rfl⟩
    rw [← hu] at HN
    have e1 : IntKind.i64.wrap (v + z) = u := by rw [hu]; rw [IntKind.wrap_i64]; omega
    have e2 : v + z = u := hu.symm
    have e3 : wrap64 u = u := by unfold wrap64; omega
    have f0 : w2.frozen? ⟨g, k, none⟩ = false := own_fz HO2.out hln k
    have HO3 : Hid (GOwn encI 3 (w2.setCell ⟨g, k, none⟩ (.int .i64 u)) w0.heap.size (.slice (some ⟨g, 0, none⟩) n cap) (addK t z (txs ys) xs (k + 1))) := by show GOwn _ _ _ _ _ _; rw [HN.out]; exact own_int HO2.out hln k u
    have HG3 : Hid (w.grownBy (w2.setCell ⟨g, k, none⟩ (.int .i64 u)) (some g)) := grown_trans HG2.out (grown_set _ _ _ _)
    have BT3 : Hid (Bx (w2.setCell ⟨g, k, none⟩ (.int .i64 u)) w.heap.size [.int .i64 t.id, .int .i64 t.st, .int .i64 t.snap, .int .i64 t.cs, .slice ra t.rs.length rc, .slice wa t.ws.length wc, .bool t.out, .string t.nm]) := BT2.out.setO HNE.out _
    clear hb2 x0 x1 x2 x3 x4 x5 x6 x7 y0 y1 y2 y3 y4 y5 y6 y7 HN HOk HG BT hu hv hvb hz2 hkl hln HO2 HG2 BT2
    go_wp2
    go_roundw
    case rel => exact ⟨k + 1, by omega, by go_num, HO3, HG3, BT3⟩
    case measure => simp [intOf]; omega
  ·have hd : ¬ (k : Int) < (n : Int) := by omega
   have HE : Hid (addK t z (txs ys) xs k = addL t z (txs ys) xs) := by
    show _ = _
    have : k = xs.length := by rw [← HNX.out]; omega
    rw [this, addK_all]
   have HO2 : Hid (GOwn encI 3 wr w0.heap.size (.slice (some ⟨g, 0, none⟩) n cap) (addL t z (txs ys) xs)) := by show GOwn _ _ _ _ _ _; rw [← HE.out]; exact HOk.out
   clear HE HOk
   go_wp2
   go_end0
   exact ⟨rfl, HO2.out, HG.out, HGB.out wr HG.out⟩
end Go.Proofs.YtbajpnbodhhmjaaGreat

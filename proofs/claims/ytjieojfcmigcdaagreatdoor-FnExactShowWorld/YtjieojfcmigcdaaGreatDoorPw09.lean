/- Keys in order, each once; what a scan tells: no Go. -/
import Derived.Test.YtjieojfcmigcdaaGreatDoorPw08
import Derived.Lib.SlicesCompact
import Derived.Sort.Walk0
import Derived.Test.YtjieojfcmigcdaaGreatDoorPw05
import Derived.Test.YtjieojfcmigcdaaGreatDoorPw01
import Derived.Deep.AppendLies
import Derived.Test.YtjieojfcmigcdaaGreatDoorPw02
import Derived.Sort.OwnSorted
import Derived.Lib.RowBridge
import Derived.Test.YtjieojfcmigcdaaGreatDoorPw03
import Derived.Test.YtjieojfcmigcdaaGreatDoorProg
import Derived.WalkKit
import Derived.WalkSpells
import Derived.WalkLawsBesides
import Derived.Deep.QuietTactic
import Derived.BigQuiet
import Derived.Deep.RegionHeld3
import Derived.Deep.DrawnRows
namespace Go.Proofs.YtjieojfcmigcdaaGreatDoor
namespace VM
open KM
section
variable {α : Type} [Inhabited α] [DecidableEq α]
theorem comp_upto (le : α → α → Bool) (anti : ∀ a b, le a b = true → le b a = true → a = b) (d : Array α) (hs : ∀ i j, i ≤ j → j < d.size → le d[i]! d[j]! = true) :
  ∀ m, m ≤ d.size → (∀ x, x ∈ Lib.compactUpTo d m ↔ ∃ j, j < m ∧ d[j]! = x) ∧ (Lib.compactUpTo d m).Pairwise (fun a b => le a b = true ∧ a ≠ b)
 | 0, _ => by
  refine ⟨fun x => ⟨fun h => by simp [Lib.compactUpTo] at h, fun ⟨j, hj, _⟩ => by omega⟩, by simp [Lib.compactUpTo]⟩
 | m + 1, hm => by
  obtain ⟨h1, h2⟩ := comp_upto le anti d hs m (by omega)
  rw [Lib.compactUpTo_succ]
  cases hk : Lib.keeps d m
  ·have hk' : ¬ (m = 0 ∨ d[m]! ≠ d[m - 1]!) := by simpa [Lib.keeps] using hk
   have e : d[m]! = d[m - 1]! := by
    apply Classical.byContradiction
    intro h; exact hk' (Or.inr h)
   have hm0 : m ≠ 0 := fun h => hk' (Or.inl h)
   simp only [Bool.false_eq_true, if_false, List.append_nil]
   refine ⟨fun x => ?_, h2⟩
   rw [h1 x]
   constructor
   ·rintro ⟨j, hj, rfl⟩; exact ⟨j, by omega, rfl⟩
   ·rintro ⟨j, hj, rfl⟩
    by_cases ej : j = m
    ·subst ej; exact ⟨j - 1, by omega, e.symm⟩
    ·exact ⟨j, by omega, rfl⟩
  ·have hk' : m = 0 ∨ d[m]! ≠ d[m - 1]! := by simpa [Lib.keeps] using hk
   simp only [if_true]
   refine ⟨fun x => ?_, ?_⟩
   ·rw [List.mem_append, h1 x, List.mem_singleton]
    constructor
    ·rintro (⟨j, hj, rfl⟩ | rfl)
     ·exact ⟨j, by omega, rfl⟩
     ·exact ⟨m, by omega, rfl⟩
    ·rintro ⟨j, hj, rfl⟩
     by_cases ej : j = m
     ·subst ej; exact Or.inr rfl
     ·exact Or.inl ⟨j, by omega, rfl⟩
   ·rw [List.pairwise_append]
    refine ⟨h2, by simp, fun x hx y hy => ?_⟩
    rw [List.mem_singleton.1 hy]
    obtain ⟨j, hj, rfl⟩ := (h1 x).1 hx
    refine ⟨hs j m (by omega) (by omega), fun e => ?_⟩
    rcases hk' with h0 | hne
    ·omega
    ·apply hne
     exact anti _ _ (by rw [← e]; exact hs j (m - 1) (by omega) (by omega)) (hs (m - 1) m (by omega) (by omega))
theorem comp_all (le : α → α → Bool) (refl : ∀ a, le a a = true) (anti : ∀ a b, le a b = true → le b a = true → a = b) (xs : List α) (hs : xs.Pairwise (fun a b => le a b = true)) :
  (∀ x, x ∈ Lib.compact xs ↔ x ∈ xs) ∧ (Lib.compact xs).Pairwise (fun a b => le a b = true ∧ a ≠ b) := by
 have hp := List.pairwise_iff_getElem.1 hs
 have h := comp_upto le anti xs.toArray (fun i j hij hj => by
  have hj' : j < xs.length := by simpa using hj
  by_cases e : i = j
  ·subst e; exact refl _
  ·have := hp i j (by omega) hj' (by omega)
   rw [getElem!_pos _ i (by simp; omega), getElem!_pos _ j (by simp; omega)]
   simpa using this) xs.length (by simp)
 refine ⟨fun x => ?_, h.2⟩
 show x ∈ Lib.compactUpTo xs.toArray xs.length ↔ _
 rw [h.1 x]
 constructor
 ·rintro ⟨j, hj, rfl⟩
  rw [getElem!_pos _ j (by simpa using hj)]
  simp
 ·intro hx
  obtain ⟨j, hj, rfl⟩ := List.getElem_of_mem hx
  exact ⟨j, hj, by rw [getElem!_pos _ j (by simpa using hj)]; simp⟩
theorem asc_ext {β : Type} {R : β → β → Prop} (irr : ∀ a, ¬ R a a) (tr : ∀ a b c, R a b → R b c → R a c) : ∀ l1 l2 : List β, l1.Pairwise R → l2.Pairwise R → (∀ x, x ∈ l1 ↔ x ∈ l2) → l1 = l2
 | [], [], _, _, _ => rfl
 | [], b :: _, _, _, h => by have := (h b).2 (by simp); simp at this
 | a :: _, [], _, _, h => by have := (h a).1 (by simp); simp at this
 | a :: l, b :: m, h1, h2, h => by
  rw [List.pairwise_cons] at h1 h2
  by_cases e : a = b
  ·subst e
   congr 1
   refine asc_ext irr tr l m h1.2 h2.2 (fun x => ⟨fun hx => ?_, fun hx => ?_⟩)
   ·rcases List.mem_cons.1 ((h x).1 (by simp [hx])) with rfl | hm
    ·exact absurd (h1.1 _ hx) (irr _)
    ·exact hm
   ·rcases List.mem_cons.1 ((h x).2 (by simp [hx])) with rfl | hm
    ·exact absurd (h2.1 _ hx) (irr _)
    ·exact hm
  ·exfalso
   have ha : a ∈ m := by
    rcases List.mem_cons.1 ((h a).1 (by simp)) with h' | h'
    ·exact absurd h' e
    ·exact h'
   have hb : b ∈ l := by
    rcases List.mem_cons.1 ((h b).2 (by simp)) with h' | h'
    ·exact absurd h'.symm e
    ·exact h'
   exact irr a (tr _ _ _ (h1.1 b hb) (h2.1 a ha))
end

theorem ba_eta (b : ByteArray) : (⟨b.data.toList.toArray⟩ : ByteArray) = b := by
 obtain ⟨⟨l⟩⟩ := b
 rfl
theorem lt_iff (a b : ByteArray) : lt a b = true ↔ a.data.toList < b.data.toList := by
 unfold lt
 rw [bytesLess_eq, toList_data, toList_data, decide_eq_true_eq]
theorem lt_irr (a : ByteArray) : ¬ lt a a = true := by unfold lt; rw [less_irrefl]; simp
theorem lt_tr (a b c : ByteArray) (h1 : lt a b = true) (h2 : lt b c = true) : lt a c = true := by
 rw [lt_iff] at *
 exact List.lt_trans h1 h2
theorem lt_total {a b : ByteArray} (h : a ≠ b) : lt a b = true ∨ lt b a = true := by
 cases h1 : lt a b
 ·exact Or.inr (less_total _ _ h1 (fun e => h (toList_inj e)))
 ·exact Or.inl rfl
def sortB (ks : List ByteArray) : List ByteArray := ((ks.map (·.data.toList)).mergeSort fun x y => decide (x ≤ y)).map fun l => ⟨l.toArray⟩
def compB (ks : List ByteArray) : List ByteArray := (Lib.compact (ks.map (·.data.toList))).map fun l => ⟨l.toArray⟩
def keysB (ks : List ByteArray) : List ByteArray := compB (sortB ks)
theorem map_mk (l : List (List UInt8)) : (l.map fun x => (⟨x.toArray⟩ : ByteArray)).map (·.data.toList) = l := by
 rw [List.map_map]
 conv => rhs; rw [← List.map_id l]
 rfl
theorem keys_spec (ks : List ByteArray) : (∀ x, x ∈ keysB ks ↔ x ∈ ks) ∧ (keysB ks).Pairwise (fun a b => lt a b = true) := by
 have hsorted : ((ks.map (·.data.toList)).mergeSort fun x y => decide (x ≤ y)).Pairwise (fun a b => decide (a ≤ b) = true) :=
  List.pairwise_mergeSort (fun a b c h1 h2 => by simp at *; exact List.le_trans h1 h2) (fun a b => by simp; exact List.le_total a b) _
 have h := comp_all (fun a b : List UInt8 => decide (a ≤ b)) (fun a => by simp) (fun a b h1 h2 => by simp at *; exact List.le_antisymm h1 h2) _ hsorted
 unfold keysB compB sortB
 rw [map_mk]
 refine ⟨fun x => ?_, ?_⟩
 ·rw [List.mem_map]
  constructor
  ·rintro ⟨l, hl, rfl⟩
   have := (h.1 l).1 hl
   rw [List.mem_mergeSort] at this
   obtain ⟨b, hb, rfl⟩ := List.mem_map.1 this
   rw [ba_eta]; exact hb
  ·intro hx
   refine ⟨x.data.toList, (h.1 _).2 ?_, ba_eta x⟩
   rw [List.mem_mergeSort]
   exact List.mem_map.2 ⟨x, hx, rfl⟩
 ·rw [List.pairwise_map]
  refine h.2.imp ?_
  intro a b hab
  rw [lt_iff]
  have h1 : a ≤ b := by simpa using hab.1
  show a < b
  have h3 : ((⟨a.toArray⟩ : ByteArray)) ≠ ⟨b.toArray⟩ := fun e => hab.2 (by have := congrArg (fun z : ByteArray => z.data.toList) e; simpa using this)
  rcases lt_total h3 with h4 | h4
  ·exact (lt_iff _ _).1 h4
  ·exact absurd ((lt_iff _ _).1 h4) h1
theorem keys_of {ks l : List ByteArray} (h1 : l.Pairwise (fun a b => lt a b = true)) (p : ByteArray → Bool) (h2 : ∀ x, x ∈ l ↔ x ∈ ks ∧ p x = true) : l = (keysB ks).filter p := by
 have h := keys_spec ks
 refine asc_ext lt_irr lt_tr _ _ h1 (h.2.filter _) (fun x => ?_)
 rw [h2, List.mem_filter, h.1]

def insK (l : List ByteArray) (k : ByteArray) : List ByteArray := l.filter (fun y => lt y k) ++ [k] ++ l.filter (fun y => lt k y)
theorem ins_spec {l : List ByteArray} {k : ByteArray} (h : l.Pairwise (fun a b => lt a b = true)) : (insK l k).Pairwise (fun a b => lt a b = true) ∧ ∀ x, x ∈ insK l k ↔ x = k ∨ x ∈ l := by
 unfold insK
 constructor
 ·rw [List.pairwise_append, List.pairwise_append]
  refine ⟨⟨h.filter _, by simp, fun x hx y hy => ?_⟩, h.filter _, fun x hx y hy => ?_⟩
  ·rw [List.mem_singleton.1 hy]; exact (List.mem_filter.1 hx).2
  ·have hy' := (List.mem_filter.1 hy).2
   rcases List.mem_append.1 hx with hx | hx
   ·exact lt_tr _ _ _ (List.mem_filter.1 hx).2 hy'
   ·rw [List.mem_singleton.1 hx]; exact hy'
 ·intro x
  simp only [List.mem_append, List.mem_filter, List.mem_singleton]
  constructor
  ·rintro ((⟨hx, _⟩ | rfl) | ⟨hx, _⟩)
   ·exact Or.inr hx
   ·exact Or.inl rfl
   ·exact Or.inr hx
  ·rintro (rfl | hx)
   ·exact Or.inl (Or.inr rfl)
   ·by_cases e : x = k
    ·exact Or.inl (Or.inr e)
    ·rcases lt_total e with h1 | h1
     ·exact Or.inl (Or.inl ⟨hx, h1⟩)
     ·exact Or.inr ⟨hx, h1⟩

def scanF (vs : List Vr) (r : Rg) (s : Int) (k : ByteArray) : Option Rg := if inB r k = true then (seenB vs k s).map fun v => (k, v) else none
def scanB (vs : List Vr) (r : Rg) (s : Int) : List Rg := (keysB (vs.map (·.1))).filterMap (scanF vs r s)
theorem scan_filter (vs : List Vr) (r : Rg) (s : Int) : scanB vs r s = ((keysB (vs.map (·.1))).filter (inB r)).filterMap fun k => (seenB vs k s).map fun v => (k, v) := by
 unfold scanB
 rw [List.filterMap_filter]
 rfl
end VM
end Go.Proofs.YtjieojfcmigcdaaGreatDoor

namespace Go.Proofs.YtjieojfcmigcdaaGreatDoor
open Go.RowKit
open KM
open VM Go.Sort
attribute [local go_sem ↓] Go.wp_at_zero Go.wp_at_succ

theorem stepAppP {ops : Array Oper} {o : Oper} {a : Act} {K : Act → World → Prop} {Q : Exit → Act → World → Prop} {E : Prop} (hgd : o.guard = none) (s x : Operand) (ho : o.op = .call { callee := .builtin .append, args := #[s, x], argTypes := #[64, 64] })
  {W : World} {base g : Nat} {v : Value} {xs : List Rg} (y : Rg) (hs : a.eval s = v) (hown : GOwn encR 97 W base v xs)
  (hx : a.eval x = .slice (some ⟨g, 0, none⟩) 1 1) (hblk : W.heap[g]? = some (.cells (encR.enc y).toArray 97 (0, 0))) (hlen : xs.length ≤ 100000000) (hB : base ≤ W.heap.size)
  (h : ∀ v' w', GOwn encR 97 w' base v' (xs ++ [y]) → Below base W w' → K (a.put o.dst v') w') :
  if Region.wanted o (yielded ops a.tmps) = true then Oper.wp Tryz.prog o a W K Q else E := by
 refine stepAppG 64 97 2 32 _ Tryz.underlying64 Tryz.info97 rfl (by omega) (by omega) hgd s x ho (encR.enc y) hs hown hx hblk rfl oneP (by omega) hB ?_
 intro g' cap w' h1 h2
 refine h _ w' ?_ h2
 have e : encR.cells (xs ++ [y]) = encR.cells xs ++ encR.enc y := by rw [encR.cells_app]; simp [Enc.cells]
 unfold GOwn
 rw [e, List.length_append]
 exact h1

theorem wpAppKP {ops : Array Oper} {rest : List Oper} {o : Oper} {a : Act} {Q : Exit → Act → World → Prop} (hgd : o.guard = none) (s x : Operand) (ho : o.op = .call { callee := .builtin .append, args := #[s, x], argTypes := #[64, 64] })
  {W : World} {base : Nat} {v : Value} {xs : List Rg} (y : Rg) (hs : a.eval s = v) (hown : GOwn encR 97 W base v xs)
  (hx : a.eval x = .slice (some ⟨W.heap.size, 0, none⟩) 1 1) (hlen : xs.length ≤ 100000000) (hB : base ≤ W.heap.size)
  (h : ∀ v' w', GOwn encR 97 w' base v' (xs ++ [y]) → Below base W w' → W.grownBy w' v.ownBlock → (v'.ownBlock = v.ownBlock ∨ ∃ g, v'.ownBlock = some g ∧ W.heap.size ≤ g) → wpList Tryz.prog ops Q rest (a.put o.dst v') w') :
  wpList Tryz.prog ops Q (o :: rest) a (W.alloc (.cells #[.string y.1, .string y.2] 97)) := by
 obtain ⟨i0, hi, hz0, hz1, hz2⟩ := info_parts Tryz.info97
 have hown' : (W.alloc (.cells #[.string y.1, .string y.2] 97)).ownsRow base 97 2 v xs.length (encR.cells xs) := World.ownsRow.alloc hown _
 have hal : W.grownBy (W.alloc (.cells #[.string y.1, .string y.2] 97)) v.ownBlock := ⟨rfl, rfl, rfl, by simp, fun j hj _ => by
  unfold World.alloc; simp only [Array.getElem?_push]; rw [if_neg (by omega)]⟩
 refine wpList_append_lies _ hgd s x 64 ho base 97 i0 _ 2 32 Tryz.underlying64 hi hz0 hz1 hz2 rfl (by omega) v xs.length (encR.cells xs) hs hown' ⟨W.heap.size, 0, none⟩ 1 1 (encR.enc y) hx rfl ?_ oneP (by omega) (by unfold maxLen; omega) ?_ (by simp; omega) _ rfl ?_
 ·intro j u hj
  rw [Addr.add_lit, Nat.zero_add, World.cell?, show (W.alloc (.cells #[.string y.1, .string y.2] 97)).heap[W.heap.size]? = some (.cells (encR.enc y).toArray 97 (0, 0)) from heapAllocNew W _ _]
  simpa using hj
 ·calc (xs.length + 1) * 32 ≤ 100000001 * 64 := Nat.mul_le_mul (by omega) (by omega)
   _ ≤ _ := by omega
 ·intro g' cap w' h1 h2 h3 _
  have hb : Below base W w' := ((Below.refl _ _).alloc hB _).trans ((Below.refl _ _).grown h2 (by simp; omega) (fun j hj => (World.ownsRow.lt hown' j hj).1))
  refine h _ w' ?_ hb ⟨h2.os.trans hal.os, h2.tape.trans hal.tape, h2.output.trans hal.output, Nat.le_trans hal.size h2.size, fun j hj hne => (h2.block j (Nat.lt_of_lt_of_le hj hal.size) hne).trans (hal.block j hj hne)⟩ ?_
  ·have e : encR.cells (xs ++ [y]) = encR.cells xs ++ encR.enc y := by rw [encR.cells_app]; simp [Enc.cells]
   unfold GOwn
   rw [e, List.length_append]
   exact h1
  ·rcases h3 with h3 | h3
   ·exact Or.inl h3.symm
   ·exact Or.inr ⟨g', rfl, by rw [h3]; simp⟩

theorem cellsS (ks : List ByteArray) : encS.cells ks = (ks.map (·.data.toList)).map encStr := by
 induction ks with
 | nil => rfl
 | cons k ks ih =>
  have e : encS.cells (k :: ks) = .string k :: encS.cells ks := rfl
  rw [e, ih, List.map_cons, List.map_cons]
theorem cellsB (l : List (List UInt8)) : encS.cells (l.map fun x => (⟨x.toArray⟩ : ByteArray)) = l.map encStr := by rw [cellsS, map_mk]
theorem sortB_len (ks : List ByteArray) : (sortB ks).length = ks.length := by simp [sortB]

theorem sort95 (ks : List ByteArray) (base : Nat) (v : Value) (w : World) (hn : ks.length ≤ 100000000) (hown : GOwn encS 9 w base v ks) :
  Calls Tryz.prog 97 #[v] w fun e w' => e = .returned (.tuple #[]) ∧ GOwn encS 9 w' base v (sortB ks) ∧ Below base w w' := by
 have h0 := hown
 rcases hown.2 with ⟨rfl, hz⟩ | ⟨g, cap, cur, rfl, hbase, hb, h1, h2, h3, h4⟩
 ·refine (Tryz.slices_Sort_string_none none 0 w).mono ?_
  rintro e w' ⟨rfl, rfl⟩
  have e : ks = [] := List.length_eq_zero_iff.1 hz
  subst e
  exact ⟨rfl, by simpa [sortB] using h0, Below.refl _ _⟩
 ·have hl : (ks.map (·.data.toList)).length = ks.length := by simp
  have h4' : cur.toList.take (ks.map (·.data.toList)).length = (ks.map (·.data.toList)).map encStr := by
   have e : encS.size = 1 := rfl
   rw [e, Nat.mul_one] at h4
   rw [hl, h4, cellsS]
  have hg : g < w.heap.size := (Array.getElem?_eq_some_iff.1 hb).1
  have hc := Tryz.slices_Sort_string g 0 cap (ks.map (·.data.toList)) w (holds_of_block hb h4') hg (by rw [hl]; omega)
  rw [hl] at hc
  refine hc.mono ?_
  rintro e w' ⟨rfl, n, os, rfl⟩
  refine ⟨rfl, ?_, grown_base (grownBy_sorted _) hbase hg⟩
  have ho := ownsRow_sorted (n := n) (os := os) (ts := (ks.map (·.data.toList)).mergeSort fun x y => decide (x ≤ y)) (ss := ks.map (·.data.toList)) (by simp) hbase hb (by rw [hl]; exact h1) h2 h3
  unfold GOwn
  rw [sortB_len]
  unfold sortB
  rw [cellsB]
  rw [hl] at ho
  exact ho

theorem comp96 (ks : List ByteArray) (base : Nat) (v : Value) (w : World) (hn : ks.length ≤ 100000000) (hown : GOwn encS 9 w base v ks) :
  Calls Tryz.prog 98 #[v] w fun e w' => ∃ ao cap, e = .returned (.slice ao (compB ks).length cap) ∧ GRow encS w' ao (compB ks) ∧ Below base w w' := by
 rcases hown.2 with ⟨rfl, hz⟩ | ⟨g, cap, cur, rfl, hbase, hb, h1, h2, h3, h4⟩
 ·refine (Tryz.slices_Compact_string_empty none 0 w).mono ?_
  rintro e w' ⟨rfl, rfl⟩
  have e : ks = [] := List.length_eq_zero_iff.1 hz
  subst e
  exact ⟨none, 0, rfl, GRow.nil _ _, Below.refl _ _⟩
 ·have hl : (ks.map (·.data.toList)).length = ks.length := by simp
  have h4' : cur.toList.take (ks.map (·.data.toList)).length = (ks.map (·.data.toList)).map encStr := by
   have e : encS.size = 1 := rfl
   rw [e, Nat.mul_one] at h4
   rw [hl, h4, cellsS]
  have hg : g < w.heap.size := (Array.getElem?_eq_some_iff.1 hb).1
  have hc := Tryz.slices_Compact_string g 0 cap (ks.map (·.data.toList)) w (holds_of_block hb h4') (by rw [hl]; omega) (by rw [hl]; exact h1)
  have hcl : (Lib.compact (ks.map (·.data.toList))).length ≤ (ks.map (·.data.toList)).length := Lib.compact_length_le _
  have e2 : (compB ks).length = (Lib.compact (ks.map (·.data.toList))).length := by simp [compB]
  rw [hl] at hc
  refine hc.mono ?_
  rintro e w' ⟨rfl, q, rfl⟩
  refine ⟨some ⟨g, 0, none⟩, cap, by rw [e2], ?_, ?_⟩
  ·have ho := ownsRow_sorted (n := q) (os := #[]) (ts := Lib.compact (ks.map (·.data.toList)) ++ List.replicate (ks.length - (Lib.compact (ks.map (·.data.toList))).length) []) (ss := ks.map (·.data.toList)) (by simp at hcl ⊢; omega) hbase hb (by rw [hl]; exact h1) h2 h3
   rw [grow_empty, hl] at ho
   intro _
   refine ⟨g, 0, rfl, by simpa [putRow, mapBlock, Sort.ahead] using hg, fun j hj i hi => ?_⟩
   have hi0 : i = 0 := by have : encS.size = 1 := rfl; omega
   have hsz : encS.size = 1 := rfl
   subst hi0
   rw [hsz, Nat.mul_one, Nat.zero_add, Nat.add_zero, World.ownsRow.cellAt ho j (by rw [Nat.mul_one, ← hl]; omega)]
   rw [List.map_append, List.getElem?_append_left (by simp; omega)]
   have hj2 : j < (Lib.compact (ks.map (·.data.toList))).length := by omega
   simp [compB, encS, hj2]
  ·have hgr := grownBy_sorted (w := w) (g := g) (n := q) (os := #[]) (Lib.compact (ks.map fun b => b.data.toList) ++ List.replicate (ks.length - (Lib.compact (ks.map fun b => b.data.toList)).length) ([] : List UInt8)).toArray
   rw [grow_empty] at hgr
   exact grown_base hgr hbase hg

end Go.Proofs.YtjieojfcmigcdaaGreatDoor

namespace Go.Proofs.YtjieojfcmigcdaaGreatDoor
open Go.RowKit
open KM
open VM
attribute [local go_sem ↓] Go.wp_at_zero Go.wp_at_succ

def zV : Vr := (⟨#[]⟩, ⟨#[]⟩, false, 0)
theorem chn_first (w : World) : Chn ((w.alloc (.cells #[.string ⟨#[]⟩, .string ⟨#[]⟩, .bool false, .int .i64 0, .pointer none] 153)).alloc (.cells #[.pointer (some ⟨w.heap.size, 0, none⟩)] 155)) w.heap.size (w.heap.size + 1) ([] ++ [(w.heap.size, zV)]) := by
 have h1 : Bx (w.alloc (.cells #[.string ⟨#[]⟩, .string ⟨#[]⟩, .bool false, .int .i64 0, .pointer none] 153)) w.heap.size (ndc zV none) := Bx.new w (ndc zV none) 153
 have h2 := Bx.new (w.alloc (.cells #[.string ⟨#[]⟩, .string ⟨#[]⟩, .bool false, .int .i64 0, .pointer none] 153)) [.pointer (some ⟨w.heap.size, 0, none⟩)] 155
 rw [World.size_alloc] at h2
 refine ⟨h2, ⟨h1.alloc _, trivial⟩, by simp, by simp⟩
theorem fst_ne {w : World} {base c : Nat} {A : List Nd} {m : Nd} (h : Chn w base c (A ++ [m])) (b : Nat) (v : Vr) (hb : w.heap.size ≤ b) : (c :: (A ++ m :: [(b, v)]).map (·.1)).Nodup := by
 have e : (c :: (A ++ m :: [(b, v)]).map (·.1)) = (c :: (A ++ [m]).map (·.1)) ++ [b] := by simp
 rw [e, List.nodup_append]
 refine ⟨h.nd, by simp, fun x hx y hy => ?_⟩
 have := h.lt x hx
 simp at hy
 omega
theorem chn_more {w : World} {base c : Nat} {A : List Nd} {m : Nd} (h : Chn w base c (A ++ [m])) (hb : base ≤ w.heap.size) (v : Vr) :
  Chn (((w.alloc (.cells #[.string v.1, .string v.2.1, .bool v.2.2.1, .int .i64 v.2.2.2] 124)).alloc (.cells #[.string v.1, .string v.2.1, .bool v.2.2.1, .int .i64 v.2.2.2, .pointer none] 153)).setCell ⟨m.1, 4, none⟩ (.pointer (some ⟨w.heap.size + 1, 0, none⟩))) base c ((A ++ [m]) ++ [(w.heap.size + 1, v)]) := by
 have h1 := (h.below ((belowRefl w).alloc (Nat.le_refl _) (.cells #[.string v.1, .string v.2.1, .bool v.2.2.1, .int .i64 v.2.2.2] 124))).below ((belowRefl _).alloc (Nat.le_refl _) (.cells #[.string v.1, .string v.2.1, .bool v.2.2.1, .int .i64 v.2.2.2, .pointer none] 153))
 have h2 := Bx.new (w.alloc (.cells #[.string v.1, .string v.2.1, .bool v.2.2.1, .int .i64 v.2.2.2] 124)) (ndc v none) 153
 rw [World.size_alloc] at h2
 have h3 := h1.next (C := [(w.heap.size + 1, v)]) ⟨h2, trivial⟩ (fst_ne h (w.heap.size + 1) v (by omega)) (fun n hn => by rw [List.mem_singleton.1 hn]; show base ≤ w.heap.size + 1; omega)
 rw [List.append_assoc]
 exact h3

set_option maxRecDepth 100000 in
set_option maxHeartbeats 2000000 in
theorem chain45 (xs : List Vr) (a : Option Addr) (c : Nat) (hn : xs.length ≤ 100000000) (w : World) (hp : GRow encV w a xs) :
  Calls Tryz.prog 68 #[.slice a xs.length c] w fun e w' => e = .returned (.pointer (some ⟨w.heap.size + 1, 0, none⟩)) ∧ (∃ (r : Nat) (ns : List Nd), Chn w' w.heap.size (w.heap.size + 1) ((r, zV) :: ns) ∧ ns.map (·.2) = xs) ∧ Below w.heap.size w w' := by
 have HP : Hid (GRow encV w a xs) := hp
 clear hp
 have H0 : Hid (Chn ((w.alloc (.cells #[.string ⟨#[]⟩, .string ⟨#[]⟩, .bool false, .int .i64 0, .pointer none] 153)).alloc (.cells #[.pointer (some ⟨w.heap.size, 0, none⟩)] 155)) w.heap.size (w.heap.size + 1) ([] ++ [(w.heap.size, zV)])) := chn_first w
 have B0 : Hid (Below w.heap.size w ((w.alloc (.cells #[.string ⟨#[]⟩, .string ⟨#[]⟩, .bool false, .int .i64 0, .pointer none] 153)).alloc (.cells #[.pointer (some ⟨w.heap.size, 0, none⟩)] 155))) := ((belowRefl w).alloc (Nat.le_refl _) _).alloc (by simp) _
 go_enter Tryz.func68, Tryz.ntmps68
 go_wp2
 go_loopw [4, 17] (fun t4 t wr => ∃ (k : Nat) (A : List Nd) (m : Nd), k ≤ xs.length ∧ t = .int .i64 k ∧ t4 = .pointer (some ⟨m.1, 0, none⟩) ∧ Hid (Chn wr w.heap.size (w.heap.size + 1) (A ++ [m])) ∧ Hid ((A ++ [m]).map (·.2) = zV :: xs.take k) ∧ Hid (Below w.heap.size w wr)) (fun _ t _ => xs.length - (intOf t).toNat)
 case atStart => exact ⟨0, [], (w.heap.size, zV), Nat.zero_le _, rfl, rfl, H0, rfl, B0⟩
 case round =>
  obtain ⟨k, A, m, hk, rfl, rfl, HC, HV, HB⟩ := hrel
  by_cases hlt : k < xs.length
  ·have hlt' : (k : Int) < (xs.length : Int) := by omega
   have h0 : (0 : Int) ≤ (k : Int) := by omega
   obtain ⟨b, off, rfl, hbl, hc⟩ := (HP.out.below HB.out) (by omega)
   have c0 := (vat hc k hlt).1
   have c1 := (vat hc k hlt).2.1
   have c2 := (vat hc k hlt).2.2.1
   have c3 := (vat hc k hlt).2.2.2
   clear hc
   have m4 := HC.out.at'.c4
   have mf := HC.out.at'.fz
   have mlt := HC.out.at'.lt
   simp only [ptq_nil] at m4
   have HC2 : Hid (Chn (((wr.setCell ⟨m.1, 4, none⟩ (.pointer (some ⟨wr.heap.size + 1, 0, none⟩))).alloc (.cells #[.string xs[k].1, .string xs[k].2.1, .bool xs[k].2.2.1, .int .i64 xs[k].2.2.2] 124)).alloc (.cells #[.string xs[k].1, .string xs[k].2.1, .bool xs[k].2.2.1, .int .i64 xs[k].2.2.2, .pointer none] 153)) w.heap.size (w.heap.size + 1) ((A ++ [m]) ++ [(wr.heap.size + 1, xs[k])])) := by
    have h := chn_more HC.out HB.out.size xs[k]
    rw [World.setCell_alloc_past _ _ _ _ (by simp; omega), World.setCell_alloc_past _ _ _ _ mlt] at h
    exact h
   have HV2 : Hid (((A ++ [m]) ++ [(wr.heap.size + 1, xs[k])]).map (·.2) = zV :: xs.take (k + 1)) := by
    show _ = _
    rw [List.map_append, HV.out, List.take_succ_eq_append_getElem hlt]; rfl
   have HB2 : Hid (Below w.heap.size w (((wr.setCell ⟨m.1, 4, none⟩ (.pointer (some ⟨wr.heap.size + 1, 0, none⟩))).alloc (.cells #[.string xs[k].1, .string xs[k].2.1, .bool xs[k].2.2.1, .int .i64 xs[k].2.2.2] 124)).alloc (.cells #[.string xs[k].1, .string xs[k].2.1, .bool xs[k].2.2.1, .int .i64 xs[k].2.2.2, .pointer none] 153))) := by
    have hs : w.heap.size ≤ (wr.setCell ⟨m.1, 4, none⟩ (.pointer (some ⟨wr.heap.size + 1, 0, none⟩))).heap.size := by simpa [World.setCell] using HB.out.size
    exact ((HB.out.setCell (HC.out.lo m.1 (by simp)) _).alloc hs _).alloc (by rw [World.size_alloc]; omega) _
   go_wp2
   go_roundw
   case rel => exact ⟨k + 1, A ++ [m], _, by omega, by go_num, rfl, HC2, HV2, HB2⟩
   case measure => simp [intOf]; omega
  ·have hlt' : ¬ (k : Int) < (xs.length : Int) := by omega
   have HE : Hid (∃ (r : Nat) (ns : List Nd), Chn wr w.heap.size (w.heap.size + 1) ((r, zV) :: ns) ∧ ns.map (·.2) = xs) := by
    have hv := HV.out
    have hc := HC.out
    rw [List.take_of_length_le (by omega)] at hv
    show ∃ _ _, _
    cases hl : A ++ [m] with
    | nil => simp at hl
    | cons x l =>
     rw [hl] at hv hc
     simp only [List.map_cons, List.cons.injEq] at hv
     obtain ⟨r, v⟩ := x
     have e : v = zV := hv.1
     subst e
     exact ⟨r, l, hc, hv.2⟩
   go_wp2
   go_ret
   exact ⟨rfl, HE.out, HB.out⟩
end Go.Proofs.YtjieojfcmigcdaaGreatDoor

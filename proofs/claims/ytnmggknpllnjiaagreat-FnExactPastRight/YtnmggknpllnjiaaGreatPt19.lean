/-
 DERIVED: THE SHELF's CONTRACTS AT THIS DUMP, IN PLAIN WORDS (tools/lay-plain.mjs out of 'TryShelf.lean', which tools/lay-shelf.mjs wrote): THE SAME DECLARATIONS UNDER THE SAME NAMES: 'import', 'namespace', 'open', 'def', 'theorem' AND NOTHING ELSE: no command of the shelf's: FOR A HAND-IN. Each laying: the table of numbers ('.._ren') and one theorem, a field a fact of the dump's own or the kernel's comparison; each contract: ONE APPLICATION.
-/
import Derived.Shelf.Sort.Plain
import Derived.Ground.Names2Prog
import Derived.Shelf.Slices.CompactI
import Derived.Shelf.Slices.CompactS
import Derived.Shelf.Slices.Cells
import Derived.Shelf.Slices.In.SortNone
import Derived.Test.YtnmggknpllnjiaaGreatProg
import Derived.Test.YtnmggknpllnjiaaGreatPt18
import Derived.Lib.SlicesCompact
import Derived.Sort.Walk0
import Derived.Test.YtnmggknpllnjiaaGreatPt15
import Derived.Test.YtnmggknpllnjiaaGreatPt01
import Derived.Deep.AppendLies
import Derived.Test.YtnmggknpllnjiaaGreatPt03
import Derived.Sort.OwnSorted
import Derived.Lib.RowBridge
import Derived.Test.YtnmggknpllnjiaaGreatPt04
import Derived.WalkKit
import Derived.WalkSpells
import Derived.WalkLawsBesides
import Derived.Deep.QuietTactic
import Derived.BigQuiet
import Derived.Deep.RegionHeld3
import Derived.Deep.DrawnRows
namespace Go.Proofs
open Go.Shelf
def Tryz.lays190_ren : Go.Shelf.Ren := ⟨fun | 190 => 84 | 125 => 101 | 258 => 100 | 128 => 116 | 129 => 117 | 302 => 107 | 303 => 108 | 304 => 109 | 305 => 110 | 306 => 111 | 307 => 112 | 308 => 113 | 309 => 114 | 310 => 115 | 333 => 119 | 329 => 120 | 330 => 121 | 334 => 122 | 335 => 123 | 336 => 124 | 344 => 126 | n => n, fun | 31 => 28 | 9 => 9 | 3 => 3 | 46 => 176 | 0 => 0 | 51 => 191 | 53 => 193 | 4 => 4 | 183 => 183 | 182 => 182 | 131 => 188 | 5 => 5 | 218 => 194 | 222 => 198 | 228 => 201 | 229 => 202 | n => n, fun | n => n⟩
theorem Tryz.lays190 : Go.Proofs.Lays.n190 Tryz.prog Tryz.lays190_ren := {
 mixed := by kernel_rfl
 f125 := Tryz.func101.trans (congrArg some (by kernel_rfl))
 f128 := Tryz.func116.trans (congrArg some (by kernel_rfl))
 f129 := Tryz.func117.trans (congrArg some (by kernel_rfl))
 f190 := Tryz.func84.trans (congrArg some (by kernel_rfl))
 f258 := Tryz.func100.trans (congrArg some (by kernel_rfl))
 f302 := Tryz.func107.trans (congrArg some (by kernel_rfl))
 f303 := Tryz.func108.trans (congrArg some (by kernel_rfl))
 f304 := Tryz.func109.trans (congrArg some (by kernel_rfl))
 f305 := Tryz.func110.trans (congrArg some (by kernel_rfl))
 f306 := Tryz.func111.trans (congrArg some (by kernel_rfl))
 f307 := Tryz.func112.trans (congrArg some (by kernel_rfl))
 f308 := Tryz.func113.trans (congrArg some (by kernel_rfl))
 f309 := Tryz.func114.trans (congrArg some (by kernel_rfl))
 f310 := Tryz.func115.trans (congrArg some (by kernel_rfl))
 f329 := Tryz.func120.trans (congrArg some (by kernel_rfl))
 f330 := Tryz.func121.trans (congrArg some (by kernel_rfl))
 f333 := Tryz.func119.trans (congrArg some (by kernel_rfl))
 f334 := Tryz.func122.trans (congrArg some (by kernel_rfl))
 f335 := Tryz.func123.trans (congrArg some (by kernel_rfl))
 f336 := Tryz.func124.trans (congrArg some (by kernel_rfl))
 f344 := Tryz.func126.trans (congrArg some (by kernel_rfl))
 t0 := Tryz.underlying0
 a0 := Tryz.isAgg0
 z0 := Tryz.sizeOf0
 v0 := Tryz.zeroValue0
 t3 := Tryz.underlying3
 a3 := Tryz.isAgg3
 z3 := Tryz.sizeOf3
 v3 := Tryz.zeroValue3
 t4 := Tryz.underlying4
 a4 := Tryz.isAgg4
 z4 := Tryz.sizeOf4
 v4 := Tryz.zeroValue4
 t5 := Tryz.underlying5
 a5 := Tryz.isAgg5
 z5 := Tryz.sizeOf5
 v5 := Tryz.zeroValue5
 t9 := Tryz.underlying9
 a9 := Tryz.isAgg9
 z9 := Tryz.sizeOf9
 v9 := Tryz.zeroValue9
 t31 := Tryz.underlying28
 a31 := Tryz.isAgg28
 z31 := Tryz.sizeOf28
 v31 := Tryz.zeroValue28
 t46 := Tryz.underlying176
 a46 := Tryz.isAgg176
 z46 := Tryz.sizeOf176
 v46 := Tryz.zeroValue176
 t51 := Tryz.underlying191
 a51 := Tryz.isAgg191
 z51 := Tryz.sizeOf191
 v51 := Tryz.zeroValue191
 t53 := Tryz.underlying193
 a53 := Tryz.isAgg193
 z53 := Tryz.sizeOf193
 v53 := Tryz.zeroValue193
 t131 := Tryz.underlying188
 a131 := Tryz.isAgg188
 z131 := Tryz.sizeOf188
 v131 := Tryz.zeroValue188
 t182 := Tryz.underlying182
 a182 := Tryz.isAgg182
 z182 := Tryz.sizeOf182
 v182 := Tryz.zeroValue182
 t183 := Tryz.underlying183
 a183 := Tryz.isAgg183
 z183 := Tryz.sizeOf183
 v183 := Tryz.zeroValue183
 t218 := Tryz.underlying194
 a218 := Tryz.isAgg194
 z218 := Tryz.sizeOf194
 v218 := Tryz.zeroValue194
 t222 := Tryz.underlying198
 a222 := Tryz.isAgg198
 z222 := Tryz.sizeOf198
 v222 := Tryz.zeroValue198
 t228 := Tryz.underlying201
 a228 := Tryz.isAgg201
 z228 := Tryz.sizeOf201
 v228 := Tryz.zeroValue201
 t229 := Tryz.underlying202
 a229 := Tryz.isAgg202
 z229 := Tryz.sizeOf202
 v229 := Tryz.zeroValue202 }
open Go.Sort Go.RowKit in
theorem Tryz.slices_Sort_string (blk off cap : Nat) (ss : List (List UInt8)) (w : World) (hH : Holds encStr w blk off ss.toArray) (hblk : blk < w.heap.size) (hsz : ss.length < 4611686018427387904) :
  Calls Tryz.prog 84 #[.slice (some ⟨blk, off, none⟩) ss.length cap] w fun e w' =>
   e = .returned (.tuple #[]) ∧ ∃ n os, w' = grow (putRow encStr (Sort.ahead w n) blk off (ss.mergeSort fun x y => decide (x ≤ y)).toArray) os := Any.slices_Sort_string Tryz.lays190 blk off cap ss w hH hblk hsz
def Tryz.lays194_ren : Go.Shelf.Ren := ⟨fun | 194 => 85 | n => n, fun | 31 => 28 | 9 => 9 | 3 => 3 | 4 => 4 | 0 => 0 | n => n, fun | n => n⟩
theorem Tryz.lays194 : Go.Proofs.Lays.n194 Tryz.prog Tryz.lays194_ren := {
 mixed := by kernel_rfl
 f194 := Tryz.func85.trans (congrArg some (by kernel_rfl))
 t0 := Tryz.underlying0
 a0 := Tryz.isAgg0
 z0 := Tryz.sizeOf0
 v0 := Tryz.zeroValue0
 t3 := Tryz.underlying3
 a3 := Tryz.isAgg3
 z3 := Tryz.sizeOf3
 v3 := Tryz.zeroValue3
 t4 := Tryz.underlying4
 a4 := Tryz.isAgg4
 z4 := Tryz.sizeOf4
 v4 := Tryz.zeroValue4
 t9 := Tryz.underlying9
 a9 := Tryz.isAgg9
 z9 := Tryz.sizeOf9
 v9 := Tryz.zeroValue9
 t31 := Tryz.underlying28
 a31 := Tryz.isAgg28
 z31 := Tryz.sizeOf28
 v31 := Tryz.zeroValue28 }
open Go.RowKit Go.Lib Go.Sort in
open Go.RowKit Go.Lib Go.Sort in
theorem Tryz.slices_Compact_string (blk off cap : Nat) (zs : List (List UInt8)) (w : World) (hH : Holds encStr w blk off zs.toArray) (hsz : zs.length ≤ 9223372036854775807) (hcap : zs.length ≤ cap) :
  Calls Tryz.prog 85 #[.slice (some ⟨blk, off, none⟩) zs.length cap] w fun e w' => e = .returned (.slice (some ⟨blk, off, none⟩) (Lib.compact zs).length cap) ∧ ∃ q, w' = putRow encStr (Sort.ahead w q) blk off (Lib.compact zs ++ List.replicate (zs.length - (Lib.compact zs).length) []).toArray := Any.slices_Compact_string Tryz.lays194 blk off cap zs w hH hsz hcap
open Go.RowKit Go.Lib Go.Sort in
theorem Tryz.slices_Compact_string_empty (a : Option Addr) (cap : Nat) (w : World) :
  Calls Tryz.prog 85 #[.slice a 0 cap] w fun e w' => e = .returned (.slice a 0 cap) ∧ w' = w := Any.slices_Compact_string_empty Tryz.lays194 a cap w
open Go.RowKit Go.Lib Go.Sort in
open Go.RowKit Go.Sort in
theorem Tryz.slices_Sort_string_none (p : Option Addr) (cap : Nat) (w : World) :
  Calls Tryz.prog 84 #[.slice p 0 cap] w fun e w' => e = .returned (.tuple #[]) ∧ w' = w := Any.slices_Sort_string_none Tryz.lays190 p cap w
end Go.Proofs

namespace Go.Proofs.YtnmggknpllnjiaaGreat
namespace VM
open KM
section
variable {α : Type} [Inhabited α] [DecidableEq α]
theorem comp_upto (le : α → α → Bool) (anti : ∀ a b, le a b = true → le b a = true → a = b) (d : Array α) (hs : ∀ i j, i ≤ j → j < d.size → le d[i]! d[j]! = true) :
  ∀ m, m ≤ d.size → (∀ x, x ∈ Lib.compactUpTo d m ↔ ∃ j, j < m ∧ d[j]! = x) ∧ (Lib.compactUpTo d m).Pairwise (fun a b => le a b = true ∧ a ≠ b)
 | 0, _ => by
  refine ⟨fun x => ⟨fun h => by simp [Lib.compactUpTo] at h, fun ⟨j, hj, _⟩ => by omega⟩, by simp [Lib.compactUpTo]⟩
 | m + 1, hm => by
  obtain ⟨h1, h2⟩ := comp_upto le anti d hs m (by omega)
  rw [Lib.compactUpTo_succ]
  cases hk : Lib.keeps d m
  ·have hk' : ¬ (m = 0 ∨ d[m]! ≠ d[m - 1]!) := by simpa [Lib.keeps] using hk
   have e : d[m]! = d[m - 1]! := by
    apply Classical.byContradiction
    intro h; exact hk' (Or.inr h)
   have hm0 : m ≠ 0 := fun h => hk' (Or.inl h)
   simp only [Bool.false_eq_true, if_false, List.append_nil]
   refine ⟨fun x => ?_, h2⟩
   rw [h1 x]
   constructor
   ·rintro ⟨j, hj, rfl⟩; exact ⟨j, by omega, rfl⟩
   ·rintro ⟨j, hj, rfl⟩
    by_cases ej : j = m
    ·subst ej; exact ⟨j - 1, by omega, e.symm⟩
    ·exact ⟨j, by omega, rfl⟩
  ·have hk' : m = 0 ∨ d[m]! ≠ d[m - 1]! := by simpa [Lib.keeps] using hk
   simp only [if_true]
   refine ⟨fun x => ?_, ?_⟩
   ·rw [List.mem_append, h1 x, List.mem_singleton]
    constructor
    ·rintro (⟨j, hj, rfl⟩ | rfl)
     ·exact ⟨j, by omega, rfl⟩
     ·exact ⟨m, by omega, rfl⟩
    ·rintro ⟨j, hj, rfl⟩
     by_cases ej : j = m
     ·subst ej; exact Or.inr rfl
     ·exact Or.inl ⟨j, by omega, rfl⟩
   ·rw [List.pairwise_append]
    refine ⟨h2, by simp, fun x hx y hy => ?_⟩
    rw [List.mem_singleton.1 hy]
    obtain ⟨j, hj, rfl⟩ := (h1 x).1 hx
    refine ⟨hs j m (by omega) (by omega), fun e => ?_⟩
    rcases hk' with h0 | hne
    ·omega
    ·apply hne
     exact anti _ _ (by rw [← e]; exact hs j (m - 1) (by omega) (by omega)) (hs (m - 1) m (by omega) (by omega))
theorem comp_all (le : α → α → Bool) (refl : ∀ a, le a a = true) (anti : ∀ a b, le a b = true → le b a = true → a = b) (xs : List α) (hs : xs.Pairwise (fun a b => le a b = true)) :
  (∀ x, x ∈ Lib.compact xs ↔ x ∈ xs) ∧ (Lib.compact xs).Pairwise (fun a b => le a b = true ∧ a ≠ b) := by
 have hp := List.pairwise_iff_getElem.1 hs
 have h := comp_upto le anti xs.toArray (fun i j hij hj => by
  have hj' : j < xs.length := by simpa using hj
  by_cases e : i = j
  ·subst e; exact refl _
  ·have := hp i j (by omega) hj' (by omega)
   rw [getElem!_pos _ i (by simp; omega), getElem!_pos _ j (by simp; omega)]
   simpa using this) xs.length (by simp)
 refine ⟨fun x => ?_, h.2⟩
 show x ∈ Lib.compactUpTo xs.toArray xs.length ↔ _
 rw [h.1 x]
 constructor
 ·rintro ⟨j, hj, rfl⟩
  rw [getElem!_pos _ j (by simpa using hj)]
  simp
 ·intro hx
  obtain ⟨j, hj, rfl⟩ := List.getElem_of_mem hx
  exact ⟨j, hj, by rw [getElem!_pos _ j (by simpa using hj)]; simp⟩
theorem asc_ext {β : Type} {R : β → β → Prop} (irr : ∀ a, ¬ R a a) (tr : ∀ a b c, R a b → R b c → R a c) : ∀ l1 l2 : List β, l1.Pairwise R → l2.Pairwise R → (∀ x, x ∈ l1 ↔ x ∈ l2) → l1 = l2
 | [], [], _, _, _ => rfl
 | [], b :: _, _, _, h => by have := (h b).2 (by simp); simp at this
 | a :: _, [], _, _, h => by have := (h a).1 (by simp); simp at this
 | a :: l, b :: m, h1, h2, h => by
  rw [List.pairwise_cons] at h1 h2
  by_cases e : a = b
  ·subst e
   congr 1
   refine asc_ext irr tr l m h1.2 h2.2 (fun x => ⟨fun hx => ?_, fun hx => ?_⟩)
   ·rcases List.mem_cons.1 ((h x).1 (by simp [hx])) with rfl | hm
    ·exact absurd (h1.1 _ hx) (irr _)
    ·exact hm
   ·rcases List.mem_cons.1 ((h x).2 (by simp [hx])) with rfl | hm
    ·exact absurd (h2.1 _ hx) (irr _)
    ·exact hm
  ·exfalso
   have ha : a ∈ m := by
    rcases List.mem_cons.1 ((h a).1 (by simp)) with h' | h'
    ·exact absurd h' e
    ·exact h'
   have hb : b ∈ l := by
    rcases List.mem_cons.1 ((h b).2 (by simp)) with h' | h'
    ·exact absurd h'.symm e
    ·exact h'
   exact irr a (tr _ _ _ (h1.1 b hb) (h2.1 a ha))
end

theorem ba_eta (b : ByteArray) : (⟨b.data.toList.toArray⟩ : ByteArray) = b := by
 obtain ⟨⟨l⟩⟩ := b
 rfl
theorem lt_iff (a b : ByteArray) : lt a b = true ↔ a.data.toList < b.data.toList := by
 unfold lt
 rw [bytesLess_eq, toList_data, toList_data, decide_eq_true_eq]
theorem lt_irr (a : ByteArray) : ¬ lt a a = true := by unfold lt; rw [less_irrefl]; simp
theorem lt_tr (a b c : ByteArray) (h1 : lt a b = true) (h2 : lt b c = true) : lt a c = true := by
 rw [lt_iff] at *
 exact List.lt_trans h1 h2
theorem lt_total {a b : ByteArray} (h : a ≠ b) : lt a b = true ∨ lt b a = true := by
 cases h1 : lt a b
 ·exact Or.inr (less_total _ _ h1 (fun e => h (toList_inj e)))
 ·exact Or.inl rfl
def sortB (ks : List ByteArray) : List ByteArray := ((ks.map (·.data.toList)).mergeSort fun x y => decide (x ≤ y)).map fun l => ⟨l.toArray⟩
def compB (ks : List ByteArray) : List ByteArray := (Lib.compact (ks.map (·.data.toList))).map fun l => ⟨l.toArray⟩
def keysB (ks : List ByteArray) : List ByteArray := compB (sortB ks)
theorem map_mk (l : List (List UInt8)) : (l.map fun x => (⟨x.toArray⟩ : ByteArray)).map (·.data.toList) = l := by
 rw [List.map_map]
 conv => rhs; rw [← List.map_id l]
 rfl
theorem keys_spec (ks : List ByteArray) : (∀ x, x ∈ keysB ks ↔ x ∈ ks) ∧ (keysB ks).Pairwise (fun a b => lt a b = true) := by
 have hsorted : ((ks.map (·.data.toList)).mergeSort fun x y => decide (x ≤ y)).Pairwise (fun a b => decide (a ≤ b) = true) :=
  List.pairwise_mergeSort (fun a b c h1 h2 => by simp at *; exact List.le_trans h1 h2) (fun a b => by simp; exact List.le_total a b) _
 have h := comp_all (fun a b : List UInt8 => decide (a ≤ b)) (fun a => by simp) (fun a b h1 h2 => by simp at *; exact List.le_antisymm h1 h2) _ hsorted
 unfold keysB compB sortB
 rw [map_mk]
 refine ⟨fun x => ?_, ?_⟩
 ·rw [List.mem_map]
  constructor
  ·rintro ⟨l, hl, rfl⟩
   have := (h.1 l).1 hl
   rw [List.mem_mergeSort] at this
   obtain ⟨b, hb, rfl⟩ := List.mem_map.1 this
   rw [ba_eta]; exact hb
  ·intro hx
   refine ⟨x.data.toList, (h.1 _).2 ?_, ba_eta x⟩
   rw [List.mem_mergeSort]
   exact List.mem_map.2 ⟨x, hx, rfl⟩
 ·rw [List.pairwise_map]
  refine h.2.imp ?_
  intro a b hab
  rw [lt_iff]
  have h1 : a ≤ b := by simpa using hab.1
  show a < b
  have h3 : ((⟨a.toArray⟩ : ByteArray)) ≠ ⟨b.toArray⟩ := fun e => hab.2 (by have := congrArg (fun z : ByteArray => z.data.toList) e; simpa using this)
  rcases lt_total h3 with h4 | h4
  ·exact (lt_iff _ _).1 h4
  ·exact absurd ((lt_iff _ _).1 h4) h1
theorem keys_of {ks l : List ByteArray} (h1 : l.Pairwise (fun a b => lt a b = true)) (p : ByteArray → Bool) (h2 : ∀ x, x ∈ l ↔ x ∈ ks ∧ p x = true) : l = (keysB ks).filter p := by
 have h := keys_spec ks
 refine asc_ext lt_irr lt_tr _ _ h1 (h.2.filter _) (fun x => ?_)
 rw [h2, List.mem_filter, h.1]

def insK (l : List ByteArray) (k : ByteArray) : List ByteArray := l.filter (fun y => lt y k) ++ [k] ++ l.filter (fun y => lt k y)
theorem ins_spec {l : List ByteArray} {k : ByteArray} (h : l.Pairwise (fun a b => lt a b = true)) : (insK l k).Pairwise (fun a b => lt a b = true) ∧ ∀ x, x ∈ insK l k ↔ x = k ∨ x ∈ l := by
 unfold insK
 constructor
 ·rw [List.pairwise_append, List.pairwise_append]
  refine ⟨⟨h.filter _, by simp, fun x hx y hy => ?_⟩, h.filter _, fun x hx y hy => ?_⟩
  ·rw [List.mem_singleton.1 hy]; exact (List.mem_filter.1 hx).2
  ·have hy' := (List.mem_filter.1 hy).2
   rcases List.mem_append.1 hx with hx | hx
   ·exact lt_tr _ _ _ (List.mem_filter.1 hx).2 hy'
   ·rw [List.mem_singleton.1 hx]; exact hy'
 ·intro x
  simp only [List.mem_append, List.mem_filter, List.mem_singleton]
  constructor
  ·rintro ((⟨hx, _⟩ | rfl) | ⟨hx, _⟩)
   ·exact Or.inr hx
   ·exact Or.inl rfl
   ·exact Or.inr hx
  ·rintro (rfl | hx)
   ·exact Or.inl (Or.inr rfl)
   ·by_cases e : x = k
    ·exact Or.inl (Or.inr e)
    ·rcases lt_total e with h1 | h1
     ·exact Or.inl (Or.inl ⟨hx, h1⟩)
     ·exact Or.inr ⟨hx, h1⟩

def scanF (vs : List Vr) (r : Rg) (s : Int) (k : ByteArray) : Option Rg := if inB r k = true then (seenB vs k s).map fun v => (k, v) else none
def scanB (vs : List Vr) (r : Rg) (s : Int) : List Rg := (keysB (vs.map (·.1))).filterMap (scanF vs r s)
theorem scan_filter (vs : List Vr) (r : Rg) (s : Int) : scanB vs r s = ((keysB (vs.map (·.1))).filter (inB r)).filterMap fun k => (seenB vs k s).map fun v => (k, v) := by
 unfold scanB
 rw [List.filterMap_filter]
 rfl
end VM
end Go.Proofs.YtnmggknpllnjiaaGreat

namespace Go.Proofs.YtnmggknpllnjiaaGreat
open Go.RowKit
open KM
open VM Go.Sort
attribute [local go_sem ↓] Go.wp_at_zero Go.wp_at_succ

theorem stepAppP {ops : Array Oper} {o : Oper} {a : Act} {K : Act → World → Prop} {Q : Exit → Act → World → Prop} {E : Prop} (hgd : o.guard = none) (s x : Operand) (ho : o.op = .call { callee := .builtin .append, args := #[s, x], argTypes := #[66, 66] })
  {W : World} {base g : Nat} {v : Value} {xs : List Rg} (y : Rg) (hs : a.eval s = v) (hown : GOwn encR 83 W base v xs)
  (hx : a.eval x = .slice (some ⟨g, 0, none⟩) 1 1) (hblk : W.heap[g]? = some (.cells (encR.enc y).toArray 83 (0, 0))) (hlen : xs.length ≤ 100000000) (hB : base ≤ W.heap.size)
  (h : ∀ v' w', GOwn encR 83 w' base v' (xs ++ [y]) → Below base W w' → K (a.put o.dst v') w') :
  if Region.wanted o (yielded ops a.tmps) = true then Oper.wp Tryz.prog o a W K Q else E := by
 refine stepAppG 66 83 2 32 _ Tryz.underlying66 Tryz.info83 rfl (by omega) (by omega) hgd s x ho (encR.enc y) hs hown hx hblk rfl oneP (by omega) hB ?_
 intro g' cap w' h1 h2
 refine h _ w' ?_ h2
 have e : encR.cells (xs ++ [y]) = encR.cells xs ++ encR.enc y := by rw [encR.cells_app]; simp [Enc.cells]
 unfold GOwn
 rw [e, List.length_append]
 exact h1

theorem wpAppKP {ops : Array Oper} {rest : List Oper} {o : Oper} {a : Act} {Q : Exit → Act → World → Prop} (hgd : o.guard = none) (s x : Operand) (ho : o.op = .call { callee := .builtin .append, args := #[s, x], argTypes := #[66, 66] })
  {W : World} {base : Nat} {v : Value} {xs : List Rg} (y : Rg) (hs : a.eval s = v) (hown : GOwn encR 83 W base v xs)
  (hx : a.eval x = .slice (some ⟨W.heap.size, 0, none⟩) 1 1) (hlen : xs.length ≤ 100000000) (hB : base ≤ W.heap.size)
  (h : ∀ v' w', GOwn encR 83 w' base v' (xs ++ [y]) → Below base W w' → W.grownBy w' v.ownBlock → (v'.ownBlock = v.ownBlock ∨ ∃ g, v'.ownBlock = some g ∧ W.heap.size ≤ g) → wpList Tryz.prog ops Q rest (a.put o.dst v') w') :
  wpList Tryz.prog ops Q (o :: rest) a (W.alloc (.cells #[.string y.1, .string y.2] 83)) := by
 obtain ⟨i0, hi, hz0, hz1, hz2⟩ := info_parts Tryz.info83
 have hown' : (W.alloc (.cells #[.string y.1, .string y.2] 83)).ownsRow base 83 2 v xs.length (encR.cells xs) := World.ownsRow.alloc hown _
 have hal : W.grownBy (W.alloc (.cells #[.string y.1, .string y.2] 83)) v.ownBlock := ⟨rfl, rfl, rfl, by simp, fun j hj _ => by
  unfold World.alloc; simp only [Array.getElem?_push]; rw [if_neg (by omega)]⟩
 refine wpList_append_lies _ hgd s x 66 ho base 83 i0 _ 2 32 Tryz.underlying66 hi hz0 hz1 hz2 rfl (by omega) v xs.length (encR.cells xs) hs hown' ⟨W.heap.size, 0, none⟩ 1 1 (encR.enc y) hx rfl ?_ oneP (by omega) (by unfold maxLen; omega) ?_ (by simp; omega) _ rfl ?_
 ·intro j u hj
  rw [Addr.add_lit, Nat.zero_add, World.cell?, show (W.alloc (.cells #[.string y.1, .string y.2] 83)).heap[W.heap.size]? = some (.cells (encR.enc y).toArray 83 (0, 0)) from heapAllocNew W _ _]
  simpa using hj
 ·calc (xs.length + 1) * 32 ≤ 100000001 * 64 := Nat.mul_le_mul (by omega) (by omega)
   _ ≤ _ := by omega
 ·intro g' cap w' h1 h2 h3 _
  have hb : Below base W w' := ((Below.refl _ _).alloc hB _).trans ((Below.refl _ _).grown h2 (by simp; omega) (fun j hj => (World.ownsRow.lt hown' j hj).1))
  refine h _ w' ?_ hb ⟨h2.os.trans hal.os, h2.tape.trans hal.tape, h2.output.trans hal.output, Nat.le_trans hal.size h2.size, fun j hj hne => (h2.block j (Nat.lt_of_lt_of_le hj hal.size) hne).trans (hal.block j hj hne)⟩ ?_
  ·have e : encR.cells (xs ++ [y]) = encR.cells xs ++ encR.enc y := by rw [encR.cells_app]; simp [Enc.cells]
   unfold GOwn
   rw [e, List.length_append]
   exact h1
  ·rcases h3 with h3 | h3
   ·exact Or.inl h3.symm
   ·exact Or.inr ⟨g', rfl, by rw [h3]; simp⟩

theorem cellsS (ks : List ByteArray) : encS.cells ks = (ks.map (·.data.toList)).map encStr := by
 induction ks with
 | nil => rfl
 | cons k ks ih =>
  have e : encS.cells (k :: ks) = .string k :: encS.cells ks := rfl
  rw [e, ih, List.map_cons, List.map_cons]
theorem cellsB (l : List (List UInt8)) : encS.cells (l.map fun x => (⟨x.toArray⟩ : ByteArray)) = l.map encStr := by rw [cellsS, map_mk]
theorem sortB_len (ks : List ByteArray) : (sortB ks).length = ks.length := by simp [sortB]

theorem sort95 (ks : List ByteArray) (base : Nat) (v : Value) (w : World) (hn : ks.length ≤ 100000000) (hown : GOwn encS 9 w base v ks) :
  Calls Tryz.prog 84 #[v] w fun e w' => e = .returned (.tuple #[]) ∧ GOwn encS 9 w' base v (sortB ks) ∧ Below base w w' := by
 have h0 := hown
 rcases hown.2 with ⟨rfl, hz⟩ | ⟨g, cap, cur, rfl, hbase, hb, h1, h2, h3, h4⟩
 ·refine (Tryz.slices_Sort_string_none none 0 w).mono ?_
  rintro e w' ⟨rfl, rfl⟩
  have e : ks = [] := List.length_eq_zero_iff.1 hz
  subst e
  exact ⟨rfl, by simpa [sortB] using h0, Below.refl _ _⟩
 ·have hl : (ks.map (·.data.toList)).length = ks.length := by simp
  have h4' : cur.toList.take (ks.map (·.data.toList)).length = (ks.map (·.data.toList)).map encStr := by
   have e : encS.size = 1 := rfl
   rw [e, Nat.mul_one] at h4
   rw [hl, h4, cellsS]
  have hg : g < w.heap.size := (Array.getElem?_eq_some_iff.1 hb).1
  have hc := Tryz.slices_Sort_string g 0 cap (ks.map (·.data.toList)) w (holds_of_block hb h4') hg (by rw [hl]; omega)
  rw [hl] at hc
  refine hc.mono ?_
  rintro e w' ⟨rfl, n, os, rfl⟩
  refine ⟨rfl, ?_, grown_base (grownBy_sorted _) hbase hg⟩
  have ho := ownsRow_sorted (n := n) (os := os) (ts := (ks.map (·.data.toList)).mergeSort fun x y => decide (x ≤ y)) (ss := ks.map (·.data.toList)) (by simp) hbase hb (by rw [hl]; exact h1) h2 h3
  unfold GOwn
  rw [sortB_len]
  unfold sortB
  rw [cellsB]
  rw [hl] at ho
  exact ho

theorem comp96 (ks : List ByteArray) (base : Nat) (v : Value) (w : World) (hn : ks.length ≤ 100000000) (hown : GOwn encS 9 w base v ks) :
  Calls Tryz.prog 85 #[v] w fun e w' => ∃ ao cap, e = .returned (.slice ao (compB ks).length cap) ∧ GRow encS w' ao (compB ks) ∧ Below base w w' := by
 rcases hown.2 with ⟨rfl, hz⟩ | ⟨g, cap, cur, rfl, hbase, hb, h1, h2, h3, h4⟩
 ·refine (Tryz.slices_Compact_string_empty none 0 w).mono ?_
  rintro e w' ⟨rfl, rfl⟩
  have e : ks = [] := List.length_eq_zero_iff.1 hz
  subst e
  exact ⟨none, 0, rfl, GRow.nil _ _, Below.refl _ _⟩
 ·have hl : (ks.map (·.data.toList)).length = ks.length := by simp
  have h4' : cur.toList.take (ks.map (·.data.toList)).length = (ks.map (·.data.toList)).map encStr := by
   have e : encS.size = 1 := rfl
   rw [e, Nat.mul_one] at h4
   rw [hl, h4, cellsS]
  have hg : g < w.heap.size := (Array.getElem?_eq_some_iff.1 hb).1
  have hc := Tryz.slices_Compact_string g 0 cap (ks.map (·.data.toList)) w (holds_of_block hb h4') (by rw [hl]; omega) (by rw [hl]; exact h1)
  have hcl : (Lib.compact (ks.map (·.data.toList))).length ≤ (ks.map (·.data.toList)).length := Lib.compact_length_le _
  have e2 : (compB ks).length = (Lib.compact (ks.map (·.data.toList))).length := by simp [compB]
  rw [hl] at hc
  refine hc.mono ?_
  rintro e w' ⟨rfl, q, rfl⟩
  refine ⟨some ⟨g, 0, none⟩, cap, by rw [e2], ?_, ?_⟩
  ·have ho := ownsRow_sorted (n := q) (os := #[]) (ts := Lib.compact (ks.map (·.data.toList)) ++ List.replicate (ks.length - (Lib.compact (ks.map (·.data.toList))).length) []) (ss := ks.map (·.data.toList)) (by simp at hcl ⊢; omega) hbase hb (by rw [hl]; exact h1) h2 h3
   rw [grow_empty, hl] at ho
   intro _
   refine ⟨g, 0, rfl, by simpa [putRow, mapBlock, Sort.ahead] using hg, fun j hj i hi => ?_⟩
   have hi0 : i = 0 := by have : encS.size = 1 := rfl; omega
   have hsz : encS.size = 1 := rfl
   subst hi0
   rw [hsz, Nat.mul_one, Nat.zero_add, Nat.add_zero, World.ownsRow.cellAt ho j (by rw [Nat.mul_one, ← hl]; omega)]
   rw [List.map_append, List.getElem?_append_left (by simp; omega)]
   have hj2 : j < (Lib.compact (ks.map (·.data.toList))).length := by omega
   simp [compB, encS, hj2]
  ·have hgr := grownBy_sorted (w := w) (g := g) (n := q) (os := #[]) (Lib.compact (ks.map fun b => b.data.toList) ++ List.replicate (ks.length - (Lib.compact (ks.map fun b => b.data.toList)).length) ([] : List UInt8)).toArray
   rw [grow_empty] at hgr
   exact grown_base hgr hbase hg

end Go.Proofs.YtnmggknpllnjiaaGreat

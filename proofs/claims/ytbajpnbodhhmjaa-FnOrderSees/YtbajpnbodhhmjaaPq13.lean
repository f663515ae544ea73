/-
  DERIVED: THE SHELF's CONTRACTS AT THIS DUMP, IN PLAIN WORDS (tools/lay-plain.mjs out of 'TryShelf.lean', which tools/lay-shelf.mjs wrote): THE SAME DECLARATIONS UNDER THE SAME NAMES: 'import', 'namespace', 'open', 'def', 'theorem' AND NOTHING ELSE: no command of the shelf's: FOR A HAND-IN. Each laying: the table of numbers ('.._ren') and one theorem, a field a fact of the dump's own or the kernel's comparison; each contract: ONE APPLICATION.
-/
import Derived.Shelf.Sort.Plain
import Derived.Ground.Names2Prog
import Derived.Shelf.Slices.CompactI
import Derived.Shelf.Slices.CompactS
import Derived.Shelf.Slices.Cells
import Derived.Shelf.Slices.In.SortNone
import Derived.Test.YtbajpnbodhhmjaaProg
import Derived.Test.YtbajpnbodhhmjaaPq12
import Derived.Lib.SlicesCompact
import Derived.Sort.Walk0
import Derived.Test.YtbajpnbodhhmjaaPq04
import Derived.Test.YtbajpnbodhhmjaaPq01
import Derived.Sort.OwnSorted
import Derived.Lib.RowBridge
import Derived.Test.YtbajpnbodhhmjaaPq02
import Derived.Test.YtbajpnbodhhmjaaPq10
namespace Go.Proofs
open Go.Shelf
def Try.lays190_ren : Go.Shelf.Ren := ⟨fun | 190 => 70 | 125 => 76 | 258 => 75 | 128 => 88 | 129 => 89 | 302 => 79 | 303 => 80 | 304 => 81 | 305 => 82 | 306 => 83 | 307 => 84 | 308 => 85 | 309 => 86 | 310 => 87 | 333 => 90 | 329 => 91 | 330 => 92 | 334 => 93 | 335 => 94 | 336 => 95 | 344 => 96 | n => n, fun | 31 => 99 | 9 => 9 | 3 => 3 | 46 => 95 | 0 => 0 | 51 => 131 | 53 => 133 | 4 => 4 | 183 => 123 | 182 => 122 | 131 => 128 | 5 => 5 | 218 => 134 | 222 => 138 | 228 => 140 | 229 => 141 | n => n, fun | n => n⟩
theorem Try.lays190 : Go.Proofs.Lays.n190 Try.prog Try.lays190_ren := {
  mixed := by kernel_rfl
  f125 := Try.func76.trans (congrArg some (by kernel_rfl))
  f128 := Try.func88.trans (congrArg some (by kernel_rfl))
  f129 := Try.func89.trans (congrArg some (by kernel_rfl))
  f190 := Try.func70.trans (congrArg some (by kernel_rfl))
  f258 := Try.func75.trans (congrArg some (by kernel_rfl))
  f302 := Try.func79.trans (congrArg some (by kernel_rfl))
  f303 := Try.func80.trans (congrArg some (by kernel_rfl))
  f304 := Try.func81.trans (congrArg some (by kernel_rfl))
  f305 := Try.func82.trans (congrArg some (by kernel_rfl))
  f306 := Try.func83.trans (congrArg some (by kernel_rfl))
  f307 := Try.func84.trans (congrArg some (by kernel_rfl))
  f308 := Try.func85.trans (congrArg some (by kernel_rfl))
  f309 := Try.func86.trans (congrArg some (by kernel_rfl))
  f310 := Try.func87.trans (congrArg some (by kernel_rfl))
  f329 := Try.func91.trans (congrArg some (by kernel_rfl))
  f330 := Try.func92.trans (congrArg some (by kernel_rfl))
  f333 := Try.func90.trans (congrArg some (by kernel_rfl))
  f334 := Try.func93.trans (congrArg some (by kernel_rfl))
  f335 := Try.func94.trans (congrArg some (by kernel_rfl))
  f336 := Try.func95.trans (congrArg some (by kernel_rfl))
  f344 := Try.func96.trans (congrArg some (by kernel_rfl))
  t0 := Try.underlying0
  a0 := Try.isAgg0
  z0 := Try.sizeOf0
  v0 := Try.zeroValue0
  t3 := Try.underlying3
  a3 := Try.isAgg3
  z3 := Try.sizeOf3
  v3 := Try.zeroValue3
  t4 := Try.underlying4
  a4 := Try.isAgg4
  z4 := Try.sizeOf4
  v4 := Try.zeroValue4
  t5 := Try.underlying5
  a5 := Try.isAgg5
  z5 := Try.sizeOf5
  v5 := Try.zeroValue5
  t9 := Try.underlying9
  a9 := Try.isAgg9
  z9 := Try.sizeOf9
  v9 := Try.zeroValue9
  t31 := Try.underlying99
  a31 := Try.isAgg99
  z31 := Try.sizeOf99
  v31 := Try.zeroValue99
  t46 := Try.underlying95
  a46 := Try.isAgg95
  z46 := Try.sizeOf95
  v46 := Try.zeroValue95
  t51 := Try.underlying131
  a51 := Try.isAgg131
  z51 := Try.sizeOf131
  v51 := Try.zeroValue131
  t53 := Try.underlying133
  a53 := Try.isAgg133
  z53 := Try.sizeOf133
  v53 := Try.zeroValue133
  t131 := Try.underlying128
  a131 := Try.isAgg128
  z131 := Try.sizeOf128
  v131 := Try.zeroValue128
  t182 := Try.underlying122
  a182 := Try.isAgg122
  z182 := Try.sizeOf122
  v182 := Try.zeroValue122
  t183 := Try.underlying123
  a183 := Try.isAgg123
  z183 := Try.sizeOf123
  v183 := Try.zeroValue123
  t218 := Try.underlying134
  a218 := Try.isAgg134
  z218 := Try.sizeOf134
  v218 := Try.zeroValue134
  t222 := Try.underlying138
  a222 := Try.isAgg138
  z222 := Try.sizeOf138
  v222 := Try.zeroValue138
  t228 := Try.underlying140
  a228 := Try.isAgg140
  z228 := Try.sizeOf140
  v228 := Try.zeroValue140
  t229 := Try.underlying141
  a229 := Try.isAgg141
  z229 := Try.sizeOf141
  v229 := Try.zeroValue141 }
open Go.Sort Go.RowKit in
theorem Try.slices_Sort_string (blk off cap : Nat) (ss : List (List UInt8)) (w : World) (hH : Holds encStr w blk off ss.toArray) (hblk : blk < w.heap.size) (hsz : ss.length < 4611686018427387904) :
    Calls Try.prog 70 #[.slice (some ⟨blk, off, none⟩) ss.length cap] w fun e w' =>
      e = .returned (.tuple #[]) ∧ ∃ n os, w' = grow (putRow encStr (Sort.ahead w n) blk off (ss.mergeSort fun x y => decide (x ≤ y)).toArray) os := Any.slices_Sort_string Try.lays190 blk off cap ss w hH hblk hsz
def Try.lays194_ren : Go.Shelf.Ren := ⟨fun | 194 => 71 | n => n, fun | 31 => 99 | 9 => 9 | 3 => 3 | 4 => 4 | 0 => 0 | n => n, fun | n => n⟩
theorem Try.lays194 : Go.Proofs.Lays.n194 Try.prog Try.lays194_ren := {
  mixed := by kernel_rfl
  f194 := Try.func71.trans (congrArg some (by kernel_rfl))
  t0 := Try.underlying0
  a0 := Try.isAgg0
  z0 := Try.sizeOf0
  v0 := Try.zeroValue0
  t3 := Try.underlying3
  a3 := Try.isAgg3
  z3 := Try.sizeOf3
  v3 := Try.zeroValue3
  t4 := Try.underlying4
  a4 := Try.isAgg4
  z4 := Try.sizeOf4
  v4 := Try.zeroValue4
  t9 := Try.underlying9
  a9 := Try.isAgg9
  z9 := Try.sizeOf9
  v9 := Try.zeroValue9
  t31 := Try.underlying99
  a31 := Try.isAgg99
  z31 := Try.sizeOf99
  v31 := Try.zeroValue99 }
open Go.RowKit Go.Lib Go.Sort in
open Go.RowKit Go.Lib Go.Sort in
theorem Try.slices_Compact_string (blk off cap : Nat) (zs : List (List UInt8)) (w : World) (hH : Holds encStr w blk off zs.toArray) (hsz : zs.length ≤ 9223372036854775807) (hcap : zs.length ≤ cap) :
    Calls Try.prog 71 #[.slice (some ⟨blk, off, none⟩) zs.length cap] w fun e w' => e = .returned (.slice (some ⟨blk, off, none⟩) (Lib.compact zs).length cap) ∧ ∃ q, w' = putRow encStr (Sort.ahead w q) blk off (Lib.compact zs ++ List.replicate (zs.length - (Lib.compact zs).length) []).toArray := Any.slices_Compact_string Try.lays194 blk off cap zs w hH hsz hcap
open Go.RowKit Go.Lib Go.Sort in
theorem Try.slices_Compact_string_empty (a : Option Addr) (cap : Nat) (w : World) :
    Calls Try.prog 71 #[.slice a 0 cap] w fun e w' => e = .returned (.slice a 0 cap) ∧ w' = w := Any.slices_Compact_string_empty Try.lays194 a cap w
open Go.RowKit Go.Lib Go.Sort in
open Go.RowKit Go.Sort in
theorem Try.slices_Sort_string_none (p : Option Addr) (cap : Nat) (w : World) :
    Calls Try.prog 70 #[.slice p 0 cap] w fun e w' => e = .returned (.tuple #[]) ∧ w' = w := Any.slices_Sort_string_none Try.lays190 p cap w
end Go.Proofs

namespace Go.Proofs.Ytbajpnbodhhmjaa
namespace VM
open KM
section
variable {α : Type} [Inhabited α] [DecidableEq α]
theorem comp_upto (le : α → α → Bool) (anti : ∀ a b, le a b = true → le b a = true → a = b) (d : Array α) (hs : ∀ i j, i ≤ j → j < d.size → le d[i]! d[j]! = true) :
    ∀ m, m ≤ d.size → (∀ x, x ∈ Lib.compactUpTo d m ↔ ∃ j, j < m ∧ d[j]! = x) ∧ (Lib.compactUpTo d m).Pairwise (fun a b => le a b = true ∧ a ≠ b)
  | 0, _ => by
    refine ⟨fun x => ⟨fun h => by simp [Lib.compactUpTo] at h, fun ⟨j, hj, _⟩ => by omega⟩, by simp [Lib.compactUpTo]⟩
  | m + 1, hm => by
    obtain ⟨h1, h2⟩ := comp_upto le anti d hs m (by omega)
    rw [Lib.compactUpTo_succ]
    cases hk : Lib.keeps d m
    · have hk' : ¬ (m = 0 ∨ d[m]! ≠ d[m - 1]!) := by simpa [Lib.keeps] using hk
      have e : d[m]! = d[m - 1]! := by
        apply Classical.byContradiction
        intro h; exact hk' (Or.inr h)
      have hm0 : m ≠ 0 := fun h => hk' (Or.inl h)
      simp only [Bool.false_eq_true, if_false, List.append_nil]
      refine ⟨fun x => ?_, h2⟩
      rw [h1 x]
      constructor
      · rintro ⟨j, hj, rfl⟩; exact ⟨j, by omega, rfl⟩
      · rintro ⟨j, hj, rfl⟩
        by_cases ej : j = m
        · subst ej; exact ⟨j - 1, by omega, e.symm⟩
        · exact ⟨j, by omega, rfl⟩
    · have hk' : m = 0 ∨ d[m]! ≠ d[m - 1]! := by simpa [Lib.keeps] using hk
      simp only [if_true]
      refine ⟨fun x => ?_, ?_⟩
      · rw [List.mem_append, h1 x, List.mem_singleton]
        constructor
        · rintro (⟨j, hj, rfl⟩ | rfl)
          · exact ⟨j, by omega, rfl⟩
          · exact ⟨m, by omega, rfl⟩
        · rintro ⟨j, hj, rfl⟩
          by_cases ej : j = m
          · subst ej; exact Or.inr rfl
          · exact Or.inl ⟨j, by omega, rfl⟩
      · rw [List.pairwise_append]
        refine ⟨h2, by simp, fun x hx y hy => ?_⟩
        rw [List.mem_singleton.1 hy]
        obtain ⟨j, hj, rfl⟩ := (h1 x).1 hx
        refine ⟨hs j m (by omega) (by omega), fun e => ?_⟩
        rcases hk' with h0 | hne
        · omega
        · apply hne
          exact anti _ _ (by rw [← e]; exact hs j (m - 1) (by omega) (by omega)) (hs (m - 1) m (by omega) (by omega))
theorem comp_all (le : α → α → Bool) (refl : ∀ a, le a a = true) (anti : ∀ a b, le a b = true → le b a = true → a = b) (xs : List α) (hs : xs.Pairwise (fun a b => le a b = true)) :
    (∀ x, x ∈ Lib.compact xs ↔ x ∈ xs) ∧ (Lib.compact xs).Pairwise (fun a b => le a b = true ∧ a ≠ b) := by
  have hp := List.pairwise_iff_getElem.1 hs
  have h := comp_upto le anti xs.toArray (fun i j hij hj => by
    have hj' : j < xs.length := by simpa using hj
    by_cases e : i = j
    · subst e; exact refl _
    · have := hp i j (by omega) hj' (by omega)
      rw [getElem!_pos _ i (by simp; omega), getElem!_pos _ j (by simp; omega)]
      simpa using this) xs.length (by simp)
  refine ⟨fun x => ?_, h.2⟩
  show x ∈ Lib.compactUpTo xs.toArray xs.length ↔ _
  rw [h.1 x]
  constructor
  · rintro ⟨j, hj, rfl⟩
    rw [getElem!_pos _ j (by simpa using hj)]
    simp
  · intro hx
    obtain ⟨j, hj, rfl⟩ := List.getElem_of_mem hx
    exact ⟨j, hj, by rw [getElem!_pos _ j (by simpa using hj)]; simp⟩
theorem asc_ext {β : Type} {R : β → β → Prop} (irr : ∀ a, ¬ R a a) (tr : ∀ a b c, R a b → R b c → R a c) : ∀ l1 l2 : List β, l1.Pairwise R → l2.Pairwise R → (∀ x, x ∈ l1 ↔ x ∈ l2) → l1 = l2
  | [], [], _, _, _ => rfl
  | [], b :: _, _, _, h => by have := (h b).2 (by simp); simp at this
  | a :: _, [], _, _, h => by have := (h a).1 (by simp); simp at this
  | a :: l, b :: m, h1, h2, h => by
    rw [List.pairwise_cons] at h1 h2
    by_cases e : a = b
    · subst e
      congr 1
      refine asc_ext irr tr l m h1.2 h2.2 (fun x => ⟨fun hx => ?_, fun hx => ?_⟩)
      · rcases List.mem_cons.1 ((h x).1 (by simp [hx])) with rfl | hm
        · exact absurd (h1.1 _ hx) (irr _)
        · exact hm
      · rcases List.mem_cons.1 ((h x).2 (by simp [hx])) with rfl | hm
        · exact absurd (h2.1 _ hx) (irr _)
        · exact hm
    · exfalso
      have ha : a ∈ m := by
        rcases List.mem_cons.1 ((h a).1 (by simp)) with h' | h'
        · exact absurd h' e
        · exact h'
      have hb : b ∈ l := by
        rcases List.mem_cons.1 ((h b).2 (by simp)) with h' | h'
        · exact absurd h'.symm e
        · exact h'
      exact irr a (tr _ _ _ (h1.1 b hb) (h2.1 a ha))
end

theorem ba_eta (b : ByteArray) : (⟨b.data.toList.toArray⟩ : ByteArray) = b := by
  obtain ⟨⟨l⟩⟩ := b
  rfl
theorem lt_iff (a b : ByteArray) : lt a b = true ↔ a.data.toList < b.data.toList := by
  unfold lt
  rw [bytesLess_eq, toList_data, toList_data, decide_eq_true_eq]
theorem lt_irr (a : ByteArray) : ¬ lt a a = true := by unfold lt; rw [less_irrefl]; simp
theorem lt_tr (a b c : ByteArray) (h1 : lt a b = true) (h2 : lt b c = true) : lt a c = true := by
  rw [lt_iff] at *
  exact List.lt_trans h1 h2
theorem lt_total {a b : ByteArray} (h : a ≠ b) : lt a b = true ∨ lt b a = true := by
  cases h1 : lt a b
  · exact Or.inr (less_total _ _ h1 (fun e => h (toList_inj e)))
  · exact Or.inl rfl
def sortB (ks : List ByteArray) : List ByteArray := ((ks.map (·.data.toList)).mergeSort fun x y => decide (x ≤ y)).map fun l => ⟨l.toArray⟩
def compB (ks : List ByteArray) : List ByteArray := (Lib.compact (ks.map (·.data.toList))).map fun l => ⟨l.toArray⟩
def keysB (ks : List ByteArray) : List ByteArray := compB (sortB ks)
theorem map_mk (l : List (List UInt8)) : (l.map fun x => (⟨x.toArray⟩ : ByteArray)).map (·.data.toList) = l := by
  rw [List.map_map]
  conv => rhs; rw [← List.map_id l]
  rfl
theorem keys_spec (ks : List ByteArray) : (∀ x, x ∈ keysB ks ↔ x ∈ ks) ∧ (keysB ks).Pairwise (fun a b => lt a b = true) := by
  have hsorted : ((ks.map (·.data.toList)).mergeSort fun x y => decide (x ≤ y)).Pairwise (fun a b => decide (a ≤ b) = true) :=
    List.pairwise_mergeSort (fun a b c h1 h2 => by simp at *; exact List.le_trans h1 h2) (fun a b => by simp; exact List.le_total a b) _
  have h := comp_all (fun a b : List UInt8 => decide (a ≤ b)) (fun a => by simp) (fun a b h1 h2 => by simp at *; exact List.le_antisymm h1 h2) _ hsorted
  unfold keysB compB sortB
  rw [map_mk]
  refine ⟨fun x => ?_, ?_⟩
  · rw [List.mem_map]
    constructor
    · rintro ⟨l, hl, rfl⟩
      have := (h.1 l).1 hl
      rw [List.mem_mergeSort] at this
      obtain ⟨b, hb, rfl⟩ := List.mem_map.1 this
      rw [ba_eta]; exact hb
    · intro hx
      refine ⟨x.data.toList, (h.1 _).2 ?_, ba_eta x⟩
      rw [List.mem_mergeSort]
      exact List.mem_map.2 ⟨x, hx, rfl⟩
  · rw [List.pairwise_map]
    refine h.2.imp ?_
    intro a b hab
    rw [lt_iff]
    have h1 : a ≤ b := by simpa using hab.1
    show a < b
    have h3 : ((⟨a.toArray⟩ : ByteArray)) ≠ ⟨b.toArray⟩ := fun e => hab.2 (by have := congrArg (fun z : ByteArray => z.data.toList) e; simpa using this)
    rcases lt_total h3 with h4 | h4
    · exact (lt_iff _ _).1 h4
    · exact absurd ((lt_iff _ _).1 h4) h1
def scanF (vs : List Vr) (r : Rg) (s : Int) (k : ByteArray) : Option Rg := if inB r k = true then (seenB vs k s).map fun v => (k, v) else none
def scanB (vs : List Vr) (r : Rg) (s : Int) : List Rg := (keysB (vs.map (·.1))).filterMap (scanF vs r s)
end VM
end Go.Proofs.Ytbajpnbodhhmjaa

namespace Go.Proofs.Ytbajpnbodhhmjaa
open Go.RowKit
open KM
open VM Go.Sort
attribute [local go_sem ↓] Go.wp_at_zero Go.wp_at_succ

theorem stepAppP {ops : Array Oper} {o : Oper} {a : Act} {K : Act → World → Prop} {Q : Exit → Act → World → Prop} {E : Prop} (hgd : o.guard = none) (s x : Operand) (ho : o.op = .call { callee := .builtin .append, args := #[s, x], argTypes := #[64, 64] })
    {W : World} {base g : Nat} {v : Value} {xs : List Rg} (y : Rg) (hs : a.eval s = v) (hown : GOwn encR 66 W base v xs)
    (hx : a.eval x = .slice (some ⟨g, 0, none⟩) 1 1) (hblk : W.heap[g]? = some (.cells (encR.enc y).toArray 66 (0, 0))) (hlen : xs.length ≤ 100000000) (hB : base ≤ W.heap.size)
    (h : ∀ v' w', GOwn encR 66 w' base v' (xs ++ [y]) → Below base W w' → K (a.put o.dst v') w') :
    if Region.wanted o (yielded ops a.tmps) = true then Oper.wp Try.prog o a W K Q else E := by
  refine stepAppG 64 66 2 32 _ Try.underlying64 Try.info66 rfl (by omega) (by omega) hgd s x ho (encR.enc y) hs hown hx hblk rfl oneP (by omega) hB ?_
  intro g' cap w' h1 h2
  refine h _ w' ?_ h2
  have e : encR.cells (xs ++ [y]) = encR.cells xs ++ encR.enc y := by rw [encR.cells_app]; simp [Enc.cells]
  unfold GOwn
  rw [e, List.length_append]
  exact h1

theorem stepAppKV {ops : Array Oper} {o : Oper} {a : Act} {K : Act → World → Prop} {Q : Exit → Act → World → Prop} {E : Prop} (hgd : o.guard = none) (s x : Operand) (ho : o.op = .call { callee := .builtin .append, args := #[s, x], argTypes := #[45, 45] })
    {W : World} {base g : Nat} {v : Value} {xs : List Vr} (y : Vr) (hs : a.eval s = v) (hown : GOwn encV 86 W base v xs)
    (hx : a.eval x = .slice (some ⟨g, 0, none⟩) 1 1) (hblk : W.heap[g]? = some (.cells (encV.enc y).toArray 86 (0, 0))) (hlen : xs.length ≤ 100000000) (hB : base ≤ W.heap.size)
    (h : ∀ v' w', GOwn encV 86 w' base v' (xs ++ [y]) → Below base W w' → W.grownBy w' v.ownBlock → K (a.put o.dst v') w') :
    if Region.wanted o (yielded ops a.tmps) = true then Oper.wp Try.prog o a W K Q else E := by
  obtain ⟨i0, hi, hz0, hz1, hz2⟩ := info_parts Try.info86
  refine step_append_lies _ hgd s x 45 ho base 86 i0 _ 4 48 Try.underlying45 hi hz0 hz1 hz2 rfl (by omega) v xs.length (encV.cells xs) hs hown ⟨g, 0, none⟩ 1 1 (encV.enc y) hx rfl ?_ oneV (by omega) (by unfold maxLen; omega) ?_ hB _ rfl ?_
  · intro j u hj
    rw [Addr.add_lit, Nat.zero_add, World.cell?, hblk]
    simpa using hj
  · calc (xs.length + 1) * 48 ≤ 100000001 * 64 := Nat.mul_le_mul (by omega) (by omega)
      _ ≤ _ := by omega
  · intro g' cap w' h1 h2 _ _
    refine h _ w' ?_ ((Below.refl _ _).grown h2 hB (fun j hj => (World.ownsRow.lt hown j hj).1)) h2
    have e : encV.cells (xs ++ [y]) = encV.cells xs ++ encV.enc y := by rw [encV.cells_app]; simp [Enc.cells]
    unfold GOwn
    rw [e, List.length_append]
    exact h1

theorem cellsS (ks : List ByteArray) : encS.cells ks = (ks.map (·.data.toList)).map encStr := by
  induction ks with
  | nil => rfl
  | cons k ks ih =>
    have e : encS.cells (k :: ks) = .string k :: encS.cells ks := rfl
    rw [e, ih, List.map_cons, List.map_cons]
theorem cellsB (l : List (List UInt8)) : encS.cells (l.map fun x => (⟨x.toArray⟩ : ByteArray)) = l.map encStr := by rw [cellsS, map_mk]
theorem sortB_len (ks : List ByteArray) : (sortB ks).length = ks.length := by simp [sortB]

theorem sort95 (ks : List ByteArray) (base : Nat) (v : Value) (w : World) (hn : ks.length ≤ 100000000) (hown : GOwn encS 9 w base v ks) :
    Calls Try.prog 70 #[v] w fun e w' => e = .returned (.tuple #[]) ∧ GOwn encS 9 w' base v (sortB ks) ∧ Below base w w' := by
  have h0 := hown
  rcases hown.2 with ⟨rfl, hz⟩ | ⟨g, cap, cur, rfl, hbase, hb, h1, h2, h3, h4⟩
  · refine (Try.slices_Sort_string_none none 0 w).mono ?_
    rintro e w' ⟨rfl, rfl⟩
    have e : ks = [] := List.length_eq_zero_iff.1 hz
    subst e
    exact ⟨rfl, by simpa [sortB] using h0, Below.refl _ _⟩
  · have hl : (ks.map (·.data.toList)).length = ks.length := by simp
    have h4' : cur.toList.take (ks.map (·.data.toList)).length = (ks.map (·.data.toList)).map encStr := by
      have e : encS.size = 1 := rfl
      rw [e, Nat.mul_one] at h4
      rw [hl, h4, cellsS]
    have hg : g < w.heap.size := (Array.getElem?_eq_some_iff.1 hb).1
    have hc := Try.slices_Sort_string g 0 cap (ks.map (·.data.toList)) w (holds_of_block hb h4') hg (by rw [hl]; omega)
    rw [hl] at hc
    refine hc.mono ?_
    rintro e w' ⟨rfl, n, os, rfl⟩
    refine ⟨rfl, ?_, grown_base (grownBy_sorted _) hbase hg⟩
    have ho := ownsRow_sorted (n := n) (os := os) (ts := (ks.map (·.data.toList)).mergeSort fun x y => decide (x ≤ y)) (ss := ks.map (·.data.toList)) (by simp) hbase hb (by rw [hl]; exact h1) h2 h3
    unfold GOwn
    rw [sortB_len]
    unfold sortB
    rw [cellsB]
    rw [hl] at ho
    exact ho

theorem comp96 (ks : List ByteArray) (base : Nat) (v : Value) (w : World) (hn : ks.length ≤ 100000000) (hown : GOwn encS 9 w base v ks) :
    Calls Try.prog 71 #[v] w fun e w' => ∃ ao cap, e = .returned (.slice ao (compB ks).length cap) ∧ GRow encS w' ao (compB ks) ∧ Below base w w' := by
  rcases hown.2 with ⟨rfl, hz⟩ | ⟨g, cap, cur, rfl, hbase, hb, h1, h2, h3, h4⟩
  · refine (Try.slices_Compact_string_empty none 0 w).mono ?_
    rintro e w' ⟨rfl, rfl⟩
    have e : ks = [] := List.length_eq_zero_iff.1 hz
    subst e
    exact ⟨none, 0, rfl, GRow.nil _ _, Below.refl _ _⟩
  · have hl : (ks.map (·.data.toList)).length = ks.length := by simp
    have h4' : cur.toList.take (ks.map (·.data.toList)).length = (ks.map (·.data.toList)).map encStr := by
      have e : encS.size = 1 := rfl
      rw [e, Nat.mul_one] at h4
      rw [hl, h4, cellsS]
    have hg : g < w.heap.size := (Array.getElem?_eq_some_iff.1 hb).1
    have hc := Try.slices_Compact_string g 0 cap (ks.map (·.data.toList)) w (holds_of_block hb h4') (by rw [hl]; omega) (by rw [hl]; exact h1)
    have hcl : (Lib.compact (ks.map (·.data.toList))).length ≤ (ks.map (·.data.toList)).length := Lib.compact_length_le _
    have e2 : (compB ks).length = (Lib.compact (ks.map (·.data.toList))).length := by simp [compB]
    rw [hl] at hc
    refine hc.mono ?_
    rintro e w' ⟨rfl, q, rfl⟩
    refine ⟨some ⟨g, 0, none⟩, cap, by rw [e2], ?_, ?_⟩
    · have ho := ownsRow_sorted (n := q) (os := #[]) (ts := Lib.compact (ks.map (·.data.toList)) ++ List.replicate (ks.length - (Lib.compact (ks.map (·.data.toList))).length) []) (ss := ks.map (·.data.toList)) (by simp at hcl ⊢; omega) hbase hb (by rw [hl]; exact h1) h2 h3
      rw [grow_empty, hl] at ho
      intro _
      refine ⟨g, 0, rfl, by simpa [putRow, mapBlock, Sort.ahead] using hg, fun j hj i hi => ?_⟩
      have hi0 : i = 0 := by have : encS.size = 1 := rfl; omega
      have hsz : encS.size = 1 := rfl
      subst hi0
      rw [hsz, Nat.mul_one, Nat.zero_add, Nat.add_zero, World.ownsRow.cellAt ho j (by rw [Nat.mul_one, ← hl]; omega)]
      rw [List.map_append, List.getElem?_append_left (by simp; omega)]
      have hj2 : j < (Lib.compact (ks.map (·.data.toList))).length := by omega
      simp [compB, encS, hj2]
    · have hgr := grownBy_sorted (w := w) (g := g) (n := q) (os := #[]) (Lib.compact (ks.map fun b => b.data.toList) ++ List.replicate (ks.length - (Lib.compact (ks.map fun b => b.data.toList)).length) ([] : List UInt8)).toArray
      rw [grow_empty] at hgr
      exact grown_base hgr hbase hg

end Go.Proofs.Ytbajpnbodhhmjaa

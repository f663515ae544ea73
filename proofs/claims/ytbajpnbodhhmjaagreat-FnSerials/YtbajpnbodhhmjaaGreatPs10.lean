/- Versions: which is the last one; no Go. -/
import Derived.Test.YtbajpnbodhhmjaaGreatPs09
import Derived.Test.YtbajpnbodhhmjaaGreatPs01
import Derived.Shelf.Sort.Plain
import Derived.Ground.Names2Prog
import Derived.Shelf.Slices.CompactI
import Derived.Shelf.Slices.CompactS
import Derived.Shelf.Slices.Cells
import Derived.Shelf.Slices.In.SortNone
import Derived.Test.YtbajpnbodhhmjaaGreatProg
import Derived.Lib.SlicesCompact
import Derived.Sort.Walk0
import Derived.Test.YtbajpnbodhhmjaaGreatPs03
import Derived.Sort.OwnSorted
import Derived.Lib.RowBridge
import Derived.Test.YtbajpnbodhhmjaaGreatPs08
namespace Go.Proofs.YtbajpnbodhhmjaaGreat
namespace VM
open KM
def isOf (k : ByteArray) (s : Int) (v : Vr) : Bool := decide (v.1 = k) && decide (v.2.2.2 ≤ s)
def more (a : Option Nd) (n : Nd) : Bool := match a with
 | none => true
 | some m => decide (m.2.2.2.2 < n.2.2.2.2)
def stp (k : ByteArray) (s : Int) (a : Option Nd) (n : Nd) : Option Nd := if (isOf k s n.2 && more a n) = true then some n else a
def lst (k : ByteArray) (s : Int) (ns : List Nd) : Option Nd := ns.foldl (stp k s) none
theorem lst_snoc (k : ByteArray) (s : Int) (A : List Nd) (n : Nd) : lst k s (A ++ [n]) = stp k s (lst k s A) n := by simp [lst, List.foldl_append]
def GoodL (k : ByteArray) (s : Int) (A : List Nd) (n : Nd) (B : List Nd) : Prop :=
 isOf k s n.2 = true ∧ (∀ m ∈ A, isOf k s m.2 = true → m.2.2.2.2 < n.2.2.2.2) ∧ (∀ m ∈ B, isOf k s m.2 = true → m.2.2.2.2 ≤ n.2.2.2.2)
def Told (k : ByteArray) (s : Int) (P : List Nd) (a : Option Nd) : Prop := match a with
 | none => ∀ m ∈ P, isOf k s m.2 = false
 | some x => ∃ A B, P = A ++ x :: B ∧ GoodL k s A x B
theorem told_snoc {k : ByteArray} {s : Int} {P : List Nd} {a : Option Nd} (n : Nd) (h : Told k s P a) : Told k s (P ++ [n]) (stp k s a n) := by
 unfold stp
 cases hi : isOf k s n.2
 ·simp only [Bool.false_and, Bool.false_eq_true, if_false]
  cases a with
  | none =>
   intro m hm
   rcases List.mem_append.1 hm with hm | hm
   ·exact h m hm
   ·rw [List.mem_singleton.1 hm]; exact hi
  | some x =>
   obtain ⟨A, B, rfl, g1, g2, g3⟩ := h
   refine ⟨A, B ++ [n], by simp, g1, g2, fun m hm ho => ?_⟩
   rcases List.mem_append.1 hm with hm | hm
   ·exact g3 m hm ho
   ·rw [List.mem_singleton.1 hm, hi] at ho; cases ho
 ·simp only [Bool.true_and]
  cases a with
  | none =>
   simp only [more, if_true]
   refine ⟨P, [], by simp, hi, fun m hm ho => ?_, fun m hm => by simp at hm⟩
   have := h m hm
   rw [this] at ho; cases ho
  | some x =>
   obtain ⟨A, B, rfl, g1, g2, g3⟩ := h
   simp only [more, decide_eq_true_eq]
   split
   ·rename_i hlt
    refine ⟨A ++ x :: B, [], by simp, hi, fun m hm ho => ?_, fun m hm => by simp at hm⟩
    rcases List.mem_append.1 hm with hm | hm
    ·have := g2 m hm ho; omega
    ·rcases List.mem_cons.1 hm with rfl | hm
     ·exact hlt
     ·have := g3 m hm ho; omega
   ·rename_i hlt
    refine ⟨A, B ++ [n], by simp, g1, g2, fun m hm ho => ?_⟩
    rcases List.mem_append.1 hm with hm | hm
    ·exact g3 m hm ho
    ·rw [List.mem_singleton.1 hm]; omega
theorem told_more {k : ByteArray} {s : Int} : ∀ (l P : List Nd) (a : Option Nd), Told k s P a → Told k s (P ++ l) (l.foldl (stp k s) a)
 | [], P, a, h => by simpa using h
 | n :: l, P, a, h => by
  have := told_more l (P ++ [n]) _ (told_snoc n h)
  simpa using this
theorem told (k : ByteArray) (s : Int) (P : List Nd) : Told k s P (lst k s P) := by
 have := told_more (k := k) (s := s) P [] none (fun m hm => by simp at hm)
 simpa [lst] using this
theorem lst_mem {k : ByteArray} {s : Int} {P : List Nd} {x : Nd} (h : lst k s P = some x) : x ∈ P ∧ isOf k s x.2 = true := by
 have := told k s P
 rw [h] at this
 obtain ⟨A, B, rfl, g⟩ := this
 exact ⟨by simp, g.1⟩
theorem stay {k : ByteArray} {s : Int} {n : Nd} : ∀ B : List Nd, (∀ m ∈ B, isOf k s m.2 = true → m.2.2.2.2 ≤ n.2.2.2.2) → B.foldl (stp k s) (some n) = some n
 | [], _ => rfl
 | m :: B, h => by
  have e : stp k s (some n) m = some n := by
   unfold stp
   rw [if_neg]
   simp only [more, Bool.and_eq_true, decide_eq_true_eq, not_and]
   intro ho
   have := h m (by simp) ho
   omega
  rw [List.foldl_cons, e]
  exact stay B (fun m' hm => h m' (by simp [hm]))
theorem lst_of {k : ByteArray} {s : Int} {A B : List Nd} {n : Nd} (h : GoodL k s A n B) : lst k s (A ++ n :: B) = some n := by
 have e : stp k s (lst k s A) n = some n := by
  unfold stp
  rw [if_pos]
  rw [h.1, Bool.true_and]
  cases hl : lst k s A with
  | none => rfl
  | some x => obtain ⟨hm, ho⟩ := lst_mem hl; simpa [more] using h.2.1 x hm ho
 unfold lst at e ⊢
 rw [List.foldl_append, List.foldl_cons, e]
 exact stay B h.2.2
theorem fold_snd (k : ByteArray) (s : Int) : ∀ (P Q : List Nd) (a b : Option Nd), P.map (·.2) = Q.map (·.2) → a.map (·.2) = b.map (·.2) → (P.foldl (stp k s) a).map (·.2) = (Q.foldl (stp k s) b).map (·.2)
 | [], [], _, _, _, h => h
 | [], _ :: _, _, _, h, _ => by simp at h
 | _ :: _, [], _, _, h, _ => by simp at h
 | n :: P, m :: Q, a, b, h, hab => by
  simp only [List.map_cons, List.cons.injEq] at h
  refine fold_snd k s P Q _ _ h.2 ?_
  have e : more a n = more b m := by
   cases a <;> cases b <;> simp_all [more]
  unfold stp
  rw [h.1, e]
  split
  ·simp [h.1]
  ·exact hab
theorem lst_snd {k : ByteArray} {s : Int} {P Q : List Nd} (h : P.map (·.2) = Q.map (·.2)) : (lst k s P).map (·.2) = (lst k s Q).map (·.2) := fold_snd k s P Q none none h rfl

def seenV (vs : List Vr) (k : ByteArray) (s : Int) : Option Vr := (lst k s (vs.map fun v => (0, v))).map (·.2)
theorem seenV_of {k : ByteArray} {s : Int} {ns : List Nd} {vs : List Vr} (h : ns.map (·.2) = vs) : (lst k s ns).map (·.2) = seenV vs k s := lst_snd (by rw [h]; simp [Function.comp_def])
def seenB (vs : List Vr) (k : ByteArray) (s : Int) : Option ByteArray := match seenV vs k s with
 | none => none
 | some v => if v.2.2.1 = true then none else some v.2.1
def lab (vs : List Vr) : Nat → List Nd
 | 0 => []
 | n + 1 => lab vs n ++ (match vs[n]? with
  | some v => [(n, v)]
  | none => [])
theorem lab_succ {vs : List Vr} {n : Nat} (h : n < vs.length) : lab vs (n + 1) = lab vs n ++ [(n, vs[n])] := by
 simp only [lab, List.getElem?_eq_getElem h]
theorem lab_snd (vs : List Vr) : ∀ n, (lab vs n).map (·.2) = vs.take n
 | 0 => by simp [lab]
 | n + 1 => by
  by_cases h : n < vs.length
  ·rw [lab_succ h, List.map_append, lab_snd vs n, List.take_succ_eq_append_getElem h]; rfl
  ·simp only [lab]
   rw [List.getElem?_eq_none (by omega), List.append_nil, lab_snd vs n, List.take_of_length_le (by omega), List.take_of_length_le (by omega)]
theorem lab_mem {vs : List Vr} {x : Nd} : ∀ {n : Nat}, x ∈ lab vs n → x.1 < n ∧ vs[x.1]? = some x.2
 | 0, h => by simp [lab] at h
 | n + 1, h => by
  simp only [lab, List.mem_append] at h
  rcases h with h | h
  ·have := lab_mem h; exact ⟨by omega, this.2⟩
  ·cases e : vs[n]? with
   | none => rw [e] at h; simp at h
   | some v => rw [e] at h; rw [List.mem_singleton.1 h]; exact ⟨by simp, e⟩
theorem lab_all (vs : List Vr) : (lab vs vs.length).map (·.2) = vs := by rw [lab_snd, List.take_length]
def atI (o : Option Nd) : Int := match o with
 | none => -1
 | some n => n.1
end VM
end Go.Proofs.YtbajpnbodhhmjaaGreat

namespace Go.Proofs
open Go.Shelf
def Tryz.lays190_ren : Go.Shelf.Ren := ⟨fun | 190 => 93 | 125 => 98 | 258 => 97 | 128 => 109 | 129 => 110 | 302 => 100 | 303 => 101 | 304 => 102 | 305 => 103 | 306 => 104 | 307 => 105 | 308 => 106 | 309 => 107 | 310 => 108 | 333 => 111 | 329 => 112 | 330 => 113 | 334 => 114 | 335 => 115 | 336 => 116 | 344 => 117 | n => n, fun | 31 => 77 | 9 => 9 | 3 => 3 | 46 => 117 | 0 => 0 | 51 => 145 | 53 => 147 | 4 => 4 | 183 => 137 | 182 => 136 | 131 => 142 | 5 => 5 | 218 => 148 | 222 => 152 | 228 => 154 | 229 => 155 | n => n, fun | n => n⟩
theorem Tryz.lays190 : Go.Proofs.Lays.n190 Tryz.prog Tryz.lays190_ren := {
 mixed := by kernel_rfl
 f125 := Tryz.func98.trans (congrArg some (by kernel_rfl))
 f128 := Tryz.func109.trans (congrArg some (by kernel_rfl))
 f129 := Tryz.func110.trans (congrArg some (by kernel_rfl))
 f190 := Tryz.func93.trans (congrArg some (by kernel_rfl))
 f258 := Tryz.func97.trans (congrArg some (by kernel_rfl))
 f302 := Tryz.func100.trans (congrArg some (by kernel_rfl))
 f303 := Tryz.func101.trans (congrArg some (by kernel_rfl))
 f304 := Tryz.func102.trans (congrArg some (by kernel_rfl))
 f305 := Tryz.func103.trans (congrArg some (by kernel_rfl))
 f306 := Tryz.func104.trans (congrArg some (by kernel_rfl))
 f307 := Tryz.func105.trans (congrArg some (by kernel_rfl))
 f308 := Tryz.func106.trans (congrArg some (by kernel_rfl))
 f309 := Tryz.func107.trans (congrArg some (by kernel_rfl))
 f310 := Tryz.func108.trans (congrArg some (by kernel_rfl))
 f329 := Tryz.func112.trans (congrArg some (by kernel_rfl))
 f330 := Tryz.func113.trans (congrArg some (by kernel_rfl))
 f333 := Tryz.func111.trans (congrArg some (by kernel_rfl))
 f334 := Tryz.func114.trans (congrArg some (by kernel_rfl))
 f335 := Tryz.func115.trans (congrArg some (by kernel_rfl))
 f336 := Tryz.func116.trans (congrArg some (by kernel_rfl))
 f344 := Tryz.func117.trans (congrArg some (by kernel_rfl))
 t0 := Tryz.underlying0
 a0 := Tryz.isAgg0
 z0 := Tryz.sizeOf0
 v0 := Tryz.zeroValue0
 t3 := Tryz.underlying3
 a3 := Tryz.isAgg3
 z3 := Tryz.sizeOf3
 v3 := Tryz.zeroValue3
 t4 := Tryz.underlying4
 a4 := Tryz.isAgg4
 z4 := Tryz.sizeOf4
 v4 := Tryz.zeroValue4
 t5 := Tryz.underlying5
 a5 := Tryz.isAgg5
 z5 := Tryz.sizeOf5
 v5 := Tryz.zeroValue5
 t9 := Tryz.underlying9
 a9 := Tryz.isAgg9
 z9 := Tryz.sizeOf9
 v9 := Tryz.zeroValue9
 t31 := Tryz.underlying77
 a31 := Tryz.isAgg77
 z31 := Tryz.sizeOf77
 v31 := Tryz.zeroValue77
 t46 := Tryz.underlying117
 a46 := Tryz.isAgg117
 z46 := Tryz.sizeOf117
 v46 := Tryz.zeroValue117
 t51 := Tryz.underlying145
 a51 := Tryz.isAgg145
 z51 := Tryz.sizeOf145
 v51 := Tryz.zeroValue145
 t53 := Tryz.underlying147
 a53 := Tryz.isAgg147
 z53 := Tryz.sizeOf147
 v53 := Tryz.zeroValue147
 t131 := Tryz.underlying142
 a131 := Tryz.isAgg142
 z131 := Tryz.sizeOf142
 v131 := Tryz.zeroValue142
 t182 := Tryz.underlying136
 a182 := Tryz.isAgg136
 z182 := Tryz.sizeOf136
 v182 := Tryz.zeroValue136
 t183 := Tryz.underlying137
 a183 := Tryz.isAgg137
 z183 := Tryz.sizeOf137
 v183 := Tryz.zeroValue137
 t218 := Tryz.underlying148
 a218 := Tryz.isAgg148
 z218 := Tryz.sizeOf148
 v218 := Tryz.zeroValue148
 t222 := Tryz.underlying152
 a222 := Tryz.isAgg152
 z222 := Tryz.sizeOf152
 v222 := Tryz.zeroValue152
 t228 := Tryz.underlying154
 a228 := Tryz.isAgg154
 z228 := Tryz.sizeOf154
 v228 := Tryz.zeroValue154
 t229 := Tryz.underlying155
 a229 := Tryz.isAgg155
 z229 := Tryz.sizeOf155
 v229 := Tryz.zeroValue155 }
open Go.Sort Go.RowKit in
theorem Tryz.slices_Sort_string (blk off cap : Nat) (ss : List (List UInt8)) (w : World) (hH : Holds encStr w blk off ss.toArray) (hblk : blk < w.heap.size) (hsz : ss.length < 4611686018427387904) :
  Calls Tryz.prog 93 #[.slice (some ⟨blk, off, none⟩) ss.length cap] w fun e w' =>
   e = .returned (.tuple #[]) ∧ ∃ n os, w' = grow (putRow encStr (Sort.ahead w n) blk off (ss.mergeSort fun x y => decide (x ≤ y)).toArray) os := Any.slices_Sort_string Tryz.lays190 blk off cap ss w hH hblk hsz
def Tryz.lays194_ren : Go.Shelf.Ren := ⟨fun | 194 => 94 | n => n, fun | 31 => 77 | 9 => 9 | 3 => 3 | 4 => 4 | 0 => 0 | n => n, fun | n => n⟩
theorem Tryz.lays194 : Go.Proofs.Lays.n194 Tryz.prog Tryz.lays194_ren := {
 mixed := by kernel_rfl
 f194 := Tryz.func94.trans (congrArg some (by kernel_rfl))
 t0 := Tryz.underlying0
 a0 := Tryz.isAgg0
 z0 := Tryz.sizeOf0
 v0 := Tryz.zeroValue0
 t3 := Tryz.underlying3
 a3 := Tryz.isAgg3
 z3 := Tryz.sizeOf3
 v3 := Tryz.zeroValue3
 t4 := Tryz.underlying4
 a4 := Tryz.isAgg4
 z4 := Tryz.sizeOf4
 v4 := Tryz.zeroValue4
 t9 := Tryz.underlying9
 a9 := Tryz.isAgg9
 z9 := Tryz.sizeOf9
 v9 := Tryz.zeroValue9
 t31 := Tryz.underlying77
 a31 := Tryz.isAgg77
 z31 := Tryz.sizeOf77
 v31 := Tryz.zeroValue77 }
open Go.RowKit Go.Lib Go.Sort in
open Go.RowKit Go.Lib Go.Sort in
theorem Tryz.slices_Compact_string (blk off cap : Nat) (zs : List (List UInt8)) (w : World) (hH : Holds encStr w blk off zs.toArray) (hsz : zs.length ≤ 9223372036854775807) (hcap : zs.length ≤ cap) :
  Calls Tryz.prog 94 #[.slice (some ⟨blk, off, none⟩) zs.length cap] w fun e w' => e = .returned (.slice (some ⟨blk, off, none⟩) (Lib.compact zs).length cap) ∧ ∃ q, w' = putRow encStr (Sort.ahead w q) blk off (Lib.compact zs ++ List.replicate (zs.length - (Lib.compact zs).length) []).toArray := Any.slices_Compact_string Tryz.lays194 blk off cap zs w hH hsz hcap
open Go.RowKit Go.Lib Go.Sort in
theorem Tryz.slices_Compact_string_empty (a : Option Addr) (cap : Nat) (w : World) :
  Calls Tryz.prog 94 #[.slice a 0 cap] w fun e w' => e = .returned (.slice a 0 cap) ∧ w' = w := Any.slices_Compact_string_empty Tryz.lays194 a cap w
open Go.RowKit Go.Lib Go.Sort in
open Go.RowKit Go.Sort in
theorem Tryz.slices_Sort_string_none (p : Option Addr) (cap : Nat) (w : World) :
  Calls Tryz.prog 93 #[.slice p 0 cap] w fun e w' => e = .returned (.tuple #[]) ∧ w' = w := Any.slices_Sort_string_none Tryz.lays190 p cap w
end Go.Proofs

namespace Go.Proofs.YtbajpnbodhhmjaaGreat
namespace VM
open KM
section
variable {α : Type} [Inhabited α] [DecidableEq α]
theorem comp_upto (le : α → α → Bool) (anti : ∀ a b, le a b = true → le b a = true → a = b) (d : Array α) (hs : ∀ i j, i ≤ j → j < d.size → le d[i]! d[j]! = true) :
  ∀ m, m ≤ d.size → (∀ x, x ∈ Lib.compactUpTo d m ↔ ∃ j, j < m ∧ d[j]! = x) ∧ (Lib.compactUpTo d m).Pairwise (fun a b => le a b = true ∧ a ≠ b)
 | 0, _ => by
  refine ⟨fun x => ⟨fun h => by simp [Lib.compactUpTo] at h, fun ⟨j, hj, _⟩ => by omega⟩, by simp [Lib.compactUpTo]⟩
 | m + 1, hm => by
  obtain ⟨h1, h2⟩ := comp_upto le anti d hs m (by omega)
  rw [Lib.compactUpTo_succ]
  cases hk : Lib.keeps d m
  ·have hk' : ¬ (m = 0 ∨ d[m]! ≠ d[m - 1]!) := by simpa [Lib.keeps] using hk
   have e : d[m]! = d[m - 1]! := by
    apply Classical.byContradiction
    intro h; exact hk' (Or.inr h)
   have hm0 : m ≠ 0 := fun h => hk' (Or.inl h)
   simp only [Bool.false_eq_true, if_false, List.append_nil]
   refine ⟨fun x => ?_, h2⟩
   rw [h1 x]
   constructor
   ·rintro ⟨j, hj, rfl⟩; exact ⟨j, by omega, rfl⟩
   ·rintro ⟨j, hj, rfl⟩
    by_cases ej : j = m
    ·subst ej; exact ⟨j - 1, by omega, e.symm⟩
    ·exact ⟨j, by omega, rfl⟩
  ·have hk' : m = 0 ∨ d[m]! ≠ d[m - 1]! := by simpa [Lib.keeps] using hk
   simp only [if_true]
   refine ⟨fun x => ?_, ?_⟩
   ·rw [List.mem_append, h1 x, List.mem_singleton]
    constructor
    ·rintro (⟨j, hj, rfl⟩ | rfl)
     ·exact ⟨j, by omega, rfl⟩
     ·exact ⟨m, by omega, rfl⟩
    ·rintro ⟨j, hj, rfl⟩
     by_cases ej : j = m
     ·subst ej; exact Or.inr rfl
     ·exact Or.inl ⟨j, by omega, rfl⟩
   ·rw [List.pairwise_append]
    refine ⟨h2, by simp, fun x hx y hy => ?_⟩
    rw [List.mem_singleton.1 hy]
    obtain ⟨j, hj, rfl⟩ := (h1 x).1 hx
    refine ⟨hs j m (by omega) (by omega), fun e => ?_⟩
    rcases hk' with h0 | hne
    ·omega
    ·apply hne
     exact anti _ _ (by rw [← e]; exact hs j (m - 1) (by omega) (by omega)) (hs (m - 1) m (by omega) (by omega))
theorem comp_all (le : α → α → Bool) (refl : ∀ a, le a a = true) (anti : ∀ a b, le a b = true → le b a = true → a = b) (xs : List α) (hs : xs.Pairwise (fun a b => le a b = true)) :
  (∀ x, x ∈ Lib.compact xs ↔ x ∈ xs) ∧ (Lib.compact xs).Pairwise (fun a b => le a b = true ∧ a ≠ b) := by
 have hp := List.pairwise_iff_getElem.1 hs
 have h := comp_upto le anti xs.toArray (fun i j hij hj => by
  have hj' : j < xs.length := by simpa using hj
  by_cases e : i = j
  ·subst e; exact refl _
  ·have := hp i j (by omega) hj' (by omega)
   rw [getElem!_pos _ i (by simp; omega), getElem!_pos _ j (by simp; omega)]
   simpa using this) xs.length (by simp)
 refine ⟨fun x => ?_, h.2⟩
 show x ∈ Lib.compactUpTo xs.toArray xs.length ↔ _
 rw [h.1 x]
 constructor
 ·rintro ⟨j, hj, rfl⟩
  rw [getElem!_pos _ j (by simpa using hj)]
  simp
 ·intro hx
  obtain ⟨j, hj, rfl⟩ := List.getElem_of_mem hx
  exact ⟨j, hj, by rw [getElem!_pos _ j (by simpa using hj)]; simp⟩
theorem asc_ext {β : Type} {R : β → β → Prop} (irr : ∀ a, ¬ R a a) (tr : ∀ a b c, R a b → R b c → R a c) : ∀ l1 l2 : List β, l1.Pairwise R → l2.Pairwise R → (∀ x, x ∈ l1 ↔ x ∈ l2) → l1 = l2
 | [], [], _, _, _ => rfl
 | [], b :: _, _, _, h => by have := (h b).2 (by simp); simp at this
 | a :: _, [], _, _, h => by have := (h a).1 (by simp); simp at this
 | a :: l, b :: m, h1, h2, h => by
  rw [List.pairwise_cons] at h1 h2
  by_cases e : a = b
  ·subst e
   congr 1
   refine asc_ext irr tr l m h1.2 h2.2 (fun x => ⟨fun hx => ?_, fun hx => ?_⟩)
   ·rcases List.mem_cons.1 ((h x).1 (by simp [hx])) with rfl | hm
    ·exact absurd (h1.1 _ hx) (irr _)
    ·exact hm
   ·rcases List.mem_cons.1 ((h x).2 (by simp [hx])) with rfl | hm
    ·exact absurd (h2.1 _ hx) (irr _)
    ·exact hm
  ·exfalso
   have ha : a ∈ m := by
    rcases List.mem_cons.1 ((h a).1 (by simp)) with h' | h'
    ·exact absurd h' e
    ·exact h'
   have hb : b ∈ l := by
    rcases List.mem_cons.1 ((h b).2 (by simp)) with h' | h'
    ·exact absurd h'.symm e
    ·exact h'
   exact irr a (tr _ _ _ (h1.1 b hb) (h2.1 a ha))
end

theorem ba_eta (b : ByteArray) : (⟨b.data.toList.toArray⟩ : ByteArray) = b := by
 obtain ⟨⟨l⟩⟩ := b
 rfl
theorem lt_iff (a b : ByteArray) : lt a b = true ↔ a.data.toList < b.data.toList := by
 unfold lt
 rw [bytesLess_eq, toList_data, toList_data, decide_eq_true_eq]
theorem lt_irr (a : ByteArray) : ¬ lt a a = true := by unfold lt; rw [less_irrefl]; simp
theorem lt_tr (a b c : ByteArray) (h1 : lt a b = true) (h2 : lt b c = true) : lt a c = true := by
 rw [lt_iff] at *
 exact List.lt_trans h1 h2
theorem lt_total {a b : ByteArray} (h : a ≠ b) : lt a b = true ∨ lt b a = true := by
 cases h1 : lt a b
 ·exact Or.inr (less_total _ _ h1 (fun e => h (toList_inj e)))
 ·exact Or.inl rfl
def sortB (ks : List ByteArray) : List ByteArray := ((ks.map (·.data.toList)).mergeSort fun x y => decide (x ≤ y)).map fun l => ⟨l.toArray⟩
def compB (ks : List ByteArray) : List ByteArray := (Lib.compact (ks.map (·.data.toList))).map fun l => ⟨l.toArray⟩
def keysB (ks : List ByteArray) : List ByteArray := compB (sortB ks)
theorem map_mk (l : List (List UInt8)) : (l.map fun x => (⟨x.toArray⟩ : ByteArray)).map (·.data.toList) = l := by
 rw [List.map_map]
 conv => rhs; rw [← List.map_id l]
 rfl
theorem keys_spec (ks : List ByteArray) : (∀ x, x ∈ keysB ks ↔ x ∈ ks) ∧ (keysB ks).Pairwise (fun a b => lt a b = true) := by
 have hsorted : ((ks.map (·.data.toList)).mergeSort fun x y => decide (x ≤ y)).Pairwise (fun a b => decide (a ≤ b) = true) :=
  List.pairwise_mergeSort (fun a b c h1 h2 => by simp at *; exact List.le_trans h1 h2) (fun a b => by simp; exact List.le_total a b) _
 have h := comp_all (fun a b : List UInt8 => decide (a ≤ b)) (fun a => by simp) (fun a b h1 h2 => by simp at *; exact List.le_antisymm h1 h2) _ hsorted
 unfold keysB compB sortB
 rw [map_mk]
 refine ⟨fun x => ?_, ?_⟩
 ·rw [List.mem_map]
  constructor
  ·rintro ⟨l, hl, rfl⟩
   have := (h.1 l).1 hl
   rw [List.mem_mergeSort] at this
   obtain ⟨b, hb, rfl⟩ := List.mem_map.1 this
   rw [ba_eta]; exact hb
  ·intro hx
   refine ⟨x.data.toList, (h.1 _).2 ?_, ba_eta x⟩
   rw [List.mem_mergeSort]
   exact List.mem_map.2 ⟨x, hx, rfl⟩
 ·rw [List.pairwise_map]
  refine h.2.imp ?_
  intro a b hab
  rw [lt_iff]
  have h1 : a ≤ b := by simpa using hab.1
  show a < b
  have h3 : ((⟨a.toArray⟩ : ByteArray)) ≠ ⟨b.toArray⟩ := fun e => hab.2 (by have := congrArg (fun z : ByteArray => z.data.toList) e; simpa using this)
  rcases lt_total h3 with h4 | h4
  ·exact (lt_iff _ _).1 h4
  ·exact absurd ((lt_iff _ _).1 h4) h1
theorem keys_of {ks l : List ByteArray} (h1 : l.Pairwise (fun a b => lt a b = true)) (p : ByteArray → Bool) (h2 : ∀ x, x ∈ l ↔ x ∈ ks ∧ p x = true) : l = (keysB ks).filter p := by
 have h := keys_spec ks
 refine asc_ext lt_irr lt_tr _ _ h1 (h.2.filter _) (fun x => ?_)
 rw [h2, List.mem_filter, h.1]

def insK (l : List ByteArray) (k : ByteArray) : List ByteArray := l.filter (fun y => lt y k) ++ [k] ++ l.filter (fun y => lt k y)
theorem ins_spec {l : List ByteArray} {k : ByteArray} (h : l.Pairwise (fun a b => lt a b = true)) : (insK l k).Pairwise (fun a b => lt a b = true) ∧ ∀ x, x ∈ insK l k ↔ x = k ∨ x ∈ l := by
 unfold insK
 constructor
 ·rw [List.pairwise_append, List.pairwise_append]
  refine ⟨⟨h.filter _, by simp, fun x hx y hy => ?_⟩, h.filter _, fun x hx y hy => ?_⟩
  ·rw [List.mem_singleton.1 hy]; exact (List.mem_filter.1 hx).2
  ·have hy' := (List.mem_filter.1 hy).2
   rcases List.mem_append.1 hx with hx | hx
   ·exact lt_tr _ _ _ (List.mem_filter.1 hx).2 hy'
   ·rw [List.mem_singleton.1 hx]; exact hy'
 ·intro x
  simp only [List.mem_append, List.mem_filter, List.mem_singleton]
  constructor
  ·rintro ((⟨hx, _⟩ | rfl) | ⟨hx, _⟩)
   ·exact Or.inr hx
   ·exact Or.inl rfl
   ·exact Or.inr hx
  ·rintro (rfl | hx)
   ·exact Or.inl (Or.inr rfl)
   ·by_cases e : x = k
    ·exact Or.inl (Or.inr e)
    ·rcases lt_total e with h1 | h1
     ·exact Or.inl (Or.inl ⟨hx, h1⟩)
     ·exact Or.inr ⟨hx, h1⟩

def scanF (vs : List Vr) (r : Rg) (s : Int) (k : ByteArray) : Option Rg := if inB r k = true then (seenB vs k s).map fun v => (k, v) else none
def scanB (vs : List Vr) (r : Rg) (s : Int) : List Rg := (keysB (vs.map (·.1))).filterMap (scanF vs r s)
theorem scan_filter (vs : List Vr) (r : Rg) (s : Int) : scanB vs r s = ((keysB (vs.map (·.1))).filter (inB r)).filterMap fun k => (seenB vs k s).map fun v => (k, v) := by
 unfold scanB
 rw [List.filterMap_filter]
 rfl
end VM
end Go.Proofs.YtbajpnbodhhmjaaGreat

namespace Go.Proofs.YtbajpnbodhhmjaaGreat
open Go.RowKit
open KM
open VM Go.Sort
attribute [local go_sem ↓] Go.wp_at_zero Go.wp_at_succ

theorem stepAppP {ops : Array Oper} {o : Oper} {a : Act} {K : Act → World → Prop} {Q : Exit → Act → World → Prop} {E : Prop} (hgd : o.guard = none) (s x : Operand) (ho : o.op = .call { callee := .builtin .append, args := #[s, x], argTypes := #[44, 44] })
  {W : World} {base g : Nat} {v : Value} {xs : List Rg} (y : Rg) (hs : a.eval s = v) (hown : GOwn encR 75 W base v xs)
  (hx : a.eval x = .slice (some ⟨g, 0, none⟩) 1 1) (hblk : W.heap[g]? = some (.cells (encR.enc y).toArray 75 (0, 0))) (hlen : xs.length ≤ 100000000) (hB : base ≤ W.heap.size)
  (h : ∀ v' w', GOwn encR 75 w' base v' (xs ++ [y]) → Below base W w' → K (a.put o.dst v') w') :
  if Region.wanted o (yielded ops a.tmps) = true then Oper.wp Tryz.prog o a W K Q else E := by
 refine stepAppG 44 75 2 32 _ Tryz.underlying44 Tryz.info75 rfl (by omega) (by omega) hgd s x ho (encR.enc y) hs hown hx hblk rfl oneP (by omega) hB ?_
 intro g' cap w' h1 h2
 refine h _ w' ?_ h2
 have e : encR.cells (xs ++ [y]) = encR.cells xs ++ encR.enc y := by rw [encR.cells_app]; simp [Enc.cells]
 unfold GOwn
 rw [e, List.length_append]
 exact h1

theorem wpAppKP {ops : Array Oper} {rest : List Oper} {o : Oper} {a : Act} {Q : Exit → Act → World → Prop} (hgd : o.guard = none) (s x : Operand) (ho : o.op = .call { callee := .builtin .append, args := #[s, x], argTypes := #[44, 44] })
  {W : World} {base : Nat} {v : Value} {xs : List Rg} (y : Rg) (hs : a.eval s = v) (hown : GOwn encR 75 W base v xs)
  (hx : a.eval x = .slice (some ⟨W.heap.size, 0, none⟩) 1 1) (hlen : xs.length ≤ 100000000) (hB : base ≤ W.heap.size)
  (h : ∀ v' w', GOwn encR 75 w' base v' (xs ++ [y]) → Below base W w' → W.grownBy w' v.ownBlock → (v'.ownBlock = v.ownBlock ∨ ∃ g, v'.ownBlock = some g ∧ W.heap.size ≤ g) → wpList Tryz.prog ops Q rest (a.put o.dst v') w') :
  wpList Tryz.prog ops Q (o :: rest) a (W.alloc (.cells #[.string y.1, .string y.2] 75)) := by
 obtain ⟨i0, hi, hz0, hz1, hz2⟩ := info_parts Tryz.info75
 have hown' : (W.alloc (.cells #[.string y.1, .string y.2] 75)).ownsRow base 75 2 v xs.length (encR.cells xs) := World.ownsRow.alloc hown _
 have hal : W.grownBy (W.alloc (.cells #[.string y.1, .string y.2] 75)) v.ownBlock := ⟨rfl, rfl, rfl, by simp, fun j hj _ => by
  unfold World.alloc; simp only [Array.getElem?_push]; rw [if_neg (by omega)]⟩
 refine wpList_append_lies _ hgd s x 44 ho base 75 i0 _ 2 32 Tryz.underlying44 hi hz0 hz1 hz2 rfl (by omega) v xs.length (encR.cells xs) hs hown' ⟨W.heap.size, 0, none⟩ 1 1 (encR.enc y) hx rfl ?_ oneP (by omega) (by unfold maxLen; omega) ?_ (by simp; omega) _ rfl ?_
 ·intro j u hj
  rw [Addr.add_lit, Nat.zero_add, World.cell?, show (W.alloc (.cells #[.string y.1, .string y.2] 75)).heap[W.heap.size]? = some (.cells (encR.enc y).toArray 75 (0, 0)) from heapAllocNew W _ _]
  simpa using hj
 ·calc (xs.length + 1) * 32 ≤ 100000001 * 64 := Nat.mul_le_mul (by omega) (by omega)
   _ ≤ _ := by omega
 ·intro g' cap w' h1 h2 h3 _
  have hb : Below base W w' := ((Below.refl _ _).alloc hB _).trans ((Below.refl _ _).grown h2 (by simp; omega) (fun j hj => (World.ownsRow.lt hown' j hj).1))
  refine h _ w' ?_ hb ⟨h2.os.trans hal.os, h2.tape.trans hal.tape, h2.output.trans hal.output, Nat.le_trans hal.size h2.size, fun j hj hne => (h2.block j (Nat.lt_of_lt_of_le hj hal.size) hne).trans (hal.block j hj hne)⟩ ?_
  ·have e : encR.cells (xs ++ [y]) = encR.cells xs ++ encR.enc y := by rw [encR.cells_app]; simp [Enc.cells]
   unfold GOwn
   rw [e, List.length_append]
   exact h1
  ·rcases h3 with h3 | h3
   ·exact Or.inl h3.symm
   ·exact Or.inr ⟨g', rfl, by rw [h3]; simp⟩

theorem wpAppV {ops : Array Oper} {rest : List Oper} {o : Oper} {a : Act} {Q : Exit → Act → World → Prop} (hgd : o.guard = none) (s x : Operand) (ho : o.op = .call { callee := .builtin .append, args := #[s, x], argTypes := #[40, 40] })
  {W : World} {base : Nat} {v : Value} {xs : List Vr} (y : Vr) (hs : a.eval s = v) (hown : GOwn encV 69 W base v xs)
  (hx : a.eval x = .slice (some ⟨W.heap.size, 0, none⟩) 1 1) (hlen : xs.length ≤ 100000000) (hB : base ≤ W.heap.size)
  (h : ∀ v' w', GOwn encV 69 w' base v' (xs ++ [y]) → Below base W w' → wpList Tryz.prog ops Q rest (a.put o.dst v') w') :
  wpList Tryz.prog ops Q (o :: rest) a (W.alloc (.cells #[.string y.1, .string y.2.1, .bool y.2.2.1, .int .i64 y.2.2.2] 69)) := by
 refine wpAppG 40 69 4 48 _ Tryz.underlying40 Tryz.info69 rfl (by omega) (by omega) hgd s x ho (encV.enc y) hs (World.ownsRow.alloc hown _) hx (heapAllocNew W _ _) rfl oneV (by omega) (by simp; omega) ?_
 intro g' cap w' h1 h2
 refine h _ w' ?_ (((Below.refl _ _).alloc hB _).trans h2)
 have e : encV.cells (xs ++ [y]) = encV.cells xs ++ encV.enc y := by rw [encV.cells_app]; simp [Enc.cells]
 unfold GOwn
 rw [e, List.length_append]
 exact h1

theorem stepAppKV {ops : Array Oper} {o : Oper} {a : Act} {K : Act → World → Prop} {Q : Exit → Act → World → Prop} {E : Prop} (hgd : o.guard = none) (s x : Operand) (ho : o.op = .call { callee := .builtin .append, args := #[s, x], argTypes := #[40, 40] })
  {W : World} {base g : Nat} {v : Value} {xs : List Vr} (y : Vr) (hs : a.eval s = v) (hown : GOwn encV 69 W base v xs)
  (hx : a.eval x = .slice (some ⟨g, 0, none⟩) 1 1) (hblk : W.heap[g]? = some (.cells (encV.enc y).toArray 69 (0, 0))) (hlen : xs.length ≤ 100000000) (hB : base ≤ W.heap.size)
  (h : ∀ v' w', GOwn encV 69 w' base v' (xs ++ [y]) → Below base W w' → W.grownBy w' v.ownBlock → K (a.put o.dst v') w') :
  if Region.wanted o (yielded ops a.tmps) = true then Oper.wp Tryz.prog o a W K Q else E := by
 obtain ⟨i0, hi, hz0, hz1, hz2⟩ := info_parts Tryz.info69
 refine step_append_lies _ hgd s x 40 ho base 69 i0 _ 4 48 Tryz.underlying40 hi hz0 hz1 hz2 rfl (by omega) v xs.length (encV.cells xs) hs hown ⟨g, 0, none⟩ 1 1 (encV.enc y) hx rfl ?_ oneV (by omega) (by unfold maxLen; omega) ?_ hB _ rfl ?_
 ·intro j u hj
  rw [Addr.add_lit, Nat.zero_add, World.cell?, hblk]
  simpa using hj
 ·calc (xs.length + 1) * 48 ≤ 100000001 * 64 := Nat.mul_le_mul (by omega) (by omega)
   _ ≤ _ := by omega
 ·intro g' cap w' h1 h2 _ _
  refine h _ w' ?_ ((Below.refl _ _).grown h2 hB (fun j hj => (World.ownsRow.lt hown j hj).1)) h2
  have e : encV.cells (xs ++ [y]) = encV.cells xs ++ encV.enc y := by rw [encV.cells_app]; simp [Enc.cells]
  unfold GOwn
  rw [e, List.length_append]
  exact h1

theorem cellsS (ks : List ByteArray) : encS.cells ks = (ks.map (·.data.toList)).map encStr := by
 induction ks with
 | nil => rfl
 | cons k ks ih =>
  have e : encS.cells (k :: ks) = .string k :: encS.cells ks := rfl
  rw [e, ih, List.map_cons, List.map_cons]
theorem cellsB (l : List (List UInt8)) : encS.cells (l.map fun x => (⟨x.toArray⟩ : ByteArray)) = l.map encStr := by rw [cellsS, map_mk]
theorem sortB_len (ks : List ByteArray) : (sortB ks).length = ks.length := by simp [sortB]

theorem sort95 (ks : List ByteArray) (base : Nat) (v : Value) (w : World) (hn : ks.length ≤ 100000000) (hown : GOwn encS 9 w base v ks) :
  Calls Tryz.prog 93 #[v] w fun e w' => e = .returned (.tuple #[]) ∧ GOwn encS 9 w' base v (sortB ks) ∧ Below base w w' := by
 have h0 := hown
 rcases hown.2 with ⟨rfl, hz⟩ | ⟨g, cap, cur, rfl, hbase, hb, h1, h2, h3, h4⟩
 ·refine (Tryz.slices_Sort_string_none none 0 w).mono ?_
  rintro e w' ⟨rfl, rfl⟩
  have e : ks = [] := List.length_eq_zero_iff.1 hz
  subst e
  exact ⟨rfl, by simpa [sortB] using h0, Below.refl _ _⟩
 ·have hl : (ks.map (·.data.toList)).length = ks.length := by simp
  have h4' : cur.toList.take (ks.map (·.data.toList)).length = (ks.map (·.data.toList)).map encStr := by
   have e : encS.size = 1 := rfl
   rw [e, Nat.mul_one] at h4
   rw [hl, h4, cellsS]
  have hg : g < w.heap.size := (Array.getElem?_eq_some_iff.1 hb).1
  have hc := Tryz.slices_Sort_string g 0 cap (ks.map (·.data.toList)) w (holds_of_block hb h4') hg (by rw [hl]; omega)
  rw [hl] at hc
  refine hc.mono ?_
  rintro e w' ⟨rfl, n, os, rfl⟩
  refine ⟨rfl, ?_, grown_base (grownBy_sorted _) hbase hg⟩
  have ho := ownsRow_sorted (n := n) (os := os) (ts := (ks.map (·.data.toList)).mergeSort fun x y => decide (x ≤ y)) (ss := ks.map (·.data.toList)) (by simp) hbase hb (by rw [hl]; exact h1) h2 h3
  unfold GOwn
  rw [sortB_len]
  unfold sortB
  rw [cellsB]
  rw [hl] at ho
  exact ho

theorem comp96 (ks : List ByteArray) (base : Nat) (v : Value) (w : World) (hn : ks.length ≤ 100000000) (hown : GOwn encS 9 w base v ks) :
  Calls Tryz.prog 94 #[v] w fun e w' => ∃ ao cap, e = .returned (.slice ao (compB ks).length cap) ∧ GRow encS w' ao (compB ks) ∧ Below base w w' := by
 rcases hown.2 with ⟨rfl, hz⟩ | ⟨g, cap, cur, rfl, hbase, hb, h1, h2, h3, h4⟩
 ·refine (Tryz.slices_Compact_string_empty none 0 w).mono ?_
  rintro e w' ⟨rfl, rfl⟩
  have e : ks = [] := List.length_eq_zero_iff.1 hz
  subst e
  exact ⟨none, 0, rfl, GRow.nil _ _, Below.refl _ _⟩
 ·have hl : (ks.map (·.data.toList)).length = ks.length := by simp
  have h4' : cur.toList.take (ks.map (·.data.toList)).length = (ks.map (·.data.toList)).map encStr := by
   have e : encS.size = 1 := rfl
   rw [e, Nat.mul_one] at h4
   rw [hl, h4, cellsS]
  have hg : g < w.heap.size := (Array.getElem?_eq_some_iff.1 hb).1
  have hc := Tryz.slices_Compact_string g 0 cap (ks.map (·.data.toList)) w (holds_of_block hb h4') (by rw [hl]; omega) (by rw [hl]; exact h1)
  have hcl : (Lib.compact (ks.map (·.data.toList))).length ≤ (ks.map (·.data.toList)).length := Lib.compact_length_le _
  have e2 : (compB ks).length = (Lib.compact (ks.map (·.data.toList))).length := by simp [compB]
  rw [hl] at hc
  refine hc.mono ?_
  rintro e w' ⟨rfl, q, rfl⟩
  refine ⟨some ⟨g, 0, none⟩, cap, by rw [e2], ?_, ?_⟩
  ·have ho := ownsRow_sorted (n := q) (os := #[]) (ts := Lib.compact (ks.map (·.data.toList)) ++ List.replicate (ks.length - (Lib.compact (ks.map (·.data.toList))).length) []) (ss := ks.map (·.data.toList)) (by simp at hcl ⊢; omega) hbase hb (by rw [hl]; exact h1) h2 h3
   rw [grow_empty, hl] at ho
   intro _
   refine ⟨g, 0, rfl, by simpa [putRow, mapBlock, Sort.ahead] using hg, fun j hj i hi => ?_⟩
   have hi0 : i = 0 := by have : encS.size = 1 := rfl; omega
   have hsz : encS.size = 1 := rfl
   subst hi0
   rw [hsz, Nat.mul_one, Nat.zero_add, Nat.add_zero, World.ownsRow.cellAt ho j (by rw [Nat.mul_one, ← hl]; omega)]
   rw [List.map_append, List.getElem?_append_left (by simp; omega)]
   have hj2 : j < (Lib.compact (ks.map (·.data.toList))).length := by omega
   simp [compB, encS, hj2]
  ·have hgr := grownBy_sorted (w := w) (g := g) (n := q) (os := #[]) (Lib.compact (ks.map fun b => b.data.toList) ++ List.replicate (ks.length - (Lib.compact (ks.map fun b => b.data.toList)).length) ([] : List UInt8)).toArray
   rw [grow_empty] at hgr
   exact grown_base hgr hbase hg

end Go.Proofs.YtbajpnbodhhmjaaGreat

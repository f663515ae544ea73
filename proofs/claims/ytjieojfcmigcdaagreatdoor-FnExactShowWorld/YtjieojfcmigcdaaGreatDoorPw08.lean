/- What placesOfKeys makes, and what Meets returns, on both sides. -/
import Derived.Test.YtjieojfcmigcdaaGreatDoorProg
import Derived.WalkKit
import Derived.Test.YtjieojfcmigcdaaGreatDoorPw01
import Derived.WalkSpells
import Derived.WalkLawsBesides
import Derived.Deep.QuietTactic
import Derived.BigQuiet
import Derived.Deep.RegionHeld3
import Derived.Deep.DrawnRows
import Derived.Deep.AppendLies
import Derived.Test.YtjieojfcmigcdaaGreatDoorPw02
import Derived.Test.YtjieojfcmigcdaaGreatDoorPw04
import Derived.Test.YtjieojfcmigcdaaGreatDoorPw05
import Derived.Test.YtjieojfcmigcdaaGreatDoorPw06
import Derived.Test.YtjieojfcmigcdaaGreatDoorPw03
import Derived.Deep.RegionHeld
import Derived.Maps.OwnSet
import Derived.StringKeys
import Derived.Sort.OwnSorted
import Derived.Lib.RowBridge
import Derived.Test.YtjieojfcmigcdaaGreatDoorPw07
import Derived.Lib.ItoaNum
import Derived.Lib.ItoaLen
import Derived.Shelf.Sort.Plain
import Derived.Ground.Names2Prog
import Derived.Shelf.Slices.CompactI
import Derived.Shelf.Slices.CompactS
import Derived.Shelf.Slices.Cells
import Derived.Shelf.Slices.In.SortNone
namespace Go.Proofs.YtjieojfcmigcdaaGreatDoor
open Go.RowKit Go.WideMaps Go.Maps
open KM
attribute [local go_sem ↓] Go.wp_at_zero Go.wp_at_succ

def kl (s : ByteArray) : Lit := .string s.data.toList
theorem kl_inj {s t : ByteArray} (h : kl s = kl t) : s = t := by
 unfold kl at h
 simp only [Lit.string.injEq] at h
 obtain ⟨⟨x⟩⟩ := s
 obtain ⟨⟨y⟩⟩ := t
 simp only at h
 subst h
 rfl
structure Inv (D0 : DataW Unit) (ys : List Wt) (k : Nat) (D : DataW Unit) : Prop where
 tidy : Tidy D
 has : ∀ s, Maps.has D (kl s) = true ↔ Maps.has D0 (kl s) = true ∧ ∀ j (hj : j < ys.length), j < k → ys[j].1 ≠ s
 le : Maps.size D ≤ Maps.size D0
 lt : Maps.size D < Maps.size D0 ↔ ∃ j, ∃ hj : j < ys.length, j < k ∧ Maps.has D0 (kl ys[j].1) = true
theorem Inv.step {D0 D : DataW Unit} {ys : List Wt} {k : Nat} (h : Inv D0 ys k D) (hk : k < ys.length) : Inv D0 ys (k + 1) (D.del (kl ys[k].1)) := by
 have hs := size_del (k := kl ys[k].1) h.tidy
 have hh := h.has ys[k].1
 refine ⟨h.tidy.del _, fun s => ?_, ?_, ?_⟩
 ·by_cases e : s = ys[k].1
  ·subst e
   rw [has_del_same]
   simp only [Bool.false_eq_true, false_iff, not_and]
   exact fun _ h2 => h2 k hk (by omega) rfl
  ·rw [has_del_other (fun h => e (kl_inj h)), h.has s]
   constructor
   ·rintro ⟨h1, h2⟩
    refine ⟨h1, fun j hj hjk => ?_⟩
    by_cases ej : j = k
    ·subst ej; exact fun e' => e e'.symm
    ·exact h2 j hj (by omega)
   ·rintro ⟨h1, h2⟩
    exact ⟨h1, fun j hj hjk => h2 j hj (by omega)⟩
 ·have := h.le; split at hs <;> omega
 ·by_cases hd : Maps.has D (kl ys[k].1) = true
  ·rw [if_pos hd] at hs
   have := h.le
   constructor
   ·intro _
    exact ⟨k, hk, by omega, (hh.1 hd).1⟩
   ·intro _; omega
  ·rw [if_neg hd] at hs
   rw [show Maps.size (D.del (kl ys[k].1)) = Maps.size D by omega, h.lt]
   constructor
   ·rintro ⟨j, hj, hjk, hx⟩
    exact ⟨j, hj, by omega, hx⟩
   ·rintro ⟨j, hj, hjk, hx⟩
    by_cases ej : j = k
    ·subst ej
     apply Classical.byContradiction
     intro hno
     exact hd (hh.2 ⟨hx, fun i hi hij e => hno ⟨i, hi, hij, by rw [e]; exact hx⟩⟩)
    ·exact ⟨j, hj, by omega, hx⟩
end Go.Proofs.YtjieojfcmigcdaaGreatDoor

namespace Go.Proofs.YtjieojfcmigcdaaGreatDoor
open Go.RowKit
open KM
attribute [local go_sem ↓] Go.wp_at_zero Go.wp_at_succ

end Go.Proofs.YtjieojfcmigcdaaGreatDoor

namespace Go.Proofs.YtjieojfcmigcdaaGreatDoor
open Go.RowKit
open KM
attribute [local go_sem ↓] Go.wp_at_zero Go.wp_at_succ

theorem TRow.drewT {w : World} {t : Tx} {ra wa : Option Addr} (h : TRow w t ra wa) : TRow w.drew t ra wa := ⟨h.r.drew, h.w.drew⟩
end Go.Proofs.YtjieojfcmigcdaaGreatDoor

namespace Go.Proofs.YtjieojfcmigcdaaGreatDoor
open Go.RowKit
open KM
attribute [local go_sem ↓] Go.wp_at_zero Go.wp_at_succ

end Go.Proofs.YtjieojfcmigcdaaGreatDoor

namespace Go.Proofs.YtjieojfcmigcdaaGreatDoor
open Go.RowKit
open KM
attribute [local go_sem ↓] Go.wp_at_zero Go.wp_at_succ
end Go.Proofs.YtjieojfcmigcdaaGreatDoor

namespace Go.Proofs.YtjieojfcmigcdaaGreatDoor
namespace VM
open KM
def isOf (k : ByteArray) (s : Int) (v : Vr) : Bool := decide (v.1 = k) && decide (v.2.2.2 ≤ s)
def more (a : Option Nd) (n : Nd) : Bool := match a with
 | none => true
 | some m => decide (m.2.2.2.2 < n.2.2.2.2)
def stp (k : ByteArray) (s : Int) (a : Option Nd) (n : Nd) : Option Nd := if (isOf k s n.2 && more a n) = true then some n else a
def lst (k : ByteArray) (s : Int) (ns : List Nd) : Option Nd := ns.foldl (stp k s) none
theorem lst_snoc (k : ByteArray) (s : Int) (A : List Nd) (n : Nd) : lst k s (A ++ [n]) = stp k s (lst k s A) n := by simp [lst, List.foldl_append]
def GoodL (k : ByteArray) (s : Int) (A : List Nd) (n : Nd) (B : List Nd) : Prop :=
 isOf k s n.2 = true ∧ (∀ m ∈ A, isOf k s m.2 = true → m.2.2.2.2 < n.2.2.2.2) ∧ (∀ m ∈ B, isOf k s m.2 = true → m.2.2.2.2 ≤ n.2.2.2.2)
def Told (k : ByteArray) (s : Int) (P : List Nd) (a : Option Nd) : Prop := match a with
 | none => ∀ m ∈ P, isOf k s m.2 = false
 | some x => ∃ A B, P = A ++ x :: B ∧ GoodL k s A x B
theorem told_snoc {k : ByteArray} {s : Int} {P : List Nd} {a : Option Nd} (n : Nd) (h : Told k s P a) : Told k s (P ++ [n]) (stp k s a n) := by
 unfold stp
 cases hi : isOf k s n.2
 ·simp only [Bool.false_and, Bool.false_eq_true, if_false]
  cases a with
  | none =>
   intro m hm
   rcases List.mem_append.1 hm with hm | hm
   ·exact h m hm
   ·rw [List.mem_singleton.1 hm]; exact hi
  | some x =>
   obtain ⟨A, B, rfl, g1, g2, g3⟩ := h
   refine ⟨A, B ++ [n], by simp, g1, g2, fun m hm ho => ?_⟩
   rcases List.mem_append.1 hm with hm | hm
   ·exact g3 m hm ho
   ·rw [List.mem_singleton.1 hm, hi] at ho; cases ho
 ·simp only [Bool.true_and]
  cases a with
  | none =>
   simp only [more, if_true]
   refine ⟨P, [], by simp, hi, fun m hm ho => ?_, fun m hm => by simp at hm⟩
   have := h m hm
   rw [this] at ho; cases ho
  | some x =>
   obtain ⟨A, B, rfl, g1, g2, g3⟩ := h
   simp only [more, decide_eq_true_eq]
   split
   ·rename_i hlt
    refine ⟨A ++ x :: B, [], by simp, hi, fun m hm ho => ?_, fun m hm => by simp at hm⟩
    rcases List.mem_append.1 hm with hm | hm
    ·have := g2 m hm ho; omega
    ·rcases List.mem_cons.1 hm with rfl | hm
     ·exact hlt
     ·have := g3 m hm ho; omega
   ·rename_i hlt
    refine ⟨A, B ++ [n], by simp, g1, g2, fun m hm ho => ?_⟩
    rcases List.mem_append.1 hm with hm | hm
    ·exact g3 m hm ho
    ·rw [List.mem_singleton.1 hm]; omega
theorem told_more {k : ByteArray} {s : Int} : ∀ (l P : List Nd) (a : Option Nd), Told k s P a → Told k s (P ++ l) (l.foldl (stp k s) a)
 | [], P, a, h => by simpa using h
 | n :: l, P, a, h => by
  have := told_more l (P ++ [n]) _ (told_snoc n h)
  simpa using this
theorem told (k : ByteArray) (s : Int) (P : List Nd) : Told k s P (lst k s P) := by
 have := told_more (k := k) (s := s) P [] none (fun m hm => by simp at hm)
 simpa [lst] using this
theorem lst_mem {k : ByteArray} {s : Int} {P : List Nd} {x : Nd} (h : lst k s P = some x) : x ∈ P ∧ isOf k s x.2 = true := by
 have := told k s P
 rw [h] at this
 obtain ⟨A, B, rfl, g⟩ := this
 exact ⟨by simp, g.1⟩
theorem fold_snd (k : ByteArray) (s : Int) : ∀ (P Q : List Nd) (a b : Option Nd), P.map (·.2) = Q.map (·.2) → a.map (·.2) = b.map (·.2) → (P.foldl (stp k s) a).map (·.2) = (Q.foldl (stp k s) b).map (·.2)
 | [], [], _, _, _, h => h
 | [], _ :: _, _, _, h, _ => by simp at h
 | _ :: _, [], _, _, h, _ => by simp at h
 | n :: P, m :: Q, a, b, h, hab => by
  simp only [List.map_cons, List.cons.injEq] at h
  refine fold_snd k s P Q _ _ h.2 ?_
  have e : more a n = more b m := by
   cases a <;> cases b <;> simp_all [more]
  unfold stp
  rw [h.1, e]
  split
  ·simp [h.1]
  ·exact hab
theorem lst_snd {k : ByteArray} {s : Int} {P Q : List Nd} (h : P.map (·.2) = Q.map (·.2)) : (lst k s P).map (·.2) = (lst k s Q).map (·.2) := fold_snd k s P Q none none h rfl

def seenV (vs : List Vr) (k : ByteArray) (s : Int) : Option Vr := (lst k s (vs.map fun v => (0, v))).map (·.2)
theorem seenV_of {k : ByteArray} {s : Int} {ns : List Nd} {vs : List Vr} (h : ns.map (·.2) = vs) : (lst k s ns).map (·.2) = seenV vs k s := lst_snd (by rw [h]; simp [Function.comp_def])
def seenB (vs : List Vr) (k : ByteArray) (s : Int) : Option ByteArray := match seenV vs k s with
 | none => none
 | some v => if v.2.2.1 = true then none else some v.2.1
def lab (vs : List Vr) : Nat → List Nd
 | 0 => []
 | n + 1 => lab vs n ++ (match vs[n]? with
  | some v => [(n, v)]
  | none => [])
theorem lab_succ {vs : List Vr} {n : Nat} (h : n < vs.length) : lab vs (n + 1) = lab vs n ++ [(n, vs[n])] := by
 simp only [lab, List.getElem?_eq_getElem h]
theorem lab_snd (vs : List Vr) : ∀ n, (lab vs n).map (·.2) = vs.take n
 | 0 => by simp [lab]
 | n + 1 => by
  by_cases h : n < vs.length
  ·rw [lab_succ h, List.map_append, lab_snd vs n, List.take_succ_eq_append_getElem h]; rfl
  ·simp only [lab]
   rw [List.getElem?_eq_none (by omega), List.append_nil, lab_snd vs n, List.take_of_length_le (by omega), List.take_of_length_le (by omega)]
theorem lab_mem {vs : List Vr} {x : Nd} : ∀ {n : Nat}, x ∈ lab vs n → x.1 < n ∧ vs[x.1]? = some x.2
 | 0, h => by simp [lab] at h
 | n + 1, h => by
  simp only [lab, List.mem_append] at h
  rcases h with h | h
  ·have := lab_mem h; exact ⟨by omega, this.2⟩
  ·cases e : vs[n]? with
   | none => rw [e] at h; simp at h
   | some v => rw [e] at h; rw [List.mem_singleton.1 h]; exact ⟨by simp, e⟩
theorem lab_all (vs : List Vr) : (lab vs vs.length).map (·.2) = vs := by rw [lab_snd, List.take_length]
def atI (o : Option Nd) : Int := match o with
 | none => -1
 | some n => n.1
end VM
end Go.Proofs.YtjieojfcmigcdaaGreatDoor

namespace Go.Proofs
open Go.Shelf
def Tryz.lays190_ren : Go.Shelf.Ren := ⟨fun | 190 => 97 | 125 => 106 | 258 => 105 | 128 => 121 | 129 => 108 | 302 => 112 | 303 => 113 | 304 => 114 | 305 => 115 | 306 => 116 | 307 => 117 | 308 => 118 | 309 => 119 | 310 => 120 | 333 => 124 | 329 => 125 | 330 => 126 | 334 => 127 | 335 => 128 | 336 => 129 | 344 => 130 | n => n, fun | 31 => 28 | 9 => 9 | 3 => 3 | 46 => 183 | 0 => 0 | 51 => 187 | 53 => 176 | 4 => 4 | 183 => 192 | 182 => 191 | 131 => 197 | 5 => 5 | 218 => 200 | 222 => 204 | 228 => 209 | 229 => 210 | n => n, fun | n => n⟩
theorem Tryz.lays190 : Go.Proofs.Lays.n190 Tryz.prog Tryz.lays190_ren := {
 mixed := by kernel_rfl
 f125 := Tryz.func106.trans (congrArg some (by kernel_rfl))
 f128 := Tryz.func121.trans (congrArg some (by kernel_rfl))
 f129 := Tryz.func108.trans (congrArg some (by kernel_rfl))
 f190 := Tryz.func97.trans (congrArg some (by kernel_rfl))
 f258 := Tryz.func105.trans (congrArg some (by kernel_rfl))
 f302 := Tryz.func112.trans (congrArg some (by kernel_rfl))
 f303 := Tryz.func113.trans (congrArg some (by kernel_rfl))
 f304 := Tryz.func114.trans (congrArg some (by kernel_rfl))
 f305 := Tryz.func115.trans (congrArg some (by kernel_rfl))
 f306 := Tryz.func116.trans (congrArg some (by kernel_rfl))
 f307 := Tryz.func117.trans (congrArg some (by kernel_rfl))
 f308 := Tryz.func118.trans (congrArg some (by kernel_rfl))
 f309 := Tryz.func119.trans (congrArg some (by kernel_rfl))
 f310 := Tryz.func120.trans (congrArg some (by kernel_rfl))
 f329 := Tryz.func125.trans (congrArg some (by kernel_rfl))
 f330 := Tryz.func126.trans (congrArg some (by kernel_rfl))
 f333 := Tryz.func124.trans (congrArg some (by kernel_rfl))
 f334 := Tryz.func127.trans (congrArg some (by kernel_rfl))
 f335 := Tryz.func128.trans (congrArg some (by kernel_rfl))
 f336 := Tryz.func129.trans (congrArg some (by kernel_rfl))
 f344 := Tryz.func130.trans (congrArg some (by kernel_rfl))
 t0 := Tryz.underlying0
 a0 := Tryz.isAgg0
 z0 := Tryz.sizeOf0
 v0 := Tryz.zeroValue0
 t3 := Tryz.underlying3
 a3 := Tryz.isAgg3
 z3 := Tryz.sizeOf3
 v3 := Tryz.zeroValue3
 t4 := Tryz.underlying4
 a4 := Tryz.isAgg4
 z4 := Tryz.sizeOf4
 v4 := Tryz.zeroValue4
 t5 := Tryz.underlying5
 a5 := Tryz.isAgg5
 z5 := Tryz.sizeOf5
 v5 := Tryz.zeroValue5
 t9 := Tryz.underlying9
 a9 := Tryz.isAgg9
 z9 := Tryz.sizeOf9
 v9 := Tryz.zeroValue9
 t31 := Tryz.underlying28
 a31 := Tryz.isAgg28
 z31 := Tryz.sizeOf28
 v31 := Tryz.zeroValue28
 t46 := Tryz.underlying183
 a46 := Tryz.isAgg183
 z46 := Tryz.sizeOf183
 v46 := Tryz.zeroValue183
 t51 := Tryz.underlying187
 a51 := Tryz.isAgg187
 z51 := Tryz.sizeOf187
 v51 := Tryz.zeroValue187
 t53 := Tryz.underlying176
 a53 := Tryz.isAgg176
 z53 := Tryz.sizeOf176
 v53 := Tryz.zeroValue176
 t131 := Tryz.underlying197
 a131 := Tryz.isAgg197
 z131 := Tryz.sizeOf197
 v131 := Tryz.zeroValue197
 t182 := Tryz.underlying191
 a182 := Tryz.isAgg191
 z182 := Tryz.sizeOf191
 v182 := Tryz.zeroValue191
 t183 := Tryz.underlying192
 a183 := Tryz.isAgg192
 z183 := Tryz.sizeOf192
 v183 := Tryz.zeroValue192
 t218 := Tryz.underlying200
 a218 := Tryz.isAgg200
 z218 := Tryz.sizeOf200
 v218 := Tryz.zeroValue200
 t222 := Tryz.underlying204
 a222 := Tryz.isAgg204
 z222 := Tryz.sizeOf204
 v222 := Tryz.zeroValue204
 t228 := Tryz.underlying209
 a228 := Tryz.isAgg209
 z228 := Tryz.sizeOf209
 v228 := Tryz.zeroValue209
 t229 := Tryz.underlying210
 a229 := Tryz.isAgg210
 z229 := Tryz.sizeOf210
 v229 := Tryz.zeroValue210 }
open Go.Sort Go.RowKit in
theorem Tryz.slices_Sort_string (blk off cap : Nat) (ss : List (List UInt8)) (w : World) (hH : Holds encStr w blk off ss.toArray) (hblk : blk < w.heap.size) (hsz : ss.length < 4611686018427387904) :
  Calls Tryz.prog 97 #[.slice (some ⟨blk, off, none⟩) ss.length cap] w fun e w' =>
   e = .returned (.tuple #[]) ∧ ∃ n os, w' = grow (putRow encStr (Sort.ahead w n) blk off (ss.mergeSort fun x y => decide (x ≤ y)).toArray) os := Any.slices_Sort_string Tryz.lays190 blk off cap ss w hH hblk hsz
def Tryz.lays194_ren : Go.Shelf.Ren := ⟨fun | 194 => 98 | n => n, fun | 31 => 28 | 9 => 9 | 3 => 3 | 4 => 4 | 0 => 0 | n => n, fun | n => n⟩
theorem Tryz.lays194 : Go.Proofs.Lays.n194 Tryz.prog Tryz.lays194_ren := {
 mixed := by kernel_rfl
 f194 := Tryz.func98.trans (congrArg some (by kernel_rfl))
 t0 := Tryz.underlying0
 a0 := Tryz.isAgg0
 z0 := Tryz.sizeOf0
 v0 := Tryz.zeroValue0
 t3 := Tryz.underlying3
 a3 := Tryz.isAgg3
 z3 := Tryz.sizeOf3
 v3 := Tryz.zeroValue3
 t4 := Tryz.underlying4
 a4 := Tryz.isAgg4
 z4 := Tryz.sizeOf4
 v4 := Tryz.zeroValue4
 t9 := Tryz.underlying9
 a9 := Tryz.isAgg9
 z9 := Tryz.sizeOf9
 v9 := Tryz.zeroValue9
 t31 := Tryz.underlying28
 a31 := Tryz.isAgg28
 z31 := Tryz.sizeOf28
 v31 := Tryz.zeroValue28 }
open Go.RowKit Go.Lib Go.Sort in
open Go.RowKit Go.Lib Go.Sort in
theorem Tryz.slices_Compact_string (blk off cap : Nat) (zs : List (List UInt8)) (w : World) (hH : Holds encStr w blk off zs.toArray) (hsz : zs.length ≤ 9223372036854775807) (hcap : zs.length ≤ cap) :
  Calls Tryz.prog 98 #[.slice (some ⟨blk, off, none⟩) zs.length cap] w fun e w' => e = .returned (.slice (some ⟨blk, off, none⟩) (Lib.compact zs).length cap) ∧ ∃ q, w' = putRow encStr (Sort.ahead w q) blk off (Lib.compact zs ++ List.replicate (zs.length - (Lib.compact zs).length) []).toArray := Any.slices_Compact_string Tryz.lays194 blk off cap zs w hH hsz hcap
open Go.RowKit Go.Lib Go.Sort in
theorem Tryz.slices_Compact_string_empty (a : Option Addr) (cap : Nat) (w : World) :
  Calls Tryz.prog 98 #[.slice a 0 cap] w fun e w' => e = .returned (.slice a 0 cap) ∧ w' = w := Any.slices_Compact_string_empty Tryz.lays194 a cap w
open Go.RowKit Go.Lib Go.Sort in
open Go.RowKit Go.Sort in
theorem Tryz.slices_Sort_string_none (p : Option Addr) (cap : Nat) (w : World) :
  Calls Tryz.prog 97 #[.slice p 0 cap] w fun e w' => e = .returned (.tuple #[]) ∧ w' = w := Any.slices_Sort_string_none Tryz.lays190 p cap w
end Go.Proofs

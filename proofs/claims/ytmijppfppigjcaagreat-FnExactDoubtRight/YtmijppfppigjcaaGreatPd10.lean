/- What Touches returns, on both sides. -/
import Derived.Test.YtmijppfppigjcaaGreatProg
import Derived.WalkKit
import Derived.Test.YtmijppfppigjcaaGreatPd01
import Derived.WalkSpells
import Derived.WalkLawsBesides
import Derived.Deep.QuietTactic
import Derived.BigQuiet
import Derived.Deep.RegionHeld3
import Derived.Deep.DrawnRows
import Derived.Deep.AppendLies
import Derived.Test.YtmijppfppigjcaaGreatPd02
import Derived.Test.YtmijppfppigjcaaGreatPd03
import Derived.Deep.RegionHeld
import Derived.Maps.OwnSet
import Derived.StringKeys
import Derived.Sort.OwnSorted
import Derived.Lib.RowBridge
import Derived.Test.YtmijppfppigjcaaGreatPd04
import Derived.Test.YtmijppfppigjcaaGreatPd07
import Derived.Deep.Cut
import Derived.Deep.CutRange
namespace Go.Proofs.YtmijppfppigjcaaGreat
open Go.RowKit
open KM
attribute [local go_sem ↓] Go.wp_at_zero Go.wp_at_succ

def NoT (rs : List Rg) (ws : List Wt) (k : Nat) : Prop := ∀ j (hj : j < rs.length), j < k → ∀ i (hi : i < ws.length), inB rs[j] ws[i].1 = false
def NoI (r : Rg) (ws : List Wt) (k : Nat) : Prop := ∀ i (hi : i < ws.length), i < k → inB r ws[i].1 = false
theorem touch_yes {rs : List Rg} {ws : List Wt} (k m : Nat) (hk : k < rs.length) (hm : m < ws.length) (h : inB rs[k] ws[m].1 = true) : touchB rs ws = true := by
 unfold touchB
 rw [List.any_eq_true]
 exact ⟨rs[k], List.getElem_mem hk, by rw [List.any_eq_true]; exact ⟨ws[m], List.getElem_mem hm, h⟩⟩
theorem touch_no {rs : List Rg} {ws : List Wt} {k : Nat} (h : NoT rs ws k) (hk : rs.length ≤ k) : touchB rs ws = false := by
 unfold touchB
 rw [List.any_eq_false]
 intro r hr
 obtain ⟨j, hj, rfl⟩ := List.getElem_of_mem hr
 rw [Bool.not_eq_true, List.any_eq_false]
 intro x hx
 obtain ⟨i, hi, rfl⟩ := List.getElem_of_mem hx
 rw [h j hj (by omega) i hi]
 simp
theorem not_more {rs : List Rg} {ws : List Wt} {k m : Nat} (h : NoT rs ws k) (hk : k < rs.length) (h2 : NoI rs[k] ws m) (hm : ws.length ≤ m) : NoT rs ws (k + 1) := fun j hj hjk i hi => by
 by_cases e : j = k
 ·subst e; exact h2 i hi (by omega)
 ·exact h j hj (by omega) i hi
theorem noi_more {r : Rg} {ws : List Wt} {m : Nat} (h : NoI r ws m) (hm : m < ws.length) (h2 : inB r ws[m].1 = false) : NoI r ws (m + 1) := fun i hi him => by
 by_cases e : i = m
 ·subst e; exact h2
 ·exact h i hi (by omega)

end Go.Proofs.YtmijppfppigjcaaGreat

namespace Go.Proofs.YtmijppfppigjcaaGreat
open Go.RowKit Go.WideMaps Go.Maps
open KM
attribute [local go_sem ↓] Go.wp_at_zero Go.wp_at_succ

end Go.Proofs.YtmijppfppigjcaaGreat

namespace Go.Proofs.YtmijppfppigjcaaGreat
open Go.RowKit
open KM
attribute [local go_sem ↓] Go.wp_at_zero Go.wp_at_succ

def seesB (a b : Tx) : Bool := decide (b.st = 3) && decide (b.cs ≤ a.snap)
def besB (a b : Tx) : Bool := decide (a.id ≠ b.id) && !seesB a b && !seesB b a
def ahB (a b : Tx) : Bool := besB a b && touchB a.rs b.ws
end Go.Proofs.YtmijppfppigjcaaGreat

namespace Go.Proofs.YtmijppfppigjcaaGreat
open Go.RowKit
open KM
attribute [local go_sem ↓] Go.wp_at_zero Go.wp_at_succ

def befB (a b : Tx) : Bool := decide (a.st = 3) && decide (b.st = 3) && decide (a.id ≠ b.id) && (decide (a.cs ≤ b.snap) && touchB b.rs a.ws || decide (a.cs < b.cs) && meetB a.ws b.ws || decide (a.snap < b.cs) && touchB a.rs b.ws)
end Go.Proofs.YtmijppfppigjcaaGreat

namespace Go.Proofs.YtmijppfppigjcaaGreat
open Go.RowKit
open KM

def bef (ts : List Tx) (k i : Nat) : Bool := match ts[k]?, ts[i]? with
 | some a, some b => befB a b
 | _, _ => false
def freeB (ts : List Tx) (o : List Nat) (i : Nat) : Bool := !(o.contains i) && (List.range ts.length).all fun k => o.contains k || !(bef ts k i)
structure Ordd (ts : List Tx) (o : List Nat) : Prop where
 lt : ∀ j ∈ o, j < ts.length
 nd : o.Nodup
 no : ∀ j ∈ o, ∀ k, k < ts.length → k ∉ o → bef ts k j = false
theorem Ordd.nil (ts : List Tx) : Ordd ts [] := ⟨(fun _ h => by cases h), List.nodup_nil, (fun _ h => by cases h)⟩
theorem free_iff (ts : List Tx) (o : List Nat) (i : Nat) : freeB ts o i = true ↔ i ∉ o ∧ ∀ k, k < ts.length → k ∉ o → bef ts k i = false := by
 unfold freeB
 simp only [Bool.and_eq_true, Bool.not_eq_true', List.all_eq_true, List.mem_range, Bool.or_eq_true]
 constructor
 ·rintro ⟨h1, h2⟩
  refine ⟨fun h => by simp [h] at h1, fun k hk hn => ?_⟩
  rcases h2 k hk with h | h
  ·exact absurd (by simpa using h) hn
  ·exact h
 ·rintro ⟨h1, h2⟩
  refine ⟨by simpa using h1, fun k hk => ?_⟩
  by_cases h : k ∈ o
  ·left; simpa using h
  ·right; exact h2 k hk h
theorem Ordd.snoc {ts : List Tx} {o : List Nat} {i : Nat} (h : Ordd ts o) (hi : i < ts.length) (hf : freeB ts o i = true) : Ordd ts (o ++ [i]) := by
 obtain ⟨h1, h2⟩ := (free_iff ts o i).1 hf
 refine ⟨fun j hj => ?_, ?_, fun j hj k hk hn => ?_⟩
 ·rcases List.mem_append.1 hj with h3 | h3
  ·exact h.lt j h3
  ·rw [List.mem_singleton.1 h3]; exact hi
 ·rw [List.nodup_append]
  refine ⟨h.nd, by simp, fun a ha b hb => ?_⟩
  rw [List.mem_singleton.1 hb]
  intro e
  exact h1 (e ▸ ha)
 ·have hko : k ∉ o := fun hm => hn (List.mem_append_left _ hm)
  rcases List.mem_append.1 hj with h3 | h3
  ·exact h.no j h3 k hk hko
  ·rw [List.mem_singleton.1 h3]; exact h2 k hk hko
theorem nodup_le : ∀ (n : Nat) (o : List Nat), o.Nodup → (∀ j ∈ o, j < n) → o.length ≤ n
 | 0, o, _, h => by
  cases o with
  | nil => simp
  | cons x o => exact absurd (h x (List.mem_cons_self ..)) (Nat.not_lt_zero _)
 | n + 1, o, hn, h => by
  have h1 : (o.erase n).length ≤ n := nodup_le n (o.erase n) (hn.erase n) (fun j hj => by
   have h2 := (hn.mem_erase_iff).1 hj
   have h3 := h j h2.2
   have h4 := h2.1
   omega)
  by_cases hm : n ∈ o
  ·have := List.length_erase_of_mem hm
   omega
  ·rw [List.erase_of_not_mem hm] at h1
   omega
theorem Ordd.len {ts : List Tx} {o : List Nat} (h : Ordd ts o) : o.length ≤ ts.length := nodup_le _ o h.nd h.lt
end Go.Proofs.YtmijppfppigjcaaGreat

namespace Go.Proofs.YtmijppfppigjcaaGreat
namespace VM
open KM
def leC (a : Option Nd) (y : Nd) : Prop := match a with
 | none => True
 | some m => m.2.2.2.2 ≤ y.2.2.2.2
theorem fold_less {k : ByteArray} {s : Int} {y : Nd} : ∀ (D : List Nd) (a : Option Nd), leC a y → D.foldl (stp k s) (some y) ≠ some y → D.foldl (stp k s) a = D.foldl (stp k s) (some y)
 | [], _, _, h => absurd rfl h
 | z :: D, a, ha, h => by
  simp only [List.foldl_cons] at h ⊢
  cases ho : isOf k s z.2
  ·have e1 : stp k s (some y) z = some y := by unfold stp; rw [ho]; simp
   have e2 : stp k s a z = a := by unfold stp; rw [ho]; simp
   rw [e1] at h ⊢
   rw [e2]
   exact fold_less D a ha h
  ·by_cases hz : y.2.2.2.2 < z.2.2.2.2
   ·have e1 : stp k s (some y) z = some z := by unfold stp; rw [ho]; simp [more, hz]
    have e2 : stp k s a z = some z := by
     unfold stp; rw [ho]
     cases a with
     | none => simp [more]
     | some m =>
      have hm : m.2.2.2.2 ≤ y.2.2.2.2 := ha
      have : m.2.2.2.2 < z.2.2.2.2 := by omega
      simp [more, this]
    rw [e1, e2]
   ·have e1 : stp k s (some y) z = some y := by unfold stp; rw [ho]; simp [more, hz]
    rw [e1] at h ⊢
    refine fold_less D _ ?_ h
    unfold stp
    split
    ·show z.2.2.2.2 ≤ y.2.2.2.2; omega
    ·exact ha
theorem lst_out {k : ByteArray} {s : Int} (C D : List Nd) (y : Nd) (h : lst k s (C ++ y :: D) ≠ some y) : lst k s (C ++ D) = lst k s (C ++ y :: D) := by
 unfold lst at h ⊢
 simp only [List.foldl_append, List.foldl_cons] at h ⊢
 generalize C.foldl (stp k s) none = a at h ⊢
 by_cases hs : stp k s a y = some y
 ·rw [hs] at h ⊢
  by_cases hm : more a y = true
  ·refine fold_less D a ?_ h
   cases a with
   | none => trivial
   | some m =>
    have : m.2.2.2.2 < y.2.2.2.2 := by simpa [more] using hm
    show m.2.2.2.2 ≤ _; omega
  ·have e : stp k s a y = a := by unfold stp; rw [if_neg]; simp [hm]
   rw [← hs, e]
 ·have e : stp k s a y = a := by
   unfold stp at hs ⊢
   split
   ·rename_i h1; rw [if_pos h1] at hs; exact absurd rfl hs
   ·rfl
  rw [e]

def keep (s : Int) (ns : List Nd) (n : Nd) : Bool := decide (s < n.2.2.2.2) || ((lst n.2.1 s ns).map (·.1) == some n.1)
def goes1 (s : Int) (A : List Nd) (n : Nd) (B : List Nd) : Bool := decide (n.2.2.2.2 ≤ s) && !((lst n.2.1 s (A ++ n :: B)).map (·.1) == some n.1)
def cntN (k : ByteArray) (ns : List Nd) : Nat := (ns.filter fun m => decide (m.2.1 = k)).length
def goes2 (s : Int) (A : List Nd) (n : Nd) (B : List Nd) : Bool := decide (n.2.2.2.2 ≤ s) && n.2.2.2.1 && (cntN n.2.1 (A ++ n :: B) == 1)
def dropN (p : List Nd → Nd → List Nd → Bool) : List Nd → List Nd → List Nd
 | A, [] => A
 | A, n :: B => if p A n B = true then dropN p A B else dropN p (A ++ [n]) B
theorem drop1 {s : Int} {ns : List Nd} : ∀ (B A : List Nd), (∀ k, lst k s (A ++ B) = lst k s ns) → dropN (goes1 s) A B = A ++ B.filter (keep s ns)
 | [], A, _ => by simp [dropN]
 | n :: B, A, h => by
  have e : goes1 s A n B = !keep s ns n := by
   unfold goes1 keep
   rw [h]
   by_cases hs : n.2.2.2.2 ≤ s
   ·have hs' : ¬ s < n.2.2.2.2 := by omega
    simp [hs, hs']
   ·have hs' : s < n.2.2.2.2 := by omega
    simp [hs, hs']
  unfold dropN
  rw [e]
  cases hk : keep s ns n
  ·rw [if_pos (by simp), List.filter_cons_of_neg (by simp [hk])]
   refine drop1 B A (fun k => ?_)
   rw [lst_out A B n ?_, h]
   rw [h]
   intro hl
   by_cases ek : n.2.1 = k
   ·unfold keep at hk
    rw [ek, hl] at hk
    simp at hk
   ·have := (lst_mem hl).2
    unfold isOf at this
    simp [ek] at this
  ·rw [if_neg (by simp), List.filter_cons_of_pos hk, drop1 B (A ++ [n]) (fun k => by rw [← h k]; simp)]
   simp
theorem drop1_all (s : Int) (ns : List Nd) : dropN (goes1 s) [] ns = ns.filter (keep s ns) := by
 have h := drop1 (s := s) (ns := ns) ns [] (fun k => by rw [List.nil_append])
 rw [h, List.nil_append]

def stay2 (s : Int) (l : List Nd) (n : Nd) : Bool := !(decide (n.2.2.2.2 ≤ s) && n.2.2.2.1 && (cntN n.2.1 l == 1))
def Sole (s : Int) (l : List Nd) : Prop := l.Pairwise fun m n => m.2.1 = n.2.1 → m.2.2.2.2 ≤ s → n.2.2.2.2 ≤ s → False
theorem cnt_app (k : ByteArray) (A B : List Nd) : cntN k (A ++ B) = cntN k A + cntN k B := by simp [cntN]
theorem cnt_filter {s : Int} {l : List Nd} {k : ByteArray} : ∀ P : List Nd, (∀ m ∈ P, m.2.1 = k → ¬ m.2.2.2.2 ≤ s) → cntN k (P.filter (stay2 s l)) = cntN k P
 | [], _ => by simp
 | m :: P, h => by
  have ih := cnt_filter (s := s) (l := l) (k := k) P (fun x hx => h x (by simp [hx]))
  by_cases e : m.2.1 = k
  ·have hs : ¬ m.2.2.2.2 ≤ s := h m (by simp) e
   have hst : stay2 s l m = true := by unfold stay2; simp [hs]
   rw [List.filter_cons_of_pos hst]
   unfold cntN at ih ⊢
   rw [List.filter_cons_of_pos (by simp [e]), List.filter_cons_of_pos (by simp [e]), List.length_cons, List.length_cons, ih]
  ·have h2 : cntN k (m :: P) = cntN k P := by unfold cntN; rw [List.filter_cons_of_neg (by simp [e])]
   rw [h2, ← ih]
   cases hst : stay2 s l m
   ·rw [List.filter_cons_of_neg (by simp [hst])]
   ·rw [List.filter_cons_of_pos hst]
    unfold cntN; rw [List.filter_cons_of_neg (by simp [e])]
theorem drop2 {s : Int} {l : List Nd} (hl : Sole s l) : ∀ (B P : List Nd), l = P ++ B → dropN (goes2 s) (P.filter (stay2 s l)) B = l.filter (stay2 s l)
 | [], P, h => by simp [dropN, h]
 | n :: B, P, h => by
  have e : goes2 s (P.filter (stay2 s l)) n B = !stay2 s l n := by
   unfold goes2 stay2
   rw [Bool.not_not]
   by_cases hs : n.2.2.2.2 ≤ s
   ·have hP : ∀ m ∈ P, m.2.1 = n.2.1 → ¬ m.2.2.2.2 ≤ s := fun m hm ek hms => by
     have hl' := hl
     unfold Sole at hl'
     rw [h, List.pairwise_append] at hl'
     exact hl'.2.2 m hm n (by simp) ek hms hs
    have ec : cntN n.2.1 (P.filter (stay2 s l) ++ n :: B) = cntN n.2.1 l := by
     rw [cnt_app, cnt_filter P hP, ← cnt_app, ← h]
    have ec' : cntN n.2.1 (P.filter (fun n => !(decide (n.2.2.2.2 ≤ s) && n.2.2.2.1 && (cntN n.2.1 l == 1))) ++ n :: B) = cntN n.2.1 l := ec
    rw [ec']
   ·simp [hs]
  unfold dropN
  rw [e]
  have hn : l = (P ++ [n]) ++ B := by rw [h]; simp
  have ih := drop2 hl B (P ++ [n]) hn
  rw [List.filter_append] at ih
  cases hk : stay2 s l n
  ·rw [if_pos (by simp)]
   rw [List.filter_cons_of_neg (by simp [hk])] at ih
   simpa using ih
  ·rw [if_neg (by simp)]
   rw [List.filter_cons_of_pos hk] at ih
   simpa using ih
theorem drop2_all {s : Int} {l : List Nd} (hl : Sole s l) : dropN (goes2 s) [] l = l.filter (stay2 s l) := drop2 hl l [] rfl
theorem sole_keep {s : Int} {ns : List Nd} (hnd : (ns.map (·.1)).Nodup) : Sole s (ns.filter (keep s ns)) := by
 unfold Sole
 have hnd' : ns.Pairwise fun m n => m.1 ≠ n.1 := by
  unfold List.Nodup at hnd
  rwa [List.pairwise_map] at hnd
 have h1 : (ns.filter (keep s ns)).Pairwise fun m n => m.1 ≠ n.1 := hnd'.filter _
 refine List.Pairwise.imp_of_mem ?_ h1
 intro m n hm hn hne ek h2 h3
 have km := (List.mem_filter.1 hm).2
 have kn := (List.mem_filter.1 hn).2
 unfold keep at km kn
 have a1 : ¬ s < m.2.2.2.2 := by omega
 have a2 : ¬ s < n.2.2.2.2 := by omega
 simp only [a1, decide_false, Bool.false_or, beq_iff_eq] at km
 simp only [a2, decide_false, Bool.false_or, beq_iff_eq] at kn
 rw [ek, kn] at km
 exact hne (Option.some.inj km).symm

theorem lst_place {k : ByteArray} {s : Int} {P : List Nd} {vs : List Vr} (h : P.map (·.2) = vs) : ∀ n, n ≤ P.length → lst k s (P.take n) = (lst k s (lab vs n)).bind fun x => P[x.1]?
 | 0, _ => by simp [lab, lst]
 | n + 1, hn => by
  have hv : n < vs.length := by rw [← h, List.length_map]; omega
  have ih := lst_place (k := k) (s := s) h n (by omega)
  have ev : vs[n] = (P[n]'(by omega)).2 := by simp [← h]
  rw [List.take_succ_eq_append_getElem (by omega : n < P.length), lst_snoc, lab_succ hv, lst_snoc, ih]
  cases hl : lst k s (lab vs n) with
  | none =>
   simp only [Option.bind_none]
   unfold stp
   rw [ev]
   simp only [more, Bool.and_true]
   split
   ·simp only [Option.bind_some]; rw [List.getElem?_eq_getElem (by omega)]
   ·rfl
  | some x =>
   obtain ⟨hx, hxv⟩ := lab_mem (lst_mem hl).1
   have hxP : x.1 < P.length := by omega
   have ex : (P[x.1]'hxP).2 = x.2 := by
    rw [← h, List.getElem?_map, List.getElem?_eq_getElem hxP] at hxv
    simpa using hxv
   simp only [Option.bind_some]
   rw [List.getElem?_eq_getElem hxP]
   have em : more (some (P[x.1]'hxP)) (P[n]'(by omega)) = more (some x) (n, (P[n]'(by omega)).2) := by simp only [more, ex]
   unfold stp
   rw [ev, em]
   split
   ·simp only [Option.bind_some]; rw [List.getElem?_eq_getElem (by omega)]
   ·simp only [Option.bind_some]; rw [List.getElem?_eq_getElem hxP]
theorem keep_lab {s : Int} {P : List Nd} {vs : List Vr} (h : P.map (·.2) = vs) (hnd : (P.map (·.1)).Nodup) (i : Nat) (hi : i < P.length) (hv : i < vs.length) :
  keep s P P[i] = keep s (lab vs vs.length) (i, vs[i]) := by
 have ev : vs[i] = P[i].2 := by simp [← h]
 have hlen : vs.length = P.length := by rw [← h, List.length_map]
 unfold keep
 simp only [ev]
 congr 1
 have hp := lst_place (k := P[i].2.1) (s := s) h P.length (Nat.le_refl _)
 rw [List.take_length] at hp
 rw [hp, hlen]
 cases hl : lst P[i].2.1 s (lab vs P.length) with
 | none => rfl
 | some x =>
  obtain ⟨hx, _⟩ := lab_mem (lst_mem hl).1
  simp only [Option.bind_some, Option.map_some]
  rw [List.getElem?_eq_getElem hx]
  simp only [Option.map_some]
  by_cases e : x.1 = i
  ·simp only [e]; simp
  ·have h2 : (P[x.1]'hx).1 ≠ P[i].1 := fun he => e (by
    have hx' : x.1 < (P.map (·.1)).length := by rw [List.length_map]; exact hx
    have hi' : i < (P.map (·.1)).length := by rw [List.length_map]; exact hi
    have hp := List.pairwise_iff_getElem.1 hnd
    rcases Nat.lt_trichotomy x.1 i with h1 | h1 | h1
    ·exact absurd (by simpa using he) (hp x.1 i hx' hi' h1)
    ·exact h1
    ·exact absurd (by simpa using he.symm) (hp i x.1 hi' hx' h1))
   have b1 : (some (P[x.1]'hx).1 == some P[i].1) = false := by simpa using h2
   have b2 : (some x.1 == some i) = false := by simpa using e
   rw [b1, b2]

def T1 (s : Int) (vs : List Vr) : Nat → List Vr
 | 0 => []
 | i + 1 => T1 s vs i ++ (match vs[i]? with
  | some v => if keep s (lab vs vs.length) (i, v) = true then [v] else []
  | none => [])
theorem T1_yes {s : Int} {vs : List Vr} {i : Nat} (h : i < vs.length) (hk : keep s (lab vs vs.length) (i, vs[i]) = true) : T1 s vs (i + 1) = T1 s vs i ++ [vs[i]] := by
 simp only [T1, List.getElem?_eq_getElem h, hk, if_true]
theorem T1_no {s : Int} {vs : List Vr} {i : Nat} (h : i < vs.length) (hk : keep s (lab vs vs.length) (i, vs[i]) = false) : T1 s vs (i + 1) = T1 s vs i := by
 simp only [T1, List.getElem?_eq_getElem h, hk, Bool.false_eq_true, if_false, List.append_nil]
theorem T1_len (s : Int) (vs : List Vr) : ∀ i, (T1 s vs i).length ≤ i
 | 0 => by simp [T1]
 | i + 1 => by
  have ih := T1_len s vs i
  simp only [T1, List.length_append]
  split
  ·split <;> simp <;> omega
  ·simp; omega
theorem T1_of {s : Int} {P : List Nd} {vs : List Vr} (h : P.map (·.2) = vs) (hnd : (P.map (·.1)).Nodup) : ∀ n, n ≤ P.length → ((P.take n).filter (keep s P)).map (·.2) = T1 s vs n
 | 0, _ => by simp [T1]
 | n + 1, hn => by
  have hlen : vs.length = P.length := by rw [← h, List.length_map]
  have ih := T1_of (s := s) h hnd n (by omega)
  have ek := keep_lab (s := s) h hnd n (by omega) (by omega)
  have ev : vs[n]'(by omega) = (P[n]'(by omega)).2 := by simp [← h]
  rw [List.take_succ_eq_append_getElem (by omega : n < P.length), List.filter_append, List.map_append, ih]
  cases hk : keep s P (P[n]'(by omega))
  ·rw [T1_no (by omega) (by rw [← ek]; exact hk)]
   simp [hk]
  ·rw [T1_yes (by omega) (by rw [← ek]; exact hk), ev]
   simp [hk]
def cntV (k : ByteArray) (l : List Vr) : Nat := (l.filter fun v => decide (v.1 = k)).length
def stayV (s : Int) (l : List Vr) (v : Vr) : Bool := !(decide (v.2.2.2 ≤ s) && v.2.2.1 && (cntV v.1 l == 1))
def trimB (s : Int) (vs : List Vr) : List Vr := (T1 s vs vs.length).filter (stayV s (T1 s vs vs.length))
theorem cnt_snd (k : ByteArray) (l : List Nd) : cntN k l = cntV k (l.map (·.2)) := by
 unfold cntN cntV
 rw [List.filter_map, List.length_map]
 rfl
theorem trim_of {s : Int} {P : List Nd} {vs : List Vr} (h : P.map (·.2) = vs) (hnd : (P.map (·.1)).Nodup) : (dropN (goes2 s) [] (dropN (goes1 s) [] P)).map (·.2) = trimB s vs := by
 rw [drop1_all, drop2_all (sole_keep hnd)]
 have h1 := T1_of (s := s) h hnd P.length (Nat.le_refl _)
 rw [List.take_length] at h1
 have hlen : vs.length = P.length := by rw [← h, List.length_map]
 unfold trimB
 rw [hlen, ← h1, List.filter_map]
 congr 1
 apply List.filter_congr
 intro n _
 show stay2 s _ n = stayV s _ n.2
 unfold stay2 stayV
 rw [cnt_snd]
end VM
end Go.Proofs.YtmijppfppigjcaaGreat

namespace Go.Proofs.YtmijppfppigjcaaGreat
open Go.RowKit
open KM
attribute [local go_sem ↓] Go.wp_at_zero Go.wp_at_succ

set_option maxRecDepth 100000 in
set_option maxHeartbeats 4000000 in
theorem itouch (rs : List Rg) (ws : List Wt) (a1 a2 : Option Addr) (c1 c2 : Nat) (hn : rs.length ≤ 100000000) (hm : ws.length ≤ 100000000) (w : World) (hr : GRow encR w a1 rs) (hw : GRow encW w a2 ws) :
  Calls Tryz.prog 158 #[.slice a1 rs.length c1, .slice a2 ws.length c2] w fun e w' => e = .returned (.bool (touchB rs ws)) ∧ Below w.heap.size w w' := by
 have HR : Hid (GRow encR w a1 rs) := hr
 have HW : Hid (GRow encW w a2 ws) := hw
 clear hr hw
 go_enter Tryz.func158, Tryz.ntmps158
 go_wp2
 go_loopw [11] (fun t wr => ∃ k : Nat, k ≤ rs.length ∧ t = .int .i64 k ∧ Hid (NoT rs ws k) ∧ Hid (Below w.heap.size w wr)) (fun t _ => rs.length - (intOf t).toNat)
 case atStart => exact ⟨0, Nat.zero_le _, rfl, fun j hj h => by omega, belowRefl w⟩
 case round =>
  obtain ⟨k, hk, rfl, HG, HB⟩ := hrel
  by_cases hlt : k < rs.length
  ·have hlt' : (k : Int) < (rs.length : Int) := by omega
   have hk0 : (0 : Int) ≤ (k : Int) := by omega
   obtain ⟨b, off, rfl, hbl, hc⟩ := (HR.out.below HB.out) (by omega)
   have r0 := (rat hc k hlt).1
   have r1 := (rat hc k hlt).2
   clear hc
   have HX : Hid (Box (wr.alloc (.cells #[.string rs[k].1, .string rs[k].2] 156)) wr.heap.size [.string rs[k].1, .string rs[k].2]) := Box.new wr [.string rs[k].1, .string rs[k].2] 156
   have HB1 : Hid (Below w.heap.size w (wr.alloc (.cells #[.string rs[k].1, .string rs[k].2] 156))) := HB.out.alloc HB.out.size _
   go_wp2
   go_loopw [17] (fun t wr2 => ∃ m : Nat, m ≤ ws.length ∧ t = .int .i64 m ∧ Hid (NoI rs[k] ws m) ∧ Hid (Below w.heap.size w wr2) ∧ Hid (Box wr2 wr.heap.size [.string rs[k].1, .string rs[k].2])) (fun t _ => ws.length - (intOf t).toNat)
   case atStart => exact ⟨0, Nat.zero_le _, rfl, fun j hj h => by omega, HB1, HX⟩
   case round =>
    clear HX HB1 r0 r1
    obtain ⟨m, hmk, rfl, HI, HB2, HX2⟩ := hrel
    by_cases hlm : m < ws.length
    ·have hlm' : (m : Int) < (ws.length : Int) := by omega
     have hm0 : (0 : Int) ≤ (m : Int) := by omega
     obtain ⟨b2, off2, rfl, hbl2, hc2⟩ := (HW.out.below HB2.out) (by omega)
     have q0 := (wat hc2 m hlm).1
     have q1 := (wat hc2 m hlm).2.1
     have q2 := (wat hc2 m hlm).2.2
     clear hc2
     have x0 := HX2.out.c0
     have x1 := HX2.out.c1
     have xl := HX2.out.lt
     have HX3 : Hid (Box (wr.alloc (.cells #[.string ws[m].1, .string ws[m].2.1, .bool ws[m].2.2] 148)) _ [.string rs[k].1, .string rs[k].2]) := HX2.out.below ((belowRefl wr).alloc (Nat.le_refl _) _)
     have HB3 : Hid (Below w.heap.size w (wr.alloc (.cells #[.string ws[m].1, .string ws[m].2.1, .bool ws[m].2.2] 148))) := HB2.out.alloc HB2.out.size _
     cases hin : inB rs[k] ws[m].1
     ·have C1 : Hid (∀ w, Calls Tryz.prog 165 #[.agg #[.string rs[k].1, .string rs[k].2], .string ws[m].1] w fun e w' => e = .returned (.bool false) ∧ Below w.heap.size w w') := fun w => by
       have h := iin rs[k].1 rs[k].2 ws[m].1 w
       rw [show inB (rs[k].1, rs[k].2) ws[m].1 = false from hin] at h
       exact h
      have HI2 : Hid (NoI rs[k] ws (m + 1)) := noi_more HI.out hlm hin
      clear hin
      go_wp2_with fail
      refine (C1.out _).mono ?_
      rintro e w3 ⟨rfl, hb3⟩
      have HX4 : Hid (Box w3 _ [.string rs[k].1, .string rs[k].2]) := HX3.out.below hb3
      have HB4 : Hid (Below w.heap.size w w3) := HB3.out.trans (hb3.mono HB3.out.size)
      clear hb3 x0 x1 q0 q1 q2
      go_wp2
      go_roundw
      case rel => exact ⟨m + 1, by omega, by go_num, HI2, HB4, HX4⟩
      case measure => simp [intOf]; omega
     ·have C1 : Hid (∀ w, Calls Tryz.prog 165 #[.agg #[.string rs[k].1, .string rs[k].2], .string ws[m].1] w fun e w' => e = .returned (.bool true) ∧ Below w.heap.size w w') := fun w => by
       have h := iin rs[k].1 rs[k].2 ws[m].1 w
       rw [show inB (rs[k].1, rs[k].2) ws[m].1 = true from hin] at h
       exact h
      have HT : Hid (touchB rs ws = true) := touch_yes k m hlt hlm hin
      clear hin
      go_wp2_with fail
      refine (C1.out _).mono ?_
      rintro e w3 ⟨rfl, hb3⟩
      have HB4 : Hid (Below w.heap.size w w3) := HB3.out.trans (hb3.mono HB3.out.size)
      clear hb3 x0 x1 q0 q1 q2
      go_wp2
      go_ret
      exact ⟨ret_bool HT.out.symm, HB4.out⟩
    ·have hlm' : ¬ (m : Int) < (ws.length : Int) := by omega
     have HG2 : Hid (NoT rs ws (k + 1)) := not_more HG.out hlt HI.out (by omega)
     go_wp2
     go_roundw
     case rel => exact ⟨k + 1, by omega, by go_num, HG2, HB2⟩
     case measure => simp [intOf]; omega
  ·have hlt' : ¬ (k : Int) < (rs.length : Int) := by omega
   have HN : Hid (touchB rs ws = false) := touch_no HG.out (by omega)
   go_wp2
   go_ret
   exact ⟨ret_bool HN.out.symm, HB.out⟩

set_option maxRecDepth 100000 in
set_option maxHeartbeats 4000000 in
theorem stouch (rs : List Rg) (ws : List Wt) (a1 a2 : Option Addr) (c1 c2 : Nat) (hn : rs.length ≤ 100000000) (hm : ws.length ≤ 100000000) (w : World) (hr : GRow encR w a1 rs) (hw : GRow encW w a2 ws) :
  Calls Tryz.prog 82 #[.slice a1 rs.length c1, .slice a2 ws.length c2] w fun e w' => e = .returned (.bool (touchB rs ws)) ∧ Below w.heap.size w w' := by
 have HR : Hid (GRow encR w a1 rs) := hr
 have HW : Hid (GRow encW w a2 ws) := hw
 clear hr hw
 go_enter Tryz.func82, Tryz.ntmps82
 go_wp2
 go_loopw [5] (fun t wr => ∃ k : Nat, k ≤ rs.length ∧ t = .int .i64 k ∧ Hid (NoT rs ws k) ∧ Hid (Below w.heap.size w wr)) (fun t _ => rs.length - (intOf t).toNat)
 case atStart => exact ⟨0, Nat.zero_le _, rfl, fun j hj h => by omega, belowRefl w⟩
 case round =>
  obtain ⟨k, hk, rfl, HG, HB⟩ := hrel
  by_cases hlt : k < rs.length
  ·have hlt' : (k : Int) < (rs.length : Int) := by omega
   have hk0 : (0 : Int) ≤ (k : Int) := by omega
   go_wp2
   go_loopw [6] (fun t wr2 => ∃ m : Nat, m ≤ ws.length ∧ t = .int .i64 m ∧ Hid (NoI rs[k] ws m) ∧ Hid (Below w.heap.size w wr2)) (fun t _ => ws.length - (intOf t).toNat)
   case atStart => exact ⟨0, Nat.zero_le _, rfl, fun j hj h => by omega, HB⟩
   case round =>
    obtain ⟨m, hmk, rfl, HI, HB2⟩ := hrel
    by_cases hlm : m < ws.length
    ·have hlm' : (m : Int) < (ws.length : Int) := by omega
     have hm0 : (0 : Int) ≤ (m : Int) := by omega
     obtain ⟨b, off, rfl, hbl, hc⟩ := (HR.out.below HB2.out) (by omega)
     have r0 := (rat hc k hlt).1
     have r1 := (rat hc k hlt).2
     clear hc
     obtain ⟨b2, off2, rfl, hbl2, hc2⟩ := (HW.out.below HB2.out) (by omega)
     have q0 := (wat hc2 m hlm).1
     clear hc2
     cases hin : inB rs[k] ws[m].1
     ·have C1 : Hid (∀ w, Calls Tryz.prog 117 #[.agg #[.string rs[k].1, .string rs[k].2], .string ws[m].1] w fun e w' => e = .returned (.bool false) ∧ Below w.heap.size w w') := fun w => by
       have h := sin rs[k].1 rs[k].2 ws[m].1 w
       rw [show inB (rs[k].1, rs[k].2) ws[m].1 = false from hin] at h
       exact h
      have HI2 : Hid (NoI rs[k] ws (m + 1)) := noi_more HI.out hlm hin
      clear hin
      go_wp2
      go_region_held3 (fun w' => w'.cell? ⟨b, off + k * 2, none⟩ = some (.string rs[k].1) ∧ w'.cell? ⟨b, off + k * 2 + 1, none⟩ = some (.string rs[k].2) ∧ w'.cell? ⟨b2, off2 + m * 3, none⟩ = some (.string ws[m].1)) (first | go_keep | exact ⟨(hb3.cell (p := ⟨b, off + k * 2, none⟩) hbl).trans r0, (hb3.cell (p := ⟨b, off + k * 2 + 1, none⟩) hbl).trans r1, (hb3.cell (p := ⟨b2, off2 + m * 3, none⟩) hbl2).trans q0⟩) ((go_at_call 117; refine (C1.out _).mono ?_; rintro e w3 ⟨rfl, hb3⟩))
      all_goals
       go_wp2
       go_roundw
       case rel => exact ⟨m + 1, by omega, by go_num, HI2, HB2.out.drew.trans (hb3.mono HB2.out.size)⟩
       case measure => simp [intOf]; omega
     ·have C1 : Hid (∀ w, Calls Tryz.prog 117 #[.agg #[.string rs[k].1, .string rs[k].2], .string ws[m].1] w fun e w' => e = .returned (.bool true) ∧ Below w.heap.size w w') := fun w => by
       have h := sin rs[k].1 rs[k].2 ws[m].1 w
       rw [show inB (rs[k].1, rs[k].2) ws[m].1 = true from hin] at h
       exact h
      have HT : Hid (touchB rs ws = true) := touch_yes k m hlt hlm hin
      clear hin
      go_wp2
      go_region_held3 (fun w' => w'.cell? ⟨b, off + k * 2, none⟩ = some (.string rs[k].1) ∧ w'.cell? ⟨b, off + k * 2 + 1, none⟩ = some (.string rs[k].2) ∧ w'.cell? ⟨b2, off2 + m * 3, none⟩ = some (.string ws[m].1)) (first | go_keep | exact ⟨(hb3.cell (p := ⟨b, off + k * 2, none⟩) hbl).trans r0, (hb3.cell (p := ⟨b, off + k * 2 + 1, none⟩) hbl).trans r1, (hb3.cell (p := ⟨b2, off2 + m * 3, none⟩) hbl2).trans q0⟩) ((go_at_call 117; refine (C1.out _).mono ?_; rintro e w3 ⟨rfl, hb3⟩))
      all_goals
       go_wp2
       go_ret
       exact ⟨ret_bool HT.out.symm, HB2.out.drew.trans (hb3.mono HB2.out.size)⟩
    ·have hlm' : ¬ (m : Int) < (ws.length : Int) := by omega
     have HG2 : Hid (NoT rs ws (k + 1)) := not_more HG.out hlt HI.out (by omega)
     go_wp2
     go_roundw
     case rel => exact ⟨k + 1, by omega, by go_num, HG2, HB2⟩
     case measure => simp [intOf]; omega
  ·have hlt' : ¬ (k : Int) < (rs.length : Int) := by omega
   have HN : Hid (touchB rs ws = false) := touch_no HG.out (by omega)
   go_wp2
   go_ret
   exact ⟨ret_bool HN.out.symm, HB.out⟩
end Go.Proofs.YtmijppfppigjcaaGreat

namespace Go.Proofs.YtmijppfppigjcaaGreat
open Go.RowKit
open KM
attribute [local go_sem ↓] Go.wp_at_zero Go.wp_at_succ

set_option maxRecDepth 100000 in
set_option maxHeartbeats 2000000 in
theorem isees (a b : Tx) (ra wa : Option Addr) (rc wc : Nat) (ra2 wa2 : Option Addr) (rc2 wc2 : Nat) (w : World) :
  Calls Tryz.prog 164 #[.agg #[.int .i64 a.id, .int .i64 a.st, .int .i64 a.snap, .int .i64 a.cs, .slice ra a.rs.length rc, .slice wa a.ws.length wc, .bool a.out, .string a.nm], .agg #[.int .i64 b.id, .int .i64 b.st, .int .i64 b.snap, .int .i64 b.cs, .slice ra2 b.rs.length rc2, .slice wa2 b.ws.length wc2, .bool b.out, .string b.nm]] w fun e w' => e = .returned (.bool (seesB a b)) ∧ Below w.heap.size w w' := by
 by_cases h1 : b.st = 3
 ·by_cases h2 : b.cs ≤ a.snap
  ·have HR : Hid (seesB a b = true) := by show _ = _; simp [seesB, h1, h2]
   go_enter Tryz.func164, Tryz.ntmps164
   go_wp2
   go_ret
   exact ⟨ret_bool HR.out.symm, ((belowRefl w).alloc (Nat.le_refl _) _).alloc (by simp) _⟩
  ·have HR : Hid (seesB a b = false) := by show _ = _; simp [seesB, h1, h2]
   go_enter Tryz.func164, Tryz.ntmps164
   go_wp2
   go_ret
   exact ⟨ret_bool HR.out.symm, ((belowRefl w).alloc (Nat.le_refl _) _).alloc (by simp) _⟩
 ·have HR : Hid (seesB a b = false) := by show _ = _; simp [seesB, h1]
  go_enter Tryz.func164, Tryz.ntmps164
  go_wp2
  go_ret
  exact ⟨ret_bool HR.out.symm, ((belowRefl w).alloc (Nat.le_refl _) _).alloc (by simp) _⟩

set_option maxRecDepth 100000 in
set_option maxHeartbeats 2000000 in
theorem ibeside (a b : Tx) (ra wa : Option Addr) (rc wc : Nat) (ra2 wa2 : Option Addr) (rc2 wc2 : Nat) (w : World) :
  Calls Tryz.prog 157 #[.agg #[.int .i64 a.id, .int .i64 a.st, .int .i64 a.snap, .int .i64 a.cs, .slice ra a.rs.length rc, .slice wa a.ws.length wc, .bool a.out, .string a.nm], .agg #[.int .i64 b.id, .int .i64 b.st, .int .i64 b.snap, .int .i64 b.cs, .slice ra2 b.rs.length rc2, .slice wa2 b.ws.length wc2, .bool b.out, .string b.nm]] w fun e w' => e = .returned (.bool (besB a b)) ∧ Below w.heap.size w w' := by
 have HB0 : Hid (Below w.heap.size w ((w.alloc (.cells #[.int .i64 a.id, .int .i64 a.st, .int .i64 a.snap, .int .i64 a.cs, .slice ra a.rs.length rc, .slice wa a.ws.length wc, .bool a.out, .string a.nm] 62)).alloc (.cells #[.int .i64 b.id, .int .i64 b.st, .int .i64 b.snap, .int .i64 b.cs, .slice ra2 b.rs.length rc2, .slice wa2 b.ws.length wc2, .bool b.out, .string b.nm] 62))) := ((belowRefl w).alloc (Nat.le_refl _) _).alloc (by simp) _
 have BA0 : Hid (Bx ((w.alloc (.cells #[.int .i64 a.id, .int .i64 a.st, .int .i64 a.snap, .int .i64 a.cs, .slice ra a.rs.length rc, .slice wa a.ws.length wc, .bool a.out, .string a.nm] 62)).alloc (.cells #[.int .i64 b.id, .int .i64 b.st, .int .i64 b.snap, .int .i64 b.cs, .slice ra2 b.rs.length rc2, .slice wa2 b.ws.length wc2, .bool b.out, .string b.nm] 62)) w.heap.size [.int .i64 a.id, .int .i64 a.st, .int .i64 a.snap, .int .i64 a.cs, .slice ra a.rs.length rc, .slice wa a.ws.length wc, .bool a.out, .string a.nm]) := (Bx.new w [.int .i64 a.id, .int .i64 a.st, .int .i64 a.snap, .int .i64 a.cs, .slice ra a.rs.length rc, .slice wa a.ws.length wc, .bool a.out, .string a.nm] 62).alloc _
 have BB0 : Hid (Bx ((w.alloc (.cells #[.int .i64 a.id, .int .i64 a.st, .int .i64 a.snap, .int .i64 a.cs, .slice ra a.rs.length rc, .slice wa a.ws.length wc, .bool a.out, .string a.nm] 62)).alloc (.cells #[.int .i64 b.id, .int .i64 b.st, .int .i64 b.snap, .int .i64 b.cs, .slice ra2 b.rs.length rc2, .slice wa2 b.ws.length wc2, .bool b.out, .string b.nm] 62)) (w.heap.size + 1) [.int .i64 b.id, .int .i64 b.st, .int .i64 b.snap, .int .i64 b.cs, .slice ra2 b.rs.length rc2, .slice wa2 b.ws.length wc2, .bool b.out, .string b.nm]) := by have h := Bx.new (w.alloc (.cells #[.int .i64 a.id, .int .i64 a.st, .int .i64 a.snap, .int .i64 a.cs, .slice ra a.rs.length rc, .slice wa a.ws.length wc, .bool a.out, .string a.nm] 62)) [.int .i64 b.id, .int .i64 b.st, .int .i64 b.snap, .int .i64 b.cs, .slice ra2 b.rs.length rc2, .slice wa2 b.ws.length wc2, .bool b.out, .string b.nm] 62; simpa [Hid] using h
 by_cases h1 : a.id = b.id
 ·have h1' : (a.id != b.id) = false := by simp [h1]
  have h1'' : decide (a.id = b.id) = true := by simp [h1]
  have HR : Hid (besB a b = false) := by show _ = _; simp [besB, h1]
  clear h1
  go_enter Tryz.func157, Tryz.ntmps157
  go_wp2
  go_ret
  exact ⟨ret_bool HR.out.symm, HB0.out⟩
 ·have h1' : (a.id != b.id) = true := by simp [h1]
  have h1'' : decide (a.id = b.id) = false := by simp [h1]
  have E1 : Hid (besB a b = (!seesB a b && !seesB b a)) := by show _ = _; simp [besB, h1]
  clear h1
  have H1 := hide (isees a b ra wa rc wc ra2 wa2 rc2 wc2)
  have H2 := hide (isees b a ra2 wa2 rc2 wc2 ra wa rc wc)
  cases hs : seesB a b
  ·rw [hs] at H1 E1
   go_enter Tryz.func157, Tryz.ntmps157
   go_wp2_with fail
   refine (H1.out _).mono ?_
   rintro e w1 ⟨rfl, hb1⟩
   have HB1 : Hid (Below w.heap.size w w1) := HB0.out.trans (hb1.mono HB0.out.size)
   have BA1 : Hid (Bx w1 w.heap.size [.int .i64 a.id, .int .i64 a.st, .int .i64 a.snap, .int .i64 a.cs, .slice ra a.rs.length rc, .slice wa a.ws.length wc, .bool a.out, .string a.nm]) := BA0.out.below hb1
   have BB1 : Hid (Bx w1 (w.heap.size + 1) [.int .i64 b.id, .int .i64 b.st, .int .i64 b.snap, .int .i64 b.cs, .slice ra2 b.rs.length rc2, .slice wa2 b.ws.length wc2, .bool b.out, .string b.nm]) := BB0.out.below hb1
   clear hb1
   have x0 := BA1.out.c0
   have x1 := BA1.out.c1
   have x2 := BA1.out.c2
   have x3 := BA1.out.c3
   have x4 := BA1.out.c4
   have x5 := BA1.out.c5
   have x6 := BA1.out.c6
   have x7 := BA1.out.c7
   have y0 := BB1.out.c0
   have y1 := BB1.out.c1
   have y2 := BB1.out.c2
   have y3 := BB1.out.c3
   have y4 := BB1.out.c4
   have y5 := BB1.out.c5
   have y6 := BB1.out.c6
   have y7 := BB1.out.c7
   go_wp2_with fail
   refine (H2.out _).mono ?_
   rintro e w2 ⟨rfl, hb2⟩
   have HB2 : Hid (Below w.heap.size w w2) := HB1.out.trans (hb2.mono HB1.out.size)
   have BA2 : Hid (Bx w2 w.heap.size [.int .i64 a.id, .int .i64 a.st, .int .i64 a.snap, .int .i64 a.cs, .slice ra a.rs.length rc, .slice wa a.ws.length wc, .bool a.out, .string a.nm]) := BA1.out.below hb2
   have BB2 : Hid (Bx w2 (w.heap.size + 1) [.int .i64 b.id, .int .i64 b.st, .int .i64 b.snap, .int .i64 b.cs, .slice ra2 b.rs.length rc2, .slice wa2 b.ws.length wc2, .bool b.out, .string b.nm]) := BB1.out.below hb2
   go_wp2
   go_ret
   exact ⟨ret_bool (by rw [E1.out]; simp), HB2.out⟩
  ·rw [hs] at H1 E1
   go_enter Tryz.func157, Tryz.ntmps157
   go_wp2_with fail
   refine (H1.out _).mono ?_
   rintro e w1 ⟨rfl, hb1⟩
   have HB1 : Hid (Below w.heap.size w w1) := HB0.out.trans (hb1.mono HB0.out.size)
   have BA1 : Hid (Bx w1 w.heap.size [.int .i64 a.id, .int .i64 a.st, .int .i64 a.snap, .int .i64 a.cs, .slice ra a.rs.length rc, .slice wa a.ws.length wc, .bool a.out, .string a.nm]) := BA0.out.below hb1
   have BB1 : Hid (Bx w1 (w.heap.size + 1) [.int .i64 b.id, .int .i64 b.st, .int .i64 b.snap, .int .i64 b.cs, .slice ra2 b.rs.length rc2, .slice wa2 b.ws.length wc2, .bool b.out, .string b.nm]) := BB0.out.below hb1
   go_wp2
   go_ret
   exact ⟨ret_bool (by rw [E1.out]; simp), HB1.out⟩

end Go.Proofs.YtmijppfppigjcaaGreat

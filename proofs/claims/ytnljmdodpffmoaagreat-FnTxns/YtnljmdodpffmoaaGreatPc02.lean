/- Blocks that bear known cells, and chains of nodes. -/
import Derived.Test.YtnljmdodpffmoaaGreatPc01
import Derived.Shelf.Sort.Plain
import Derived.Ground.Names2Prog
import Derived.Shelf.Slices.CompactS
import Derived.Shelf.Slices.Cells
import Derived.Shelf.Slices.In.SortNone
import Derived.Test.YtnljmdodpffmoaaGreatProg
import Derived.Lib.SlicesCompact
import Derived.Sort.Walk0
import Derived.Sort.OwnSorted
import Derived.Lib.RowBridge
import Derived.Deep.LoopGhost
namespace Go.Proofs.YtnljmdodpffmoaaGreat
open Go.RowKit
open KM
theorem grown_trans {a b c : World} {row : Option Nat} (h : a.grownBy b row) (k : b.grownBy c row) : a.grownBy c row :=
 ⟨k.os.trans h.os, k.tape.trans h.tape, k.output.trans h.output, Nat.le_trans h.size k.size, fun j hj hne => (k.block j (Nat.lt_of_lt_of_le hj h.size) hne).trans (h.block j hj hne)⟩
theorem grown_refl (w : World) (row : Option Nat) : w.grownBy w row := ⟨rfl, rfl, rfl, Nat.le_refl _, fun _ _ _ => rfl⟩
theorem grown_set (w : World) (g k : Nat) (v : Value) : w.grownBy (w.setCell ⟨g, k, none⟩ v) (some g) :=
 ⟨rfl, rfl, rfl, by simp [World.setCell], fun j _ hne => Below.heap_setCell _ _ _ _ (fun e => hne (by rw [e]))⟩
theorem grown_below {w w' : World} (row : Option Nat) (hb : Below w.heap.size w w') : w.grownBy w' row := ⟨hb.os, hb.tape, hb.output, hb.size, fun j hj _ => hb.block j hj⟩
theorem addr_ne (g : Nat) {i k : Nat} (h : i ≠ k) : (⟨g, i, none⟩ : Addr) ≠ ⟨g, k, none⟩ := fun e => h (by cases e; rfl)
structure Bx (w : World) (b : Nat) (cs : List Value) : Prop where
 lt : b < w.heap.size
 at' : ∀ j, j < cs.length → w.cell? ⟨b, j, none⟩ = cs[j]?
 fz : ∀ j, w.frozen? ⟨b, j, none⟩ = false
section
variable {w w' : World} {b : Nat} {cs : List Value}
theorem Bx.below (h : Bx w b cs) (hb : Below w.heap.size w w') : Bx w' b cs :=
 ⟨Nat.lt_of_lt_of_le h.lt hb.size, fun j hj => (hb.cell (p := ⟨b, j, none⟩) h.lt).trans (h.at' j hj), fun j => (hb.frozen (p := ⟨b, j, none⟩) h.lt).trans (h.fz j)⟩
theorem Bx.new (w : World) (cs : List Value) (T : Nat) : Bx (w.alloc (.cells cs.toArray T)) w.heap.size cs :=
 ⟨by simp, fun j hj => (World.cell?_alloc_mark w _ T (0, 0) j).trans (by simp), fun j => by
  rw [show (w.alloc (.cells cs.toArray T)).frozen? ⟨w.heap.size, j, none⟩ = _ from World.frozen?_alloc_mark w _ T 0 0 j]
  simp⟩
theorem Bx.alloc (h : Bx w b cs) (o : Obj) : Bx (w.alloc o) b cs := h.below ((belowRefl w).alloc (Nat.le_refl _) o)
theorem Bx.drew (h : Bx w b cs) : Bx w.drew b cs := h.below ((belowRefl w).drew)
theorem Bx.grown {g : Nat} (h : Bx w b cs) (hg : w.grownBy w' (some g)) (hne : b ≠ g) : Bx w' b cs := by
 have hb := hg.block b h.lt (fun e => hne (Option.some.inj e))
 refine ⟨Nat.lt_of_lt_of_le h.lt hg.size, fun j hj => (World.cell?_of_block (w := w) (a := ⟨b, j, none⟩) hb).trans (h.at' j hj), fun j => ?_⟩
 have := h.fz j
 unfold World.frozen? at this ⊢
 simp only at this ⊢
 rw [hb]; exact this
theorem Bx.set (h : Bx w b cs) (j : Nat) (u : Value) : Bx (w.setCell ⟨b, j, none⟩ u) b (cs.set j u) := by
 refine ⟨by simpa [World.setCell] using h.lt, fun i hi => ?_, fun i => by rw [World.frozen?_setCell]; exact h.fz i⟩
 have hi' : i < cs.length := by simpa using hi
 have hci := h.at' i hi'
 rw [List.getElem?_eq_getElem hi'] at hci
 by_cases e : i = j
 ·subst e
  rw [World.cell?_setCell_same _ _ _ hci, List.getElem?_set_self hi']
 ·rw [World.cell?_setCell_other _ _ _ _ (addr_ne b (fun e' => e e'.symm)), List.getElem?_set_ne (fun e' => e e'.symm)]
  exact h.at' i hi'
theorem Bx.setO (h : Bx w b cs) {p : Addr} (hne : p.block ≠ b) (u : Value) : Bx (w.setCell p u) b cs :=
 h.grown (g := p.block) ⟨rfl, rfl, rfl, by simp [World.setCell], fun j _ hne => Below.heap_setCell _ _ _ _ (fun e => hne (by rw [e]))⟩ (fun e => hne e.symm)
theorem Bx.c0 {x : Value} {r : List Value} (h : Bx w b (x :: r)) : w.cell? ⟨b, 0, none⟩ = some x := h.at' 0 (by simp)
theorem Bx.c1 {x y : Value} {r : List Value} (h : Bx w b (x :: y :: r)) : w.cell? ⟨b, 1, none⟩ = some y := h.at' 1 (by simp)
theorem Bx.c2 {x y z : Value} {r : List Value} (h : Bx w b (x :: y :: z :: r)) : w.cell? ⟨b, 2, none⟩ = some z := h.at' 2 (by simp)
theorem Bx.c3 {x y z u : Value} {r : List Value} (h : Bx w b (x :: y :: z :: u :: r)) : w.cell? ⟨b, 3, none⟩ = some u := h.at' 3 (by simp)
theorem Bx.c4 {x y z u v : Value} {r : List Value} (h : Bx w b (x :: y :: z :: u :: v :: r)) : w.cell? ⟨b, 4, none⟩ = some v := h.at' 4 (by simp)
end

structure Kn (bs : List Nat) (w w' : World) : Prop where
 os : w'.os = w.os
 tape : w'.tape = w.tape
 output : w'.output = w.output
 size : w.heap.size ≤ w'.heap.size
 block : ∀ j, j < w.heap.size → j ∉ bs → w'.heap[j]? = w.heap[j]?
theorem Kn.refl (bs : List Nat) (w : World) : Kn bs w w := ⟨rfl, rfl, rfl, Nat.le_refl _, fun _ _ _ => rfl⟩
theorem Kn.trans {bs : List Nat} {a b c : World} (h : Kn bs a b) (k : Kn bs b c) : Kn bs a c :=
 ⟨k.os.trans h.os, k.tape.trans h.tape, k.output.trans h.output, Nat.le_trans h.size k.size, fun j hj hn => (k.block j (Nat.lt_of_lt_of_le hj h.size) hn).trans (h.block j hj hn)⟩
theorem Kn.mono {bs cs : List Nat} {a b : World} (h : Kn bs a b) (hs : ∀ x ∈ bs, x ∈ cs) : Kn cs a b := ⟨h.os, h.tape, h.output, h.size, fun j hj hn => h.block j hj (fun m => hn (hs j m))⟩
theorem Kn.below {bs : List Nat} {base : Nat} {w w' : World} (h : Kn bs w w') (hb : base ≤ w.heap.size) (hs : ∀ x ∈ bs, base ≤ x) : Below base w w' :=
 ⟨h.os, h.tape, h.output, h.size, fun j hj => h.block j (by omega) (fun m => by have := hs j m; omega)⟩
theorem Kn.set (w : World) (g k : Nat) (v : Value) : Kn [g] w (w.setCell ⟨g, k, none⟩ v) :=
 ⟨rfl, rfl, rfl, by simp [World.setCell], fun j _ hne => Below.heap_setCell _ _ _ _ (fun e => hne (by simp [e]))⟩
theorem Bx.kn {bs : List Nat} {w w' : World} {b : Nat} {cs : List Value} (h : Bx w b cs) (hg : Kn bs w w') (hne : b ∉ bs) : Bx w' b cs := by
 have hb := hg.block b h.lt hne
 refine ⟨Nat.lt_of_lt_of_le h.lt hg.size, fun j hj => (World.cell?_of_block (w := w) (a := ⟨b, j, none⟩) hb).trans (h.at' j hj), fun j => ?_⟩
 have := h.fz j
 unfold World.frozen? at this ⊢
 simp only at this ⊢
 rw [hb]; exact this

abbrev Nd := Nat × Vr
def ptq (ns : List Nd) (q : Option Addr) : Option Addr := match ns with
 | [] => q
 | n :: _ => some ⟨n.1, 0, none⟩
theorem ptq_nil (q : Option Addr) : ptq [] q = q := rfl
theorem ptq_cons (n : Nd) (ns : List Nd) (q : Option Addr) : ptq (n :: ns) q = some ⟨n.1, 0, none⟩ := rfl
def ndc (v : Vr) (q : Option Addr) : List Value := [.string v.1, .string v.2.1, .bool v.2.2.1, .int .i64 v.2.2.2, .pointer q]
def Seg (w : World) : List Nd → Option Addr → Prop
 | [], _ => True
 | n :: ns, q => Bx w n.1 (ndc n.2 (ptq ns q)) ∧ Seg w ns q
theorem seg_app {w : World} : ∀ (A B : List Nd) (q : Option Addr), Seg w (A ++ B) q ↔ Seg w A (ptq B q) ∧ Seg w B q
 | [], B, q => by simp [Seg]
 | n :: A, B, q => by
  have ih := seg_app (w := w) A B q
  have e : ptq (A ++ B) q = ptq A (ptq B q) := by cases A <;> rfl
  simp only [List.cons_append, Seg, e, ih, and_assoc]
theorem seg_below {w w' : World} (hb : Below w.heap.size w w') : ∀ (A : List Nd) (q : Option Addr), Seg w A q → Seg w' A q
 | [], _, _ => trivial
 | _ :: A, q, h => ⟨h.1.below hb, seg_below hb A q h.2⟩
theorem seg_kn {bs : List Nat} {w w' : World} (hk : Kn bs w w') : ∀ (A : List Nd) (q : Option Addr), (∀ n ∈ A, n.1 ∉ bs) → Seg w A q → Seg w' A q
 | [], _, _, _ => trivial
 | n :: A, q, hn, h => ⟨h.1.kn hk (hn n (by simp)), seg_kn hk A q (fun m hm => hn m (by simp [hm])) h.2⟩
theorem seg_lt {w : World} : ∀ (A : List Nd) (q : Option Addr), Seg w A q → ∀ n ∈ A, n.1 < w.heap.size
 | n :: A, q, h, m, hm => by
  rcases List.mem_cons.1 hm with rfl | hm
  ·exact h.1.lt
  ·exact seg_lt A q h.2 m hm
structure Chn (w : World) (base c : Nat) (all : List Nd) : Prop where
 bx : Bx w c [.pointer (ptq all none)]
 seg : Seg w all none
 nd : (c :: all.map (·.1)).Nodup
 lo : ∀ b ∈ c :: all.map (·.1), base ≤ b
theorem Chn.below {w w' : World} {base c : Nat} {all : List Nd} (h : Chn w base c all) (hb : Below w.heap.size w w') : Chn w' base c all := ⟨h.bx.below hb, seg_below hb _ _ h.seg, h.nd, h.lo⟩
theorem Chn.kn {bs : List Nat} {w w' : World} {base c : Nat} {all : List Nd} (h : Chn w base c all) (hk : Kn bs w w') (hn : ∀ b ∈ c :: all.map (·.1), b ∉ bs) : Chn w' base c all :=
 ⟨h.bx.kn hk (hn c (by simp)), seg_kn hk _ _ (fun n hm => hn n.1 (List.mem_cons_of_mem _ (List.mem_map.2 ⟨n, hm, rfl⟩))) h.seg, h.nd, h.lo⟩
theorem Chn.lt {w : World} {base c : Nat} {all : List Nd} (h : Chn w base c all) : ∀ b ∈ c :: all.map (·.1), b < w.heap.size := fun b hb => by
 rcases List.mem_cons.1 hb with rfl | hb
 ·exact h.bx.lt
 ·obtain ⟨n, hn, rfl⟩ := List.mem_map.1 hb
  exact seg_lt _ _ h.seg n hn

theorem Chn.at' {w : World} {base c : Nat} {A B : List Nd} {m : Nd} (h : Chn w base c (A ++ m :: B)) : Bx w m.1 (ndc m.2 (ptq B none)) := ((seg_app A (m :: B) none).1 h.seg).2.1
theorem Chn.mem {w : World} {base c : Nat} {all : List Nd} {m : Nd} (h : Chn w base c all) (hm : m ∈ all) : ∃ q, Bx w m.1 (ndc m.2 q) := by
 obtain ⟨A, B, rfl⟩ := List.append_of_mem hm
 exact ⟨_, h.at'⟩

theorem Chn.next {w : World} {base c : Nat} {A B C : List Nd} {m : Nd} (h : Chn w base c (A ++ m :: B)) (hC : Seg w C none) (hnd : (c :: (A ++ m :: C).map (·.1)).Nodup) (hlo : ∀ n ∈ C, base ≤ n.1) : Chn (w.setCell ⟨m.1, 4, none⟩ (.pointer (ptq C none))) base c (A ++ m :: C) := by
 have hk := Kn.set w m.1 4 (.pointer (ptq C none))
 obtain ⟨hA, hm, _⟩ := (seg_app A (m :: B) none).1 h.seg
 have nd := hnd
 simp only [List.map_append, List.map_cons, List.nodup_cons, List.nodup_append, List.mem_append, List.mem_cons, not_or] at nd
 obtain ⟨⟨n1, n2, n3⟩, n4, ⟨n5, n6⟩, n7⟩ := nd
 refine ⟨?_, (seg_app A (m :: C) none).2 ⟨seg_kn hk _ _ (fun n hn => ?_) hA, ?_, seg_kn hk _ _ (fun n hn => ?_) hC⟩, hnd, fun b hb => ?_⟩
 ·have e : ptq (A ++ m :: C) none = ptq (A ++ m :: B) none := by cases A <;> rfl
  rw [e]
  exact h.bx.kn hk (by simp [n2])
 ·simp only [List.mem_singleton]
  exact n7 n.1 (List.mem_map.2 ⟨n, hn, rfl⟩) m.1 (Or.inl rfl)
 ·have := hm.set 4 (.pointer (ptq C none))
  exact this
 ·simp only [List.mem_singleton]
  exact fun e => n5 (by rw [← e]; exact List.mem_map.2 ⟨n, hn, rfl⟩)
 ·simp only [List.mem_cons, List.map_append, List.map_cons, List.mem_append] at hb
  rcases hb with rfl | hb | rfl | hb
  ·exact h.lo _ (by simp)
  ·exact h.lo _ (by simp only [List.mem_cons, List.map_append, List.mem_append]; exact Or.inr (Or.inl hb))
  ·exact h.lo _ (by simp)
  ·obtain ⟨n, hn, rfl⟩ := List.mem_map.1 hb
   exact hlo n hn
end Go.Proofs.YtnljmdodpffmoaaGreat

namespace Go.Proofs.YtnljmdodpffmoaaGreat
namespace VM
open KM
def isOf (k : ByteArray) (s : Int) (v : Vr) : Bool := decide (v.1 = k) && decide (v.2.2.2 ≤ s)
def more (a : Option Nd) (n : Nd) : Bool := match a with
 | none => true
 | some m => decide (m.2.2.2.2 < n.2.2.2.2)
def stp (k : ByteArray) (s : Int) (a : Option Nd) (n : Nd) : Option Nd := if (isOf k s n.2 && more a n) = true then some n else a
def lst (k : ByteArray) (s : Int) (ns : List Nd) : Option Nd := ns.foldl (stp k s) none
theorem lst_snoc (k : ByteArray) (s : Int) (A : List Nd) (n : Nd) : lst k s (A ++ [n]) = stp k s (lst k s A) n := by simp [lst, List.foldl_append]
def GoodL (k : ByteArray) (s : Int) (A : List Nd) (n : Nd) (B : List Nd) : Prop :=
 isOf k s n.2 = true ∧ (∀ m ∈ A, isOf k s m.2 = true → m.2.2.2.2 < n.2.2.2.2) ∧ (∀ m ∈ B, isOf k s m.2 = true → m.2.2.2.2 ≤ n.2.2.2.2)
def Told (k : ByteArray) (s : Int) (P : List Nd) (a : Option Nd) : Prop := match a with
 | none => ∀ m ∈ P, isOf k s m.2 = false
 | some x => ∃ A B, P = A ++ x :: B ∧ GoodL k s A x B
theorem told_snoc {k : ByteArray} {s : Int} {P : List Nd} {a : Option Nd} (n : Nd) (h : Told k s P a) : Told k s (P ++ [n]) (stp k s a n) := by
 unfold stp
 cases hi : isOf k s n.2
 ·simp only [Bool.false_and, Bool.false_eq_true, if_false]
  cases a with
  | none =>
   intro m hm
   rcases List.mem_append.1 hm with hm | hm
   ·exact h m hm
   ·rw [List.mem_singleton.1 hm]; exact hi
  | some x =>
   obtain ⟨A, B, rfl, g1, g2, g3⟩ := h
   refine ⟨A, B ++ [n], by simp, g1, g2, fun m hm ho => ?_⟩
   rcases List.mem_append.1 hm with hm | hm
   ·exact g3 m hm ho
   ·rw [List.mem_singleton.1 hm, hi] at ho; cases ho
 ·simp only [Bool.true_and]
  cases a with
  | none =>
   simp only [more, if_true]
   refine ⟨P, [], by simp, hi, fun m hm ho => ?_, fun m hm => by simp at hm⟩
   have := h m hm
   rw [this] at ho; cases ho
  | some x =>
   obtain ⟨A, B, rfl, g1, g2, g3⟩ := h
   simp only [more, decide_eq_true_eq]
   split
   ·rename_i hlt
    refine ⟨A ++ x :: B, [], by simp, hi, fun m hm ho => ?_, fun m hm => by simp at hm⟩
    rcases List.mem_append.1 hm with hm | hm
    ·have := g2 m hm ho; omega
    ·rcases List.mem_cons.1 hm with rfl | hm
     ·exact hlt
     ·have := g3 m hm ho; omega
   ·rename_i hlt
    refine ⟨A, B ++ [n], by simp, g1, g2, fun m hm ho => ?_⟩
    rcases List.mem_append.1 hm with hm | hm
    ·exact g3 m hm ho
    ·rw [List.mem_singleton.1 hm]; omega
theorem told_more {k : ByteArray} {s : Int} : ∀ (l P : List Nd) (a : Option Nd), Told k s P a → Told k s (P ++ l) (l.foldl (stp k s) a)
 | [], P, a, h => by simpa using h
 | n :: l, P, a, h => by
  have := told_more l (P ++ [n]) _ (told_snoc n h)
  simpa using this
theorem told (k : ByteArray) (s : Int) (P : List Nd) : Told k s P (lst k s P) := by
 have := told_more (k := k) (s := s) P [] none (fun m hm => by simp at hm)
 simpa [lst] using this
theorem lst_mem {k : ByteArray} {s : Int} {P : List Nd} {x : Nd} (h : lst k s P = some x) : x ∈ P ∧ isOf k s x.2 = true := by
 have := told k s P
 rw [h] at this
 obtain ⟨A, B, rfl, g⟩ := this
 exact ⟨by simp, g.1⟩
theorem fold_snd (k : ByteArray) (s : Int) : ∀ (P Q : List Nd) (a b : Option Nd), P.map (·.2) = Q.map (·.2) → a.map (·.2) = b.map (·.2) → (P.foldl (stp k s) a).map (·.2) = (Q.foldl (stp k s) b).map (·.2)
 | [], [], _, _, _, h => h
 | [], _ :: _, _, _, h, _ => by simp at h
 | _ :: _, [], _, _, h, _ => by simp at h
 | n :: P, m :: Q, a, b, h, hab => by
  simp only [List.map_cons, List.cons.injEq] at h
  refine fold_snd k s P Q _ _ h.2 ?_
  have e : more a n = more b m := by
   cases a <;> cases b <;> simp_all [more]
  unfold stp
  rw [h.1, e]
  split
  ·simp [h.1]
  ·exact hab
theorem lst_snd {k : ByteArray} {s : Int} {P Q : List Nd} (h : P.map (·.2) = Q.map (·.2)) : (lst k s P).map (·.2) = (lst k s Q).map (·.2) := fold_snd k s P Q none none h rfl

def seenV (vs : List Vr) (k : ByteArray) (s : Int) : Option Vr := (lst k s (vs.map fun v => (0, v))).map (·.2)
theorem seenV_of {k : ByteArray} {s : Int} {ns : List Nd} {vs : List Vr} (h : ns.map (·.2) = vs) : (lst k s ns).map (·.2) = seenV vs k s := lst_snd (by rw [h]; simp [Function.comp_def])
def seenB (vs : List Vr) (k : ByteArray) (s : Int) : Option ByteArray := match seenV vs k s with
 | none => none
 | some v => if v.2.2.1 = true then none else some v.2.1
def lab (vs : List Vr) : Nat → List Nd
 | 0 => []
 | n + 1 => lab vs n ++ (match vs[n]? with
  | some v => [(n, v)]
  | none => [])
theorem lab_succ {vs : List Vr} {n : Nat} (h : n < vs.length) : lab vs (n + 1) = lab vs n ++ [(n, vs[n])] := by
 simp only [lab, List.getElem?_eq_getElem h]
theorem lab_snd (vs : List Vr) : ∀ n, (lab vs n).map (·.2) = vs.take n
 | 0 => by simp [lab]
 | n + 1 => by
  by_cases h : n < vs.length
  ·rw [lab_succ h, List.map_append, lab_snd vs n, List.take_succ_eq_append_getElem h]; rfl
  ·simp only [lab]
   rw [List.getElem?_eq_none (by omega), List.append_nil, lab_snd vs n, List.take_of_length_le (by omega), List.take_of_length_le (by omega)]
theorem lab_mem {vs : List Vr} {x : Nd} : ∀ {n : Nat}, x ∈ lab vs n → x.1 < n ∧ vs[x.1]? = some x.2
 | 0, h => by simp [lab] at h
 | n + 1, h => by
  simp only [lab, List.mem_append] at h
  rcases h with h | h
  ·have := lab_mem h; exact ⟨by omega, this.2⟩
  ·cases e : vs[n]? with
   | none => rw [e] at h; simp at h
   | some v => rw [e] at h; rw [List.mem_singleton.1 h]; exact ⟨by simp, e⟩
theorem lab_all (vs : List Vr) : (lab vs vs.length).map (·.2) = vs := by rw [lab_snd, List.take_length]
def atI (o : Option Nd) : Int := match o with
 | none => -1
 | some n => n.1
end VM
end Go.Proofs.YtnljmdodpffmoaaGreat

namespace Go.Proofs
open Go.Shelf
end Go.Proofs

namespace Go.Proofs.YtnljmdodpffmoaaGreat
namespace VM
open KM
section
variable {α : Type} [Inhabited α] [DecidableEq α]
end

theorem ba_eta (b : ByteArray) : (⟨b.data.toList.toArray⟩ : ByteArray) = b := by
 obtain ⟨⟨l⟩⟩ := b
 rfl
theorem lt_total {a b : ByteArray} (h : a ≠ b) : lt a b = true ∨ lt b a = true := by
 cases h1 : lt a b
 ·exact Or.inr (less_total _ _ h1 (fun e => h (toList_inj e)))
 ·exact Or.inl rfl
end VM
end Go.Proofs.YtnljmdodpffmoaaGreat

namespace Go.Proofs.YtnljmdodpffmoaaGreat
open Go.RowKit
open KM
open VM Go.Sort
attribute [local go_sem ↓] Go.wp_at_zero Go.wp_at_succ

theorem hide {p : Prop} (h : p) : Hid p := h
theorem heapAllocNew (w : World) (cs : List Value) (T : Nat) : (w.alloc (.cells cs.toArray T)).heap[w.heap.size]? = some (.cells cs.toArray T (0, 0)) := by unfold World.alloc; simp
theorem Bx.belowB {w w' : World} {b B : Nat} {cs : List Value} (h : Bx w b cs) (hb : Below B w w') (hlt : b < B) : Bx w' b cs :=
 ⟨Nat.lt_of_lt_of_le h.lt hb.size, fun j hj => (hb.cell (p := ⟨b, j, none⟩) hlt).trans (h.at' j hj), fun j => (hb.frozen (p := ⟨b, j, none⟩) hlt).trans (h.fz j)⟩
theorem GOwn.drewN {α : Type} {E : Enc α} {e : TypeId} {w : World} {base : Nat} {v : Value} {l : List α} (h : GOwn E e w base v l) (n : Nat) : GOwn E e (w.drewN n) base v l := h

theorem oneP {y : Rg} : ∀ u ∈ encR.enc y, u.oneCell' = true := by
 intro u hu
 simp only [encR, List.mem_cons, List.not_mem_nil, or_false] at hu
 rcases hu with rfl | rfl <;> rfl
theorem oneV {y : Vr} : ∀ u ∈ encV.enc y, u.oneCell' = true := by
 intro u hu
 simp only [encV, List.mem_cons, List.not_mem_nil, or_false] at hu
 rcases hu with rfl | rfl | rfl | rfl <;> rfl
theorem wpAppV {ops : Array Oper} {rest : List Oper} {o : Oper} {a : Act} {Q : Exit → Act → World → Prop} (hgd : o.guard = none) (s x : Operand) (ho : o.op = .call { callee := .builtin .append, args := #[s, x], argTypes := #[46, 46] })
  {W : World} {base : Nat} {v : Value} {xs : List Vr} (y : Vr) (hs : a.eval s = v) (hown : GOwn encV 134 W base v xs)
  (hx : a.eval x = .slice (some ⟨W.heap.size, 0, none⟩) 1 1) (hlen : xs.length ≤ 100000000) (hB : base ≤ W.heap.size)
  (h : ∀ v' w', GOwn encV 134 w' base v' (xs ++ [y]) → Below base W w' → wpList Tryz.prog ops Q rest (a.put o.dst v') w') :
  wpList Tryz.prog ops Q (o :: rest) a (W.alloc (.cells #[.string y.1, .string y.2.1, .bool y.2.2.1, .int .i64 y.2.2.2] 134)) := by
 refine wpAppG 46 134 4 48 _ Tryz.underlying46 Tryz.info134 rfl (by omega) (by omega) hgd s x ho (encV.enc y) hs (World.ownsRow.alloc hown _) hx (heapAllocNew W _ _) rfl oneV (by omega) (by simp; omega) ?_
 intro g' cap w' h1 h2
 refine h _ w' ?_ (((Below.refl _ _).alloc hB _).trans h2)
 have e : encV.cells (xs ++ [y]) = encV.cells xs ++ encV.enc y := by rw [encV.cells_app]; simp [Enc.cells]
 unfold GOwn
 rw [e, List.length_append]
 exact h1

theorem GRow.grown {α : Type} {E : Enc α} {w w' : World} {ao : Option Addr} {xs : List α} {row : Option Nat} (h : GRow E w ao xs) (hg : w.grownBy w' row) (hne : ∀ b off, ao = some ⟨b, off, none⟩ → row ≠ some b) : GRow E w' ao xs := fun h0 => by
 obtain ⟨b, off, rfl, hlt, hc⟩ := h h0
 have hb := hg.block b hlt (fun e => hne b off rfl e.symm)
 exact ⟨b, off, rfl, Nat.lt_of_lt_of_le hlt hg.size, fun j hj i hi => (World.cell?_of_block (w := w) (a := ⟨b, off + j * E.size + i, none⟩) hb).trans (hc j hj i hi)⟩
def Away (v : Value) (lo hi : Nat) : Prop := ∀ g, v.ownBlock = some g → g < lo ∨ hi ≤ g
theorem Away.next {v v' : Value} {lo hi n : Nat} (h : Away v lo hi) (hn : hi ≤ n) (h2 : v'.ownBlock = v.ownBlock ∨ ∃ g, v'.ownBlock = some g ∧ n ≤ g) : Away v' lo hi := fun g hg => by
 rcases h2 with h2 | ⟨g', h2, h3⟩
 ·exact h g (h2 ▸ hg)
 ·rw [h2] at hg
  have := Option.some.inj hg
  omega
end Go.Proofs.YtnljmdodpffmoaaGreat

namespace Go.Proofs.YtnljmdodpffmoaaGreat
open Go.RowKit
open KM
open VM
attribute [local go_sem ↓] Go.wp_at_zero Go.wp_at_succ

def zV : Vr := (⟨#[]⟩, ⟨#[]⟩, false, 0)
theorem chn_first (w : World) : Chn ((w.alloc (.cells #[.string ⟨#[]⟩, .string ⟨#[]⟩, .bool false, .int .i64 0, .pointer none] 140)).alloc (.cells #[.pointer (some ⟨w.heap.size, 0, none⟩)] 152)) w.heap.size (w.heap.size + 1) ([] ++ [(w.heap.size, zV)]) := by
 have h1 : Bx (w.alloc (.cells #[.string ⟨#[]⟩, .string ⟨#[]⟩, .bool false, .int .i64 0, .pointer none] 140)) w.heap.size (ndc zV none) := Bx.new w (ndc zV none) 140
 have h2 := Bx.new (w.alloc (.cells #[.string ⟨#[]⟩, .string ⟨#[]⟩, .bool false, .int .i64 0, .pointer none] 140)) [.pointer (some ⟨w.heap.size, 0, none⟩)] 152
 rw [World.size_alloc] at h2
 refine ⟨h2, ⟨h1.alloc _, trivial⟩, by simp, by simp⟩
theorem fst_ne {w : World} {base c : Nat} {A : List Nd} {m : Nd} (h : Chn w base c (A ++ [m])) (b : Nat) (v : Vr) (hb : w.heap.size ≤ b) : (c :: (A ++ m :: [(b, v)]).map (·.1)).Nodup := by
 have e : (c :: (A ++ m :: [(b, v)]).map (·.1)) = (c :: (A ++ [m]).map (·.1)) ++ [b] := by simp
 rw [e, List.nodup_append]
 refine ⟨h.nd, by simp, fun x hx y hy => ?_⟩
 have := h.lt x hx
 simp at hy
 omega
theorem chn_more {w : World} {base c : Nat} {A : List Nd} {m : Nd} (h : Chn w base c (A ++ [m])) (hb : base ≤ w.heap.size) (v : Vr) :
  Chn (((w.alloc (.cells #[.string v.1, .string v.2.1, .bool v.2.2.1, .int .i64 v.2.2.2] 134)).alloc (.cells #[.string v.1, .string v.2.1, .bool v.2.2.1, .int .i64 v.2.2.2, .pointer none] 140)).setCell ⟨m.1, 4, none⟩ (.pointer (some ⟨w.heap.size + 1, 0, none⟩))) base c ((A ++ [m]) ++ [(w.heap.size + 1, v)]) := by
 have h1 := (h.below ((belowRefl w).alloc (Nat.le_refl _) (.cells #[.string v.1, .string v.2.1, .bool v.2.2.1, .int .i64 v.2.2.2] 134))).below ((belowRefl _).alloc (Nat.le_refl _) (.cells #[.string v.1, .string v.2.1, .bool v.2.2.1, .int .i64 v.2.2.2, .pointer none] 140))
 have h2 := Bx.new (w.alloc (.cells #[.string v.1, .string v.2.1, .bool v.2.2.1, .int .i64 v.2.2.2] 134)) (ndc v none) 140
 rw [World.size_alloc] at h2
 have h3 := h1.next (C := [(w.heap.size + 1, v)]) ⟨h2, trivial⟩ (fst_ne h (w.heap.size + 1) v (by omega)) (fun n hn => by rw [List.mem_singleton.1 hn]; show base ≤ w.heap.size + 1; omega)
 rw [List.append_assoc]
 exact h3

set_option maxRecDepth 100000 in
set_option maxHeartbeats 2000000 in
theorem chain45 (xs : List Vr) (a : Option Addr) (c : Nat) (hn : xs.length ≤ 100000000) (w : World) (hp : GRow encV w a xs) :
  Calls Tryz.prog 95 #[.slice a xs.length c] w fun e w' => e = .returned (.pointer (some ⟨w.heap.size + 1, 0, none⟩)) ∧ (∃ (r : Nat) (ns : List Nd), Chn w' w.heap.size (w.heap.size + 1) ((r, zV) :: ns) ∧ ns.map (·.2) = xs) ∧ Below w.heap.size w w' := by
 have HP : Hid (GRow encV w a xs) := hp
 clear hp
 have H0 : Hid (Chn ((w.alloc (.cells #[.string ⟨#[]⟩, .string ⟨#[]⟩, .bool false, .int .i64 0, .pointer none] 140)).alloc (.cells #[.pointer (some ⟨w.heap.size, 0, none⟩)] 152)) w.heap.size (w.heap.size + 1) ([] ++ [(w.heap.size, zV)])) := chn_first w
 have B0 : Hid (Below w.heap.size w ((w.alloc (.cells #[.string ⟨#[]⟩, .string ⟨#[]⟩, .bool false, .int .i64 0, .pointer none] 140)).alloc (.cells #[.pointer (some ⟨w.heap.size, 0, none⟩)] 152))) := ((belowRefl w).alloc (Nat.le_refl _) _).alloc (by simp) _
 go_enter Tryz.func95, Tryz.ntmps95
 go_wp2
 go_loopw [4, 17] (fun t4 t wr => ∃ (k : Nat) (A : List Nd) (m : Nd), k ≤ xs.length ∧ t = .int .i64 k ∧ t4 = .pointer (some ⟨m.1, 0, none⟩) ∧ Hid (Chn wr w.heap.size (w.heap.size + 1) (A ++ [m])) ∧ Hid ((A ++ [m]).map (·.2) = zV :: xs.take k) ∧ Hid (Below w.heap.size w wr)) (fun _ t _ => xs.length - (intOf t).toNat)
 case atStart => exact ⟨0, [], (w.heap.size, zV), Nat.zero_le _, rfl, rfl, H0, rfl, B0⟩
 case round =>
  obtain ⟨k, A, m, hk, rfl, rfl, HC, HV, HB⟩ := hrel
  by_cases hlt : k < xs.length
  ·have hlt' : (k : Int) < (xs.length : Int) := by omega
   have h0 : (0 : Int) ≤ (k : Int) := by omega
   obtain ⟨b, off, rfl, hbl, hc⟩ := (HP.out.below HB.out) (by omega)
   have c0 := (vat hc k hlt).1
   have c1 := (vat hc k hlt).2.1
   have c2 := (vat hc k hlt).2.2.1
   have c3 := (vat hc k hlt).2.2.2
   clear hc
   have m4 := HC.out.at'.c4
   have mf := HC.out.at'.fz
   have mlt := HC.out.at'.lt
   simp only [ptq_nil] at m4
   have HC2 : Hid (Chn (((wr.setCell ⟨m.1, 4, none⟩ (.pointer (some ⟨wr.heap.size + 1, 0, none⟩))).alloc (.cells #[.string xs[k].1, .string xs[k].2.1, .bool xs[k].2.2.1, .int .i64 xs[k].2.2.2] 134)).alloc (.cells #[.string xs[k].1, .string xs[k].2.1, .bool xs[k].2.2.1, .int .i64 xs[k].2.2.2, .pointer none] 140)) w.heap.size (w.heap.size + 1) ((A ++ [m]) ++ [(wr.heap.size + 1, xs[k])])) := by
    have h := chn_more HC.out HB.out.size xs[k]
    rw [World.setCell_alloc_past _ _ _ _ (by simp; omega), World.setCell_alloc_past _ _ _ _ mlt] at h
    exact h
   have HV2 : Hid (((A ++ [m]) ++ [(wr.heap.size + 1, xs[k])]).map (·.2) = zV :: xs.take (k + 1)) := by
    show _ = _
    rw [List.map_append, HV.out, List.take_succ_eq_append_getElem hlt]; rfl
   have HB2 : Hid (Below w.heap.size w (((wr.setCell ⟨m.1, 4, none⟩ (.pointer (some ⟨wr.heap.size + 1, 0, none⟩))).alloc (.cells #[.string xs[k].1, .string xs[k].2.1, .bool xs[k].2.2.1, .int .i64 xs[k].2.2.2] 134)).alloc (.cells #[.string xs[k].1, .string xs[k].2.1, .bool xs[k].2.2.1, .int .i64 xs[k].2.2.2, .pointer none] 140))) := by
    have hs : w.heap.size ≤ (wr.setCell ⟨m.1, 4, none⟩ (.pointer (some ⟨wr.heap.size + 1, 0, none⟩))).heap.size := by simpa [World.setCell] using HB.out.size
    exact ((HB.out.setCell (HC.out.lo m.1 (by simp)) _).alloc hs _).alloc (by rw [World.size_alloc]; omega) _
   go_wp2
   go_roundw
   case rel => exact ⟨k + 1, A ++ [m], _, by omega, by go_num, rfl, HC2, HV2, HB2⟩
   case measure => simp [intOf]; omega
  ·have hlt' : ¬ (k : Int) < (xs.length : Int) := by omega
   have HE : Hid (∃ (r : Nat) (ns : List Nd), Chn wr w.heap.size (w.heap.size + 1) ((r, zV) :: ns) ∧ ns.map (·.2) = xs) := by
    have hv := HV.out
    have hc := HC.out
    rw [List.take_of_length_le (by omega)] at hv
    show ∃ _ _, _
    cases hl : A ++ [m] with
    | nil => simp at hl
    | cons x l =>
     rw [hl] at hv hc
     simp only [List.map_cons, List.cons.injEq] at hv
     obtain ⟨r, v⟩ := x
     have e : v = zV := hv.1
     subst e
     exact ⟨r, l, hc, hv.2⟩
   go_wp2
   go_ret
   exact ⟨rfl, HE.out, HB.out⟩
end Go.Proofs.YtnljmdodpffmoaaGreat

namespace Go.Proofs.YtnljmdodpffmoaaGreat
open Go.RowKit
open KM
open VM
attribute [local go_sem ↓] Go.wp_at_zero Go.wp_at_succ

def ptO (o : Option Nd) : Option Addr := o.map fun n => ⟨n.1, 0, none⟩
theorem ptO_none : ptO none = none := rfl
theorem ptO_some (n : Nd) : ptO (some n) = some ⟨n.1, 0, none⟩ := rfl
theorem seg_at {w : World} {base c : Nat} {r : Nd} {ns A B : List Nd} {n : Nd} (h : Chn w base c (r :: ns)) (e : ns = A ++ n :: B) : Bx w n.1 (ndc n.2 (ptq B none)) := by
 subst e
 exact Chn.at' (A := r :: A) (by simpa using h)
theorem step_no {k : ByteArray} {s : Int} {a : Option Nd} {n : Nd} (h : isOf k s n.2 = false) : stp k s a n = a := by unfold stp; rw [h]; simp
theorem step_less {k : ByteArray} {s : Int} {m n : Nd} (h : ¬ m.2.2.2.2 < n.2.2.2.2) : stp k s (some m) n = some m := by
 unfold stp
 rw [if_neg]
 simp [more]
 intro _; omega
theorem step_yes {k : ByteArray} {s : Int} {a : Option Nd} {n : Nd} (h : isOf k s n.2 = true) (h2 : more a n = true) : stp k s a n = some n := by unfold stp; rw [h, h2]; rfl
theorem isOf_key {k : ByteArray} {s : Int} {v : Vr} (h : (v.1.toList == k.toList) = false) : isOf k s v = false := by
 rw [beq_text] at h
 unfold isOf
 rw [h]; rfl
theorem isOf_cs {k : ByteArray} {s : Int} {v : Vr} (h : s < v.2.2.2) : isOf k s v = false := by
 unfold isOf
 rw [decide_eq_false (by omega : ¬ v.2.2.2 ≤ s), Bool.and_false]
theorem isOf_yes {k : ByteArray} {s : Int} {v : Vr} (h : (v.1.toList == k.toList) = true) (h2 : ¬ s < v.2.2.2) : isOf k s v = true := by
 rw [beq_text] at h
 unfold isOf
 rw [h, decide_eq_true (by omega : v.2.2.2 ≤ s)]; rfl

set_option maxRecDepth 100000 in
set_option maxHeartbeats 2000000 in
theorem last48 (k : ByteArray) (s : Int) (base c : Nat) (r : Nd) (ns : List Nd) (w : World) (hc : Chn w base c (r :: ns)) :
  Calls Tryz.prog 96 #[.pointer (some ⟨c, 0, none⟩), .string k, .int .i64 s] w fun e w' => e = .returned (.pointer (ptO (lst k s ns))) ∧ Below w.heap.size w w' := by
 have HC : Hid (Chn w base c (r :: ns)) := hc
 have b0 := hc.bx.c0
 have r4 := (Chn.at' (A := []) hc).c4
 simp only [ptq_cons] at b0
 clear hc
 obtain ⟨u0, hu0⟩ : ∃ u, u = ptq ns none := ⟨_, rfl⟩
 rw [← hu0] at r4
 have HU : Hid (u0 = ptq ns none) := hu0
 clear hu0
 go_enter Tryz.func96, Tryz.ntmps96
 go_wp2
 clear b0 r4
 go_loopg [7, 8] ns.length (fun g t7 t8 wr => ∃ A B : List Nd, Hid (ns = A ++ B) ∧ Hid (B.length = g) ∧ t7 = .pointer (ptO (lst k s A)) ∧ t8 = .pointer (ptq B none) ∧ Hid (Below w.heap.size w wr))
 case atStart => exact ⟨[], ns, rfl, rfl, rfl, by rw [HU.out], belowRefl w⟩
 case round =>
  obtain ⟨A, B, HE, HG, h7, h8, HB⟩ := hrel
  cases B with
  | nil =>
   rw [ptq_nil] at h8
   have HE2 : Hid (lst k s A = lst k s ns) := by show _ = _; rw [HE.out, List.append_nil]
   obtain ⟨o, ho⟩ : ∃ o, o = ptO (lst k s A) := ⟨_, rfl⟩
   rw [← ho] at h7
   have HO : Hid (ptO (lst k s ns) = o) := by show _ = _; rw [ho, HE2.out]
   clear ho
   subst h7 h8
   go_wp2
   go_ret
   exact ⟨by rw [HO.out]; rfl, HB.out⟩
  | cons n B =>
   rw [ptq_cons] at h8
   have hx := seg_at (HC.out.below HB.out) HE.out
   have n0 := hx.c0
   have n3 := hx.c3
   have n4 := hx.c4
   clear hx
   obtain ⟨q, hq⟩ : ∃ q, q = ptq B none := ⟨_, rfl⟩
   rw [← hq] at n4
   have HQ : Hid (Value.pointer q = .pointer (ptq B none)) := by show _ = _; rw [hq]
   clear hq
   have HE2 : Hid (ns = (A ++ [n]) ++ B) := by show _ = _; rw [HE.out]; simp
   have HG2 : Hid (B.length < gk) := by show _ < _; rw [← HG.out]; simp
   cases hk : (n.2.1.toList == k.toList)
   ·have hk2 : (!(n.2.1.toList == k.toList)) = true := by rw [hk]; rfl
    obtain ⟨o, ho⟩ : ∃ o, o = ptO (lst k s A) := ⟨_, rfl⟩
    rw [← ho] at h7
    have HO : Hid (o = ptO (lst k s A)) := ho
    clear ho
    subst h7 h8
    have HS : Hid (Value.pointer o = .pointer (ptO (lst k s (A ++ [n])))) := by show _ = _; rw [lst_snoc, step_no (isOf_key hk), ← HO.out]
    go_wp2
    go_roundg B.length
    case measure => exact HG2.out
    case rel => exact ⟨A ++ [n], B, HE2, rfl, HS.out, HQ.out, HB.out⟩
   ·have hk2 : (!(n.2.1.toList == k.toList)) = false := by rw [hk]; rfl
    by_cases hs : s < n.2.2.2.2
    ·obtain ⟨o, ho⟩ : ∃ o, o = ptO (lst k s A) := ⟨_, rfl⟩
     rw [← ho] at h7
     have HO : Hid (o = ptO (lst k s A)) := ho
     clear ho
     subst h7 h8
     have HS : Hid (Value.pointer o = .pointer (ptO (lst k s (A ++ [n])))) := by show _ = _; rw [lst_snoc, step_no (isOf_cs hs), ← HO.out]
     go_wp2
     go_roundg B.length
     case measure => exact HG2.out
     case rel => exact ⟨A ++ [n], B, HE2, rfl, HS.out, HQ.out, HB.out⟩
    ·have hs' : decide (s < n.2.2.2.2) = false := by simpa using hs
     have HI : Hid (isOf k s n.2 = true) := isOf_yes hk hs
     clear hs
     cases hl : lst k s A with
     | none =>
      rw [hl, ptO_none] at h7
      subst h7 h8
      have HS : Hid (Value.pointer (some ⟨n.1, 0, none⟩) = .pointer (ptO (lst k s (A ++ [n])))) := by show _ = _; rw [lst_snoc, hl, step_yes HI.out rfl]; rfl
      clear hl
      go_wp2
      refine wp_region_held_drew (S := fun w' => w'.cell? ⟨n.1, 3, none⟩ = some (.int .i64 n.2.2.2.2)) (by kernel_rfl) n3 (fun hHeld => ?_)
      (refine tk 0 ?_ rfl (Or.inl ⟨by rfl, ?_⟩) ?_; rotate_left; (focus (intro w h; (try dsimp only at h); go_simp; (try with_reducible rfl))); simp only [Act.put, tA, tB, tD, tE, tF])
      (refine tk 1 ?_ rfl (Or.inl ⟨by rfl, ?_⟩) ?_; rotate_left; (focus (intro w h; (try dsimp only at h); go_simp; (try with_reducible rfl))); simp only [Act.put, tA, tB, tC, tD, tE, tF])
      (refine tk 2 ?_ rfl (Or.inl ⟨by rfl, ?_⟩) ?_; rotate_left; (focus (intro w h; (try dsimp only at h); go_simp; (try with_reducible rfl))); simp only [Act.put, tA, tB, tC, tD, tE, tF])
      (refine tk 3 undef rfl (Or.inr ⟨by rfl, rfl⟩) ?_; simp only [Act.put, tA, tB, tC, tD, tE, tF])
      (refine tk 4 undef rfl (Or.inr ⟨by rfl, rfl⟩) ?_; simp only [Act.put, tA, tB, tC, tD, tE, tF])
      (refine tk 5 undef rfl (Or.inr ⟨by rfl, rfl⟩) ?_; simp only [Act.put, tA, tB, tC, tD, tE, tF])
      (refine tk 6 undef rfl (Or.inr ⟨by rfl, rfl⟩) ?_; simp only [Act.put, tA, tB, tC, tD, tE, tF])
      (refine tk 7 undef rfl (Or.inr ⟨by rfl, rfl⟩) ?_; simp only [Act.put, tA, tB, tC, tD, tE, tF])
      (refine tk 8 undef rfl (Or.inr ⟨by rfl, rfl⟩) ?_; simp only [Act.put, tA, tB, tC, tD, tE, tF])
      (refine tk 9 undef rfl (Or.inr ⟨by rfl, rfl⟩) ?_; simp only [Act.put, tA, tB, tC, tD, tE, tF])
      (refine tk 10 undef rfl (Or.inr ⟨by rfl, rfl⟩) ?_; simp only [Act.put, tA, tB, tC, tD, tE, tF])
      (refine tk 11 undef rfl (Or.inr ⟨by rfl, rfl⟩) ?_; simp only [Act.put, tA, tB, tC, tD, tE, tF])
      (refine tk 12 undef rfl (Or.inr ⟨by rfl, rfl⟩) ?_; simp only [Act.put, tA, tB, tC, tD, tE, tF])
      (refine tk 13 undef rfl (Or.inr ⟨by rfl, rfl⟩) ?_; simp only [Act.put, tA, tB, tC, tD, tE, tF])
      (refine tk 14 ?_ rfl (Or.inl ⟨by rfl, ?_⟩) ?_; rotate_left; (focus (intro w h; (try dsimp only at h); go_simp; (try with_reducible rfl))); simp only [Act.put, tA, tB, tC, tD, tE, tF])
      refine wpAnyH_done (by kernel_rfl) ?_ _
      go_wp2
      go_roundg B.length
      case measure => exact HG2.out
      case rel => exact ⟨A ++ [n], B, HE2, rfl, HS.out, HQ.out, HB.out.drew⟩
     | some m =>
      rw [hl, ptO_some] at h7
      subst h7 h8
      have hm : m ∈ r :: ns := by rw [HE.out]; simp [(lst_mem hl).1]
      obtain ⟨qm, hx⟩ := (HC.out.below HB.out).mem hm
      have m3 := hx.c3
      clear hx hm
      by_cases hc : m.2.2.2.2 < n.2.2.2.2
      ·have HS : Hid (Value.pointer (some ⟨n.1, 0, none⟩) = .pointer (ptO (lst k s (A ++ [n])))) := by show _ = _; rw [lst_snoc, hl, step_yes HI.out (by simpa [more] using hc)]; rfl
       clear hl
       go_wp2
       refine wp_region_held_drew (S := fun w' => w'.cell? ⟨n.1, 3, none⟩ = some (.int .i64 n.2.2.2.2) ∧ w'.cell? ⟨m.1, 3, none⟩ = some (.int .i64 m.2.2.2.2)) (by kernel_rfl) ⟨n3, m3⟩ (fun hHeld => ?_)
       (refine tk 0 ?_ rfl (Or.inl ⟨by rfl, ?_⟩) ?_; rotate_left; (focus (intro w h; (try dsimp only at h); go_simp; (try with_reducible rfl))); simp only [Act.put, tA, tB, tD, tE, tF])
       (refine tk 1 ?_ rfl (Or.inl ⟨by rfl, ?_⟩) ?_; rotate_left; (focus (intro w h; (try dsimp only at h); go_simp; (try with_reducible rfl))); simp only [Act.put, tA, tB, tC, tD, tE, tF])
       (refine tk 2 ?_ rfl (Or.inl ⟨by rfl, ?_⟩) ?_; rotate_left; (focus (intro w h; (try dsimp only at h); go_simp; (try with_reducible rfl))); simp only [Act.put, tA, tB, tC, tD, tE, tF])
       (refine tk 3 ?_ rfl (Or.inl ⟨by rfl, ?_⟩) ?_; rotate_left; (focus (intro w h; (try dsimp only at h); go_simp; (try with_reducible rfl))); simp only [Act.put, tA, tB, tC, tD, tE, tF])
       (refine tk 4 ?_ rfl (Or.inl ⟨by rfl, ?_⟩) ?_; rotate_left; (focus (intro w h; (try dsimp only at h); go_simp; (try with_reducible rfl))); simp only [Act.put, tA, tB, tC, tD, tE, tF])
       (refine tk 5 ?_ rfl (Or.inl ⟨by rfl, ?_⟩) ?_; rotate_left; (focus (intro w h; (try dsimp only at h); go_simp; (try with_reducible rfl))); simp only [Act.put, tA, tB, tC, tD, tE, tF])
       (refine tk 6 ?_ rfl (Or.inl ⟨by rfl, ?_⟩) ?_; rotate_left; (focus (intro w h; (try dsimp only at h); go_simp; (try with_reducible rfl))); simp only [Act.put, tA, tB, tC, tD, tE, tF])
       (refine tk 7 ?_ rfl (Or.inl ⟨by rfl, ?_⟩) ?_; rotate_left; (focus (intro w h; (try dsimp only at h); go_simp; (try with_reducible rfl))); simp only [Act.put, tA, tB, tC, tD, tE, tF])
       (refine tk 8 ?_ rfl (Or.inl ⟨by rfl, ?_⟩) ?_; rotate_left; (focus (intro w h; (try dsimp only at h); go_simp; (try with_reducible rfl))); simp only [Act.put, tA, tB, tC, tD, tE, tF])
       (refine tk 9 ?_ rfl (Or.inl ⟨by rfl, ?_⟩) ?_; rotate_left; (focus (intro w h; (try dsimp only at h); go_simp; (try with_reducible rfl))); simp only [Act.put, tA, tB, tC, tD, tE, tF])
       (refine tk 10 ?_ rfl (Or.inl ⟨by rfl, ?_⟩) ?_; rotate_left; (focus (intro w h; (try dsimp only at h); go_simp; (try with_reducible rfl))); simp only [Act.put, tA, tB, tC, tD, tE, tF])
       (refine tk 11 ?_ rfl (Or.inl ⟨by rfl, ?_⟩) ?_; rotate_left; (focus (intro w h; (try dsimp only at h); go_simp; (try with_reducible rfl))); simp only [Act.put, tA, tB, tC, tD, tE, tF])
       (refine tk 12 ?_ rfl (Or.inl ⟨by rfl, ?_⟩) ?_; rotate_left; (focus (intro w h; (try dsimp only at h); go_simp; (try with_reducible rfl))); simp only [Act.put, tA, tB, tC, tD, tE, tF])
       (refine tk 13 ?_ rfl (Or.inl ⟨by rfl, ?_⟩) ?_; rotate_left; (focus (intro w h; (try dsimp only at h); go_simp; (try with_reducible rfl))); simp only [Act.put, tA, tB, tC, tD, tE, tF])
       (refine tk 14 ?_ rfl (Or.inl ⟨by rfl, ?_⟩) ?_; rotate_left; (focus (intro w h; (try dsimp only at h); go_simp; (try with_reducible rfl))); simp only [Act.put, tA, tB, tC, tD, tE, tF])
       refine wpAnyH_done (by kernel_rfl) ?_ _
       go_wp2
       go_roundg B.length
       case measure => exact HG2.out
       case rel => exact ⟨A ++ [n], B, HE2, rfl, HS.out, HQ.out, HB.out.drew⟩
      ·have HS : Hid (Value.pointer (some ⟨m.1, 0, none⟩) = .pointer (ptO (lst k s (A ++ [n])))) := by show _ = _; rw [lst_snoc, hl, step_less hc]; rfl
       have hc' : decide (m.2.2.2.2 < n.2.2.2.2) = false := by simpa using hc
       clear hl hc
       go_wp2
       refine wp_region_held_drew (S := fun w' => w'.cell? ⟨n.1, 3, none⟩ = some (.int .i64 n.2.2.2.2) ∧ w'.cell? ⟨m.1, 3, none⟩ = some (.int .i64 m.2.2.2.2)) (by kernel_rfl) ⟨n3, m3⟩ (fun hHeld => ?_)
       (refine tk 0 ?_ rfl (Or.inl ⟨by rfl, ?_⟩) ?_; rotate_left; (focus (intro w h; (try dsimp only at h); go_simp; (try with_reducible rfl))); simp only [Act.put, tA, tB, tD, tE, tF])
       (refine tk 1 ?_ rfl (Or.inl ⟨by rfl, ?_⟩) ?_; rotate_left; (focus (intro w h; (try dsimp only at h); go_simp; (try with_reducible rfl))); simp only [Act.put, tA, tB, tC, tD, tE, tF])
       (refine tk 2 ?_ rfl (Or.inl ⟨by rfl, ?_⟩) ?_; rotate_left; (focus (intro w h; (try dsimp only at h); go_simp; (try with_reducible rfl))); simp only [Act.put, tA, tB, tC, tD, tE, tF])
       (refine tk 3 ?_ rfl (Or.inl ⟨by rfl, ?_⟩) ?_; rotate_left; (focus (intro w h; (try dsimp only at h); go_simp; (try with_reducible rfl))); simp only [Act.put, tA, tB, tC, tD, tE, tF])
       (refine tk 4 ?_ rfl (Or.inl ⟨by rfl, ?_⟩) ?_; rotate_left; (focus (intro w h; (try dsimp only at h); go_simp; (try with_reducible rfl))); simp only [Act.put, tA, tB, tC, tD, tE, tF])
       (refine tk 5 ?_ rfl (Or.inl ⟨by rfl, ?_⟩) ?_; rotate_left; (focus (intro w h; (try dsimp only at h); go_simp; (try with_reducible rfl))); simp only [Act.put, tA, tB, tC, tD, tE, tF])
       (refine tk 6 ?_ rfl (Or.inl ⟨by rfl, ?_⟩) ?_; rotate_left; (focus (intro w h; (try dsimp only at h); go_simp; (try with_reducible rfl))); simp only [Act.put, tA, tB, tC, tD, tE, tF])
       (refine tk 7 ?_ rfl (Or.inl ⟨by rfl, ?_⟩) ?_; rotate_left; (focus (intro w h; (try dsimp only at h); go_simp; (try with_reducible rfl))); simp only [Act.put, tA, tB, tC, tD, tE, tF])
       (refine tk 8 ?_ rfl (Or.inl ⟨by rfl, ?_⟩) ?_; rotate_left; (focus (intro w h; (try dsimp only at h); go_simp; (try with_reducible rfl))); simp only [Act.put, tA, tB, tC, tD, tE, tF])
       (refine tk 9 ?_ rfl (Or.inl ⟨by rfl, ?_⟩) ?_; rotate_left; (focus (intro w h; (try dsimp only at h); go_simp; (try with_reducible rfl))); simp only [Act.put, tA, tB, tC, tD, tE, tF])
       (refine tk 10 ?_ rfl (Or.inl ⟨by rfl, ?_⟩) ?_; rotate_left; (focus (intro w h; (try dsimp only at h); go_simp; (try with_reducible rfl))); simp only [Act.put, tA, tB, tC, tD, tE, tF])
       (refine tk 11 ?_ rfl (Or.inl ⟨by rfl, ?_⟩) ?_; rotate_left; (focus (intro w h; (try dsimp only at h); go_simp; (try with_reducible rfl))); simp only [Act.put, tA, tB, tC, tD, tE, tF])
       (refine tk 12 ?_ rfl (Or.inl ⟨by rfl, ?_⟩) ?_; rotate_left; (focus (intro w h; (try dsimp only at h); go_simp; (try with_reducible rfl))); simp only [Act.put, tA, tB, tC, tD, tE, tF])
       (refine tk 13 ?_ rfl (Or.inl ⟨by rfl, ?_⟩) ?_; rotate_left; (focus (intro w h; (try dsimp only at h); go_simp; (try with_reducible rfl))); simp only [Act.put, tA, tB, tC, tD, tE, tF])
       (refine tk 14 ?_ rfl (Or.inl ⟨by rfl, ?_⟩) ?_; rotate_left; (focus (intro w h; (try dsimp only at h); go_simp; (try with_reducible rfl))); simp only [Act.put, tA, tB, tC, tD, tE, tF])
       refine wpAnyH_done (by kernel_rfl) ?_ _
       go_wp2
       go_roundg B.length
       case measure => exact HG2.out
       case rel => exact ⟨A ++ [n], B, HE2, rfl, HS.out, HQ.out, HB.out.drew⟩
end Go.Proofs.YtnljmdodpffmoaaGreat

/- Blocks that bear known cells, and chains of nodes. -/
import Derived.Test.YtjieojfcmigcdaaGreatDoorPw02
import Derived.Sort.OwnSorted
import Derived.Lib.RowBridge
import Derived.Lib.ItoaNum
import Derived.Lib.ItoaLen
namespace Go.Proofs.YtjieojfcmigcdaaGreatDoor
open Go.RowKit
open KM
theorem grown_trans {a b c : World} {row : Option Nat} (h : a.grownBy b row) (k : b.grownBy c row) : a.grownBy c row :=
 ⟨k.os.trans h.os, k.tape.trans h.tape, k.output.trans h.output, Nat.le_trans h.size k.size, fun j hj hne => (k.block j (Nat.lt_of_lt_of_le hj h.size) hne).trans (h.block j hj hne)⟩
theorem addr_ne (g : Nat) {i k : Nat} (h : i ≠ k) : (⟨g, i, none⟩ : Addr) ≠ ⟨g, k, none⟩ := fun e => h (by cases e; rfl)
structure Bx (w : World) (b : Nat) (cs : List Value) : Prop where
 lt : b < w.heap.size
 at' : ∀ j, j < cs.length → w.cell? ⟨b, j, none⟩ = cs[j]?
 fz : ∀ j, w.frozen? ⟨b, j, none⟩ = false
section
variable {w w' : World} {b : Nat} {cs : List Value}
theorem Bx.below (h : Bx w b cs) (hb : Below w.heap.size w w') : Bx w' b cs :=
 ⟨Nat.lt_of_lt_of_le h.lt hb.size, fun j hj => (hb.cell (p := ⟨b, j, none⟩) h.lt).trans (h.at' j hj), fun j => (hb.frozen (p := ⟨b, j, none⟩) h.lt).trans (h.fz j)⟩
theorem Bx.new (w : World) (cs : List Value) (T : Nat) : Bx (w.alloc (.cells cs.toArray T)) w.heap.size cs :=
 ⟨by simp, fun j hj => (World.cell?_alloc_mark w _ T (0, 0) j).trans (by simp), fun j => by
  rw [show (w.alloc (.cells cs.toArray T)).frozen? ⟨w.heap.size, j, none⟩ = _ from World.frozen?_alloc_mark w _ T 0 0 j]
  simp⟩
theorem Bx.alloc (h : Bx w b cs) (o : Obj) : Bx (w.alloc o) b cs := h.below ((belowRefl w).alloc (Nat.le_refl _) o)
theorem Bx.drew (h : Bx w b cs) : Bx w.drew b cs := h.below ((belowRefl w).drew)
theorem Bx.grown {g : Nat} (h : Bx w b cs) (hg : w.grownBy w' (some g)) (hne : b ≠ g) : Bx w' b cs := by
 have hb := hg.block b h.lt (fun e => hne (Option.some.inj e))
 refine ⟨Nat.lt_of_lt_of_le h.lt hg.size, fun j hj => (World.cell?_of_block (w := w) (a := ⟨b, j, none⟩) hb).trans (h.at' j hj), fun j => ?_⟩
 have := h.fz j
 unfold World.frozen? at this ⊢
 simp only at this ⊢
 rw [hb]; exact this
theorem Bx.set (h : Bx w b cs) (j : Nat) (u : Value) : Bx (w.setCell ⟨b, j, none⟩ u) b (cs.set j u) := by
 refine ⟨by simpa [World.setCell] using h.lt, fun i hi => ?_, fun i => by rw [World.frozen?_setCell]; exact h.fz i⟩
 have hi' : i < cs.length := by simpa using hi
 have hci := h.at' i hi'
 rw [List.getElem?_eq_getElem hi'] at hci
 by_cases e : i = j
 ·subst e
  rw [World.cell?_setCell_same _ _ _ hci, List.getElem?_set_self hi']
 ·rw [World.cell?_setCell_other _ _ _ _ (addr_ne b (fun e' => e e'.symm)), List.getElem?_set_ne (fun e' => e e'.symm)]
  exact h.at' i hi'
theorem Bx.setO (h : Bx w b cs) {p : Addr} (hne : p.block ≠ b) (u : Value) : Bx (w.setCell p u) b cs :=
 h.grown (g := p.block) ⟨rfl, rfl, rfl, by simp [World.setCell], fun j _ hne => Below.heap_setCell _ _ _ _ (fun e => hne (by rw [e]))⟩ (fun e => hne e.symm)
theorem Bx.c0 {x : Value} {r : List Value} (h : Bx w b (x :: r)) : w.cell? ⟨b, 0, none⟩ = some x := h.at' 0 (by simp)
theorem Bx.c1 {x y : Value} {r : List Value} (h : Bx w b (x :: y :: r)) : w.cell? ⟨b, 1, none⟩ = some y := h.at' 1 (by simp)
theorem Bx.c2 {x y z : Value} {r : List Value} (h : Bx w b (x :: y :: z :: r)) : w.cell? ⟨b, 2, none⟩ = some z := h.at' 2 (by simp)
theorem Bx.c3 {x y z u : Value} {r : List Value} (h : Bx w b (x :: y :: z :: u :: r)) : w.cell? ⟨b, 3, none⟩ = some u := h.at' 3 (by simp)
theorem Bx.c4 {x y z u v : Value} {r : List Value} (h : Bx w b (x :: y :: z :: u :: v :: r)) : w.cell? ⟨b, 4, none⟩ = some v := h.at' 4 (by simp)
end

structure Kn (bs : List Nat) (w w' : World) : Prop where
 os : w'.os = w.os
 tape : w'.tape = w.tape
 output : w'.output = w.output
 size : w.heap.size ≤ w'.heap.size
 block : ∀ j, j < w.heap.size → j ∉ bs → w'.heap[j]? = w.heap[j]?
theorem Kn.refl (bs : List Nat) (w : World) : Kn bs w w := ⟨rfl, rfl, rfl, Nat.le_refl _, fun _ _ _ => rfl⟩
theorem Kn.trans {bs : List Nat} {a b c : World} (h : Kn bs a b) (k : Kn bs b c) : Kn bs a c :=
 ⟨k.os.trans h.os, k.tape.trans h.tape, k.output.trans h.output, Nat.le_trans h.size k.size, fun j hj hn => (k.block j (Nat.lt_of_lt_of_le hj h.size) hn).trans (h.block j hj hn)⟩
theorem Kn.mono {bs cs : List Nat} {a b : World} (h : Kn bs a b) (hs : ∀ x ∈ bs, x ∈ cs) : Kn cs a b := ⟨h.os, h.tape, h.output, h.size, fun j hj hn => h.block j hj (fun m => hn (hs j m))⟩
theorem Kn.below {bs : List Nat} {base : Nat} {w w' : World} (h : Kn bs w w') (hb : base ≤ w.heap.size) (hs : ∀ x ∈ bs, base ≤ x) : Below base w w' :=
 ⟨h.os, h.tape, h.output, h.size, fun j hj => h.block j (by omega) (fun m => by have := hs j m; omega)⟩
theorem Kn.set (w : World) (g k : Nat) (v : Value) : Kn [g] w (w.setCell ⟨g, k, none⟩ v) :=
 ⟨rfl, rfl, rfl, by simp [World.setCell], fun j _ hne => Below.heap_setCell _ _ _ _ (fun e => hne (by simp [e]))⟩
theorem Bx.kn {bs : List Nat} {w w' : World} {b : Nat} {cs : List Value} (h : Bx w b cs) (hg : Kn bs w w') (hne : b ∉ bs) : Bx w' b cs := by
 have hb := hg.block b h.lt hne
 refine ⟨Nat.lt_of_lt_of_le h.lt hg.size, fun j hj => (World.cell?_of_block (w := w) (a := ⟨b, j, none⟩) hb).trans (h.at' j hj), fun j => ?_⟩
 have := h.fz j
 unfold World.frozen? at this ⊢
 simp only at this ⊢
 rw [hb]; exact this

abbrev Nd := Nat × Vr
def ptq (ns : List Nd) (q : Option Addr) : Option Addr := match ns with
 | [] => q
 | n :: _ => some ⟨n.1, 0, none⟩
theorem ptq_nil (q : Option Addr) : ptq [] q = q := rfl
theorem ptq_cons (n : Nd) (ns : List Nd) (q : Option Addr) : ptq (n :: ns) q = some ⟨n.1, 0, none⟩ := rfl
def ndc (v : Vr) (q : Option Addr) : List Value := [.string v.1, .string v.2.1, .bool v.2.2.1, .int .i64 v.2.2.2, .pointer q]
def Seg (w : World) : List Nd → Option Addr → Prop
 | [], _ => True
 | n :: ns, q => Bx w n.1 (ndc n.2 (ptq ns q)) ∧ Seg w ns q
theorem seg_app {w : World} : ∀ (A B : List Nd) (q : Option Addr), Seg w (A ++ B) q ↔ Seg w A (ptq B q) ∧ Seg w B q
 | [], B, q => by simp [Seg]
 | n :: A, B, q => by
  have ih := seg_app (w := w) A B q
  have e : ptq (A ++ B) q = ptq A (ptq B q) := by cases A <;> rfl
  simp only [List.cons_append, Seg, e, ih, and_assoc]
theorem seg_below {w w' : World} (hb : Below w.heap.size w w') : ∀ (A : List Nd) (q : Option Addr), Seg w A q → Seg w' A q
 | [], _, _ => trivial
 | _ :: A, q, h => ⟨h.1.below hb, seg_below hb A q h.2⟩
theorem seg_kn {bs : List Nat} {w w' : World} (hk : Kn bs w w') : ∀ (A : List Nd) (q : Option Addr), (∀ n ∈ A, n.1 ∉ bs) → Seg w A q → Seg w' A q
 | [], _, _, _ => trivial
 | n :: A, q, hn, h => ⟨h.1.kn hk (hn n (by simp)), seg_kn hk A q (fun m hm => hn m (by simp [hm])) h.2⟩
theorem seg_lt {w : World} : ∀ (A : List Nd) (q : Option Addr), Seg w A q → ∀ n ∈ A, n.1 < w.heap.size
 | n :: A, q, h, m, hm => by
  rcases List.mem_cons.1 hm with rfl | hm
  ·exact h.1.lt
  ·exact seg_lt A q h.2 m hm
structure Chn (w : World) (base c : Nat) (all : List Nd) : Prop where
 bx : Bx w c [.pointer (ptq all none)]
 seg : Seg w all none
 nd : (c :: all.map (·.1)).Nodup
 lo : ∀ b ∈ c :: all.map (·.1), base ≤ b
theorem Chn.below {w w' : World} {base c : Nat} {all : List Nd} (h : Chn w base c all) (hb : Below w.heap.size w w') : Chn w' base c all := ⟨h.bx.below hb, seg_below hb _ _ h.seg, h.nd, h.lo⟩
theorem Chn.kn {bs : List Nat} {w w' : World} {base c : Nat} {all : List Nd} (h : Chn w base c all) (hk : Kn bs w w') (hn : ∀ b ∈ c :: all.map (·.1), b ∉ bs) : Chn w' base c all :=
 ⟨h.bx.kn hk (hn c (by simp)), seg_kn hk _ _ (fun n hm => hn n.1 (List.mem_cons_of_mem _ (List.mem_map.2 ⟨n, hm, rfl⟩))) h.seg, h.nd, h.lo⟩
theorem Chn.lt {w : World} {base c : Nat} {all : List Nd} (h : Chn w base c all) : ∀ b ∈ c :: all.map (·.1), b < w.heap.size := fun b hb => by
 rcases List.mem_cons.1 hb with rfl | hb
 ·exact h.bx.lt
 ·obtain ⟨n, hn, rfl⟩ := List.mem_map.1 hb
  exact seg_lt _ _ h.seg n hn

theorem Chn.at' {w : World} {base c : Nat} {A B : List Nd} {m : Nd} (h : Chn w base c (A ++ m :: B)) : Bx w m.1 (ndc m.2 (ptq B none)) := ((seg_app A (m :: B) none).1 h.seg).2.1
theorem Chn.mem {w : World} {base c : Nat} {all : List Nd} {m : Nd} (h : Chn w base c all) (hm : m ∈ all) : ∃ q, Bx w m.1 (ndc m.2 q) := by
 obtain ⟨A, B, rfl⟩ := List.append_of_mem hm
 exact ⟨_, h.at'⟩

theorem Chn.next {w : World} {base c : Nat} {A B C : List Nd} {m : Nd} (h : Chn w base c (A ++ m :: B)) (hC : Seg w C none) (hnd : (c :: (A ++ m :: C).map (·.1)).Nodup) (hlo : ∀ n ∈ C, base ≤ n.1) : Chn (w.setCell ⟨m.1, 4, none⟩ (.pointer (ptq C none))) base c (A ++ m :: C) := by
 have hk := Kn.set w m.1 4 (.pointer (ptq C none))
 obtain ⟨hA, hm, _⟩ := (seg_app A (m :: B) none).1 h.seg
 have nd := hnd
 simp only [List.map_append, List.map_cons, List.nodup_cons, List.nodup_append, List.mem_append, List.mem_cons, not_or] at nd
 obtain ⟨⟨n1, n2, n3⟩, n4, ⟨n5, n6⟩, n7⟩ := nd
 refine ⟨?_, (seg_app A (m :: C) none).2 ⟨seg_kn hk _ _ (fun n hn => ?_) hA, ?_, seg_kn hk _ _ (fun n hn => ?_) hC⟩, hnd, fun b hb => ?_⟩
 ·have e : ptq (A ++ m :: C) none = ptq (A ++ m :: B) none := by cases A <;> rfl
  rw [e]
  exact h.bx.kn hk (by simp [n2])
 ·simp only [List.mem_singleton]
  exact n7 n.1 (List.mem_map.2 ⟨n, hn, rfl⟩) m.1 (Or.inl rfl)
 ·have := hm.set 4 (.pointer (ptq C none))
  exact this
 ·simp only [List.mem_singleton]
  exact fun e => n5 (by rw [← e]; exact List.mem_map.2 ⟨n, hn, rfl⟩)
 ·simp only [List.mem_cons, List.map_append, List.map_cons, List.mem_append] at hb
  rcases hb with rfl | hb | rfl | hb
  ·exact h.lo _ (by simp)
  ·exact h.lo _ (by simp only [List.mem_cons, List.map_append, List.mem_append]; exact Or.inr (Or.inl hb))
  ·exact h.lo _ (by simp)
  ·obtain ⟨n, hn, rfl⟩ := List.mem_map.1 hb
   exact hlo n hn
end Go.Proofs.YtjieojfcmigcdaaGreatDoor

namespace Go.Proofs.YtjieojfcmigcdaaGreatDoor
open Go.RowKit
open KM
open Go.Sort
attribute [local go_sem ↓] Go.wp_at_zero Go.wp_at_succ

theorem hide {p : Prop} (h : p) : Hid p := h
theorem heapAllocNew (w : World) (cs : List Value) (T : Nat) : (w.alloc (.cells cs.toArray T)).heap[w.heap.size]? = some (.cells cs.toArray T (0, 0)) := by unfold World.alloc; simp
theorem Bx.belowB {w w' : World} {b B : Nat} {cs : List Value} (h : Bx w b cs) (hb : Below B w w') (hlt : b < B) : Bx w' b cs :=
 ⟨Nat.lt_of_lt_of_le h.lt hb.size, fun j hj => (hb.cell (p := ⟨b, j, none⟩) hlt).trans (h.at' j hj), fun j => (hb.frozen (p := ⟨b, j, none⟩) hlt).trans (h.fz j)⟩
theorem GOwn.drewN {α : Type} {E : Enc α} {e : TypeId} {w : World} {base : Nat} {v : Value} {l : List α} (h : GOwn E e w base v l) (n : Nat) : GOwn E e (w.drewN n) base v l := h

theorem stepAppG {ops : Array Oper} {o : Oper} {a : Act} {K : Act → World → Prop} {Q : Exit → Act → World → Prop} {E : Prop} (T e size bytes : Nat) (z : Value) (hT : Tryz.prog.underlying T = some (.slice e))
  (hinfo : (Tryz.prog.info? e).map (fun i => (i.zero, i.size, i.bytes)) = some (some z, size, bytes)) (hzs : z.cells.size = size) (hsz : 0 < size) (hby : bytes ≤ 64)
  (hgd : o.guard = none) (s x : Operand) (ho : o.op = .call { callee := .builtin .append, args := #[s, x], argTypes := #[T, T] })
  {W : World} {base g n : Nat} {v : Value} {xs : List Value} (news : List Value)
  (hs : a.eval s = v) (hown : W.ownsRow base e size v n xs) (hx : a.eval x = .slice (some ⟨g, 0, none⟩) 1 1) (hblk : W.heap[g]? = some (.cells news.toArray e (0, 0)))
  (hl : news.length = size) (h1 : ∀ u ∈ news, u.oneCell' = true) (hlen : n ≤ 100000000) (hB : base ≤ W.heap.size)
  (h : ∀ g' cap w', w'.ownsRow base e size (.slice (some ⟨g', 0, none⟩) (n + 1) cap) (n + 1) (xs ++ news) → Below base W w' → K (a.put o.dst (.slice (some ⟨g', 0, none⟩) (n + 1) cap)) w') :
  if Region.wanted o (yielded ops a.tmps) = true then Oper.wp Tryz.prog o a W K Q else E := by
 obtain ⟨i0, hi, hz0, hz1, hz2⟩ := info_parts hinfo
 refine step_append_lies _ hgd s x T ho base e i0 z size bytes hT hi hz0 hz1 hz2 hzs hsz v n xs hs hown ⟨g, 0, none⟩ 1 1 news hx (by omega) ?_ h1 (by omega) (by unfold maxLen; omega) ?_ hB _ rfl ?_
 ·intro j u hj
  rw [Addr.add_lit, Nat.zero_add, World.cell?, hblk]
  simpa using hj
 ·calc (n + 1) * bytes ≤ 100000001 * 64 := Nat.mul_le_mul (by omega) hby
   _ ≤ _ := by omega
 ·intro g' cap w' h1 h2 _ _
  exact h g' cap w' h1 ((Below.refl _ _).grown h2 hB (fun j hj => (World.ownsRow.lt hown j hj).1))

theorem oneS {y : ByteArray} : ∀ u ∈ encS.enc y, u.oneCell' = true := by
 intro u hu
 simp only [encS, List.mem_cons, List.not_mem_nil, or_false] at hu
 rw [hu]; rfl
theorem wpAppS {ops : Array Oper} {rest : List Oper} {o : Oper} {a : Act} {Q : Exit → Act → World → Prop} (hgd : o.guard = none) (s x : Operand) (ho : o.op = .call { callee := .builtin .append, args := #[s, x], argTypes := #[28, 28] })
  {W : World} {base : Nat} {v : Value} {xs : List ByteArray} (y : ByteArray) (hs : a.eval s = v) (hown : GOwn encS 9 W base v xs)
  (hx : a.eval x = .slice (some ⟨W.heap.size, 0, none⟩) 1 1) (hlen : xs.length ≤ 100000000) (hB : base ≤ W.heap.size)
  (h : ∀ v' w', GOwn encS 9 w' base v' (xs ++ [y]) → Below base W w' → wpList Tryz.prog ops Q rest (a.put o.dst v') w') :
  wpList Tryz.prog ops Q (o :: rest) a (W.alloc (.cells #[.string y] 9)) := by
 refine wpAppG 28 9 1 16 _ Tryz.underlying28 Tryz.info9 rfl (by omega) (by omega) hgd s x ho (encS.enc y) hs (World.ownsRow.alloc hown _) hx (heapAllocNew W _ _) rfl oneS (by omega) (by simp; omega) ?_
 intro g' cap w' h1 h2
 refine h _ w' ?_ (((Below.refl _ _).alloc hB _).trans h2)
 have e : encS.cells (xs ++ [y]) = encS.cells xs ++ encS.enc y := by rw [encS.cells_app]; simp [Enc.cells]
 unfold GOwn
 rw [e, List.length_append]
 exact h1

theorem oneP {y : Rg} : ∀ u ∈ encR.enc y, u.oneCell' = true := by
 intro u hu
 simp only [encR, List.mem_cons, List.not_mem_nil, or_false] at hu
 rcases hu with rfl | rfl <;> rfl
theorem grown_base {w w' : World} {g base : Nat} (h : w.grownBy w' (some g)) (hg : base ≤ g) (hlt : g < w.heap.size) : Below base w w' :=
 ⟨h.os, h.tape, h.output, h.size, fun j hj => h.block j (by omega) (fun e => by have := Option.some.inj e; omega)⟩
theorem GRow.grown {α : Type} {E : Enc α} {w w' : World} {ao : Option Addr} {xs : List α} {row : Option Nat} (h : GRow E w ao xs) (hg : w.grownBy w' row) (hne : ∀ b off, ao = some ⟨b, off, none⟩ → row ≠ some b) : GRow E w' ao xs := fun h0 => by
 obtain ⟨b, off, rfl, hlt, hc⟩ := h h0
 have hb := hg.block b hlt (fun e => hne b off rfl e.symm)
 exact ⟨b, off, rfl, Nat.lt_of_lt_of_le hlt hg.size, fun j hj i hi => (World.cell?_of_block (w := w) (a := ⟨b, off + j * E.size + i, none⟩) hb).trans (hc j hj i hi)⟩
def Away (v : Value) (lo hi : Nat) : Prop := ∀ g, v.ownBlock = some g → g < lo ∨ hi ≤ g
theorem Away.next {v v' : Value} {lo hi n : Nat} (h : Away v lo hi) (hn : hi ≤ n) (h2 : v'.ownBlock = v.ownBlock ∨ ∃ g, v'.ownBlock = some g ∧ n ≤ g) : Away v' lo hi := fun g hg => by
 rcases h2 with h2 | ⟨g', h2, h3⟩
 ·exact h g (h2 ▸ hg)
 ·rw [h2] at hg
  have := Option.some.inj hg
  omega
theorem not_le (a b : ByteArray) : (!(Op.bytesLess a.toList b.toList || a.toList == b.toList)) = lt b a := by
 have h := not_lt b a
 unfold le at h
 rw [← h]
 unfold lt
 simp
theorem filter_take {α : Type} (p : α → Bool) (xs : List α) (k : Nat) (hk : k < xs.length) : (xs.take (k + 1)).filter p = (xs.take k).filter p ++ (if p xs[k] then [xs[k]] else []) := by
 rw [List.take_succ_eq_append_getElem hk, List.filter_append]
 congr 1
 cases h : p xs[k] <;> simp [h]
theorem filter_yes {α : Type} {p : α → Bool} {xs : List α} {k : Nat} (hk : k < xs.length) (h : p xs[k] = true) : (xs.take (k + 1)).filter p = (xs.take k).filter p ++ [xs[k]] := by
 rw [filter_take p xs k hk, h]; rfl
theorem filter_no {α : Type} {p : α → Bool} {xs : List α} {k : Nat} (hk : k < xs.length) (h : p xs[k] = false) : (xs.take (k + 1)).filter p = (xs.take k).filter p := by
 rw [filter_take p xs k hk, h]; simp
end Go.Proofs.YtjieojfcmigcdaaGreatDoor

namespace Go.Proofs.YtjieojfcmigcdaaGreatDoor
open Go.RowKit
open KM
attribute [local go_sem ↓] Go.wp_at_zero Go.wp_at_succ

def dd (m : Nat) : List UInt8 := if m = 0 then [] else Go.Lib.decDigits m
theorem dd_step (m : Nat) (h : 0 < m) : dd m = dd (m / 10) ++ [UInt8.ofNat (48 + m % 10)] := by
 unfold dd
 rw [if_neg (by omega)]
 by_cases hs : m < 10
 ·rw [if_pos (by omega), Go.Lib.decDigits_one hs, show m % 10 = m by omega]; rfl
 ·rw [if_neg (by omega), Go.Lib.decDigits, dif_neg hs]
theorem ret_str {a b : ByteArray} (h : a.data.toList = b.data.toList) : Ending.returned (.string a) = .returned (.string b) := by
 have : a = b := by
  apply ByteArray.ext
  exact Array.toList_inj.1 h
 rw [this]
end Go.Proofs.YtjieojfcmigcdaaGreatDoor

namespace Go.Proofs.YtjieojfcmigcdaaGreatDoor
namespace WM

def val : List UInt8 → Nat
 | [] => 0
 | b :: t => b.toNat % 128 + 128 * val t

def fig (x : Nat) : UInt8 := if x < 10 then UInt8.ofNat (48 + x) else UInt8.ofNat (87 + x)

def hexL (l : List UInt8) : List UInt8 := l.flatMap fun b => [fig (b.toNat / 16), fig (b.toNat % 16)]

theorem hexL_snoc (l : List UInt8) (b : UInt8) : hexL (l ++ [b]) = hexL l ++ [fig (b.toNat / 16), fig (b.toNat % 16)] := by
 simp [hexL]

theorem hexL_len (l : List UInt8) : (hexL l).length = 2 * l.length := by
 induction l with
 | nil => rfl
 | cons b t ih => simp only [hexL, List.flatMap_cons, List.length_append] at *; rw [ih]; simp; omega

theorem fig_toNat (v : Nat) (h : v < 16) : (fig v).toNat = if v < 10 then 48 + v else 87 + v := by
 unfold fig
 split <;> simp only [UInt8.toNat_ofNat'] <;> omega

end WM
end Go.Proofs.YtjieojfcmigcdaaGreatDoor

/- Blocks that bear known cells, and chains of nodes. -/
import Derived.Test.YtpnnncfbodfnhaaGreatPk03
import Derived.Test.YtpnnncfbodfnhaaGreatPk02
import Derived.Sort.OwnSorted
import Derived.Lib.RowBridge
import Derived.Lib.ItoaNum
import Derived.Lib.ItoaLen
import Derived.Test.YtpnnncfbodfnhaaGreatProg
import Derived.WalkKit
import Derived.Test.YtpnnncfbodfnhaaGreatPk01
import Derived.WalkSpells
import Derived.WalkLawsBesides
import Derived.Deep.QuietTactic
import Derived.BigQuiet
import Derived.Deep.RegionHeld3
import Derived.Deep.DrawnRows
namespace Go.Proofs.YtpnnncfbodfnhaaGreat
open Go.RowKit
open KM
theorem grown_trans {a b c : World} {row : Option Nat} (h : a.grownBy b row) (k : b.grownBy c row) : a.grownBy c row :=
  ⟨k.os.trans h.os, k.tape.trans h.tape, k.output.trans h.output, Nat.le_trans h.size k.size, fun j hj hne => (k.block j (Nat.lt_of_lt_of_le hj h.size) hne).trans (h.block j hj hne)⟩
theorem grown_refl (w : World) (row : Option Nat) : w.grownBy w row := ⟨rfl, rfl, rfl, Nat.le_refl _, fun _ _ _ => rfl⟩
theorem grown_set (w : World) (g k : Nat) (v : Value) : w.grownBy (w.setCell ⟨g, k, none⟩ v) (some g) :=
  ⟨rfl, rfl, rfl, by simp [World.setCell], fun j _ hne => Below.heap_setCell _ _ _ _ (fun e => hne (by rw [e]))⟩
theorem grown_below {w w' : World} (row : Option Nat) (hb : Below w.heap.size w w') : w.grownBy w' row := ⟨hb.os, hb.tape, hb.output, hb.size, fun j hj _ => hb.block j hj⟩
theorem addr_ne (g : Nat) {i k : Nat} (h : i ≠ k) : (⟨g, i, none⟩ : Addr) ≠ ⟨g, k, none⟩ := fun e => h (by cases e; rfl)
/-- block b bears the cells cs, which may be written -/
structure Bx (w : World) (b : Nat) (cs : List Value) : Prop where
  lt : b < w.heap.size
  at' : ∀ j, j < cs.length → w.cell? ⟨b, j, none⟩ = cs[j]?
  fz : ∀ j, w.frozen? ⟨b, j, none⟩ = false
section
variable {w w' : World} {b : Nat} {cs : List Value}
theorem Bx.below (h : Bx w b cs) (hb : Below w.heap.size w w') : Bx w' b cs :=
  ⟨Nat.lt_of_lt_of_le h.lt hb.size, fun j hj => (hb.cell (p := ⟨b, j, none⟩) h.lt).trans (h.at' j hj), fun j => (hb.frozen (p := ⟨b, j, none⟩) h.lt).trans (h.fz j)⟩
theorem Bx.new (w : World) (cs : List Value) (T : Nat) : Bx (w.alloc (.cells cs.toArray T)) w.heap.size cs :=
  ⟨by simp, fun j hj => (World.cell?_alloc_mark w _ T (0, 0) j).trans (by simp), fun j => by
    rw [show (w.alloc (.cells cs.toArray T)).frozen? ⟨w.heap.size, j, none⟩ = _ from World.frozen?_alloc_mark w _ T 0 0 j]
    simp⟩
theorem Bx.alloc (h : Bx w b cs) (o : Obj) : Bx (w.alloc o) b cs := h.below ((belowRefl w).alloc (Nat.le_refl _) o)
theorem Bx.drew (h : Bx w b cs) : Bx w.drew b cs := h.below ((belowRefl w).drew)
theorem Bx.grown {g : Nat} (h : Bx w b cs) (hg : w.grownBy w' (some g)) (hne : b ≠ g) : Bx w' b cs := by
  have hb := hg.block b h.lt (fun e => hne (Option.some.inj e))
  refine ⟨Nat.lt_of_lt_of_le h.lt hg.size, fun j hj => (World.cell?_of_block (w := w) (a := ⟨b, j, none⟩) hb).trans (h.at' j hj), fun j => ?_⟩
  have := h.fz j
  unfold World.frozen? at this ⊢
  simp only at this ⊢
  rw [hb]; exact this
theorem Bx.set (h : Bx w b cs) (j : Nat) (u : Value) : Bx (w.setCell ⟨b, j, none⟩ u) b (cs.set j u) := by
  refine ⟨by simpa [World.setCell] using h.lt, fun i hi => ?_, fun i => by rw [World.frozen?_setCell]; exact h.fz i⟩
  have hi' : i < cs.length := by simpa using hi
  have hci := h.at' i hi'
  rw [List.getElem?_eq_getElem hi'] at hci
  by_cases e : i = j
  · subst e
    rw [World.cell?_setCell_same _ _ _ hci, List.getElem?_set_self hi']
  · rw [World.cell?_setCell_other _ _ _ _ (addr_ne b (fun e' => e e'.symm)), List.getElem?_set_ne (fun e' => e e'.symm)]
    exact h.at' i hi'
theorem Bx.setO (h : Bx w b cs) {p : Addr} (hne : p.block ≠ b) (u : Value) : Bx (w.setCell p u) b cs :=
  h.grown (g := p.block) ⟨rfl, rfl, rfl, by simp [World.setCell], fun j _ hne => Below.heap_setCell _ _ _ _ (fun e => hne (by rw [e]))⟩ (fun e => hne e.symm)
theorem Bx.c0 {x : Value} {r : List Value} (h : Bx w b (x :: r)) : w.cell? ⟨b, 0, none⟩ = some x := h.at' 0 (by simp)
theorem Bx.c1 {x y : Value} {r : List Value} (h : Bx w b (x :: y :: r)) : w.cell? ⟨b, 1, none⟩ = some y := h.at' 1 (by simp)
theorem Bx.c2 {x y z : Value} {r : List Value} (h : Bx w b (x :: y :: z :: r)) : w.cell? ⟨b, 2, none⟩ = some z := h.at' 2 (by simp)
theorem Bx.c3 {x y z u : Value} {r : List Value} (h : Bx w b (x :: y :: z :: u :: r)) : w.cell? ⟨b, 3, none⟩ = some u := h.at' 3 (by simp)
theorem Bx.c4 {x y z u v : Value} {r : List Value} (h : Bx w b (x :: y :: z :: u :: v :: r)) : w.cell? ⟨b, 4, none⟩ = some v := h.at' 4 (by simp)
end

/-- all but the blocks bs is as it was -/
structure Kn (bs : List Nat) (w w' : World) : Prop where
  os : w'.os = w.os
  tape : w'.tape = w.tape
  output : w'.output = w.output
  size : w.heap.size ≤ w'.heap.size
  block : ∀ j, j < w.heap.size → j ∉ bs → w'.heap[j]? = w.heap[j]?
theorem Kn.refl (bs : List Nat) (w : World) : Kn bs w w := ⟨rfl, rfl, rfl, Nat.le_refl _, fun _ _ _ => rfl⟩
theorem Kn.trans {bs : List Nat} {a b c : World} (h : Kn bs a b) (k : Kn bs b c) : Kn bs a c :=
  ⟨k.os.trans h.os, k.tape.trans h.tape, k.output.trans h.output, Nat.le_trans h.size k.size, fun j hj hn => (k.block j (Nat.lt_of_lt_of_le hj h.size) hn).trans (h.block j hj hn)⟩
theorem Kn.mono {bs cs : List Nat} {a b : World} (h : Kn bs a b) (hs : ∀ x ∈ bs, x ∈ cs) : Kn cs a b := ⟨h.os, h.tape, h.output, h.size, fun j hj hn => h.block j hj (fun m => hn (hs j m))⟩
theorem Kn.ofBelow {bs : List Nat} {w w' : World} (h : Below w.heap.size w w') : Kn bs w w' := ⟨h.os, h.tape, h.output, h.size, fun j hj _ => h.block j hj⟩
theorem Kn.below {bs : List Nat} {base : Nat} {w w' : World} (h : Kn bs w w') (hb : base ≤ w.heap.size) (hs : ∀ x ∈ bs, base ≤ x) : Below base w w' :=
  ⟨h.os, h.tape, h.output, h.size, fun j hj => h.block j (by omega) (fun m => by have := hs j m; omega)⟩
theorem Kn.set (w : World) (g k : Nat) (v : Value) : Kn [g] w (w.setCell ⟨g, k, none⟩ v) :=
  ⟨rfl, rfl, rfl, by simp [World.setCell], fun j _ hne => Below.heap_setCell _ _ _ _ (fun e => hne (by simp [e]))⟩
theorem Bx.kn {bs : List Nat} {w w' : World} {b : Nat} {cs : List Value} (h : Bx w b cs) (hg : Kn bs w w') (hne : b ∉ bs) : Bx w' b cs := by
  have hb := hg.block b h.lt hne
  refine ⟨Nat.lt_of_lt_of_le h.lt hg.size, fun j hj => (World.cell?_of_block (w := w) (a := ⟨b, j, none⟩) hb).trans (h.at' j hj), fun j => ?_⟩
  have := h.fz j
  unfold World.frozen? at this ⊢
  simp only at this ⊢
  rw [hb]; exact this

/-- a node: its block, its version -/
abbrev Nd := Nat × Vr
/-- where a list of nodes begins, q behind it -/
def ptq (ns : List Nd) (q : Option Addr) : Option Addr := match ns with
  | [] => q
  | n :: _ => some ⟨n.1, 0, none⟩
theorem ptq_nil (q : Option Addr) : ptq [] q = q := rfl
theorem ptq_cons (n : Nd) (ns : List Nd) (q : Option Addr) : ptq (n :: ns) q = some ⟨n.1, 0, none⟩ := rfl
/-- the cells of a node -/
def ndc (v : Vr) (q : Option Addr) : List Value := [.string v.1, .string v.2.1, .bool v.2.2.1, .int .i64 v.2.2.2, .pointer q]
/-- nodes, each leading to the next, the last one to q -/
def Seg (w : World) : List Nd → Option Addr → Prop
  | [], _ => True
  | n :: ns, q => Bx w n.1 (ndc n.2 (ptq ns q)) ∧ Seg w ns q
theorem seg_app {w : World} : ∀ (A B : List Nd) (q : Option Addr), Seg w (A ++ B) q ↔ Seg w A (ptq B q) ∧ Seg w B q
  | [], B, q => by simp [Seg]
  | n :: A, B, q => by
    have ih := seg_app (w := w) A B q
    have e : ptq (A ++ B) q = ptq A (ptq B q) := by cases A <;> rfl
    simp only [List.cons_append, Seg, e, ih, and_assoc]
theorem seg_below {w w' : World} (hb : Below w.heap.size w w') : ∀ (A : List Nd) (q : Option Addr), Seg w A q → Seg w' A q
  | [], _, _ => trivial
  | _ :: A, q, h => ⟨h.1.below hb, seg_below hb A q h.2⟩
theorem seg_kn {bs : List Nat} {w w' : World} (hk : Kn bs w w') : ∀ (A : List Nd) (q : Option Addr), (∀ n ∈ A, n.1 ∉ bs) → Seg w A q → Seg w' A q
  | [], _, _, _ => trivial
  | n :: A, q, hn, h => ⟨h.1.kn hk (hn n (by simp)), seg_kn hk A q (fun m hm => hn m (by simp [hm])) h.2⟩
theorem seg_lt {w : World} : ∀ (A : List Nd) (q : Option Addr), Seg w A q → ∀ n ∈ A, n.1 < w.heap.size
  | n :: A, q, h, m, hm => by
    rcases List.mem_cons.1 hm with rfl | hm
    · exact h.1.lt
    · exact seg_lt A q h.2 m hm
/-- a chain: its block c leads to the root, the first of all -/
structure Chn (w : World) (base c : Nat) (all : List Nd) : Prop where
  bx : Bx w c [.pointer (ptq all none)]
  seg : Seg w all none
  nd : (c :: all.map (·.1)).Nodup
  lo : ∀ b ∈ c :: all.map (·.1), base ≤ b
theorem Chn.below {w w' : World} {base c : Nat} {all : List Nd} (h : Chn w base c all) (hb : Below w.heap.size w w') : Chn w' base c all := ⟨h.bx.below hb, seg_below hb _ _ h.seg, h.nd, h.lo⟩
theorem Chn.kn {bs : List Nat} {w w' : World} {base c : Nat} {all : List Nd} (h : Chn w base c all) (hk : Kn bs w w') (hn : ∀ b ∈ c :: all.map (·.1), b ∉ bs) : Chn w' base c all :=
  ⟨h.bx.kn hk (hn c (by simp)), seg_kn hk _ _ (fun n hm => hn n.1 (List.mem_cons_of_mem _ (List.mem_map.2 ⟨n, hm, rfl⟩))) h.seg, h.nd, h.lo⟩
theorem Chn.lt {w : World} {base c : Nat} {all : List Nd} (h : Chn w base c all) : ∀ b ∈ c :: all.map (·.1), b < w.heap.size := fun b hb => by
  rcases List.mem_cons.1 hb with rfl | hb
  · exact h.bx.lt
  · obtain ⟨n, hn, rfl⟩ := List.mem_map.1 hb
    exact seg_lt _ _ h.seg n hn

/-- the node at a place of the chain -/
theorem Chn.at' {w : World} {base c : Nat} {A B : List Nd} {m : Nd} (h : Chn w base c (A ++ m :: B)) : Bx w m.1 (ndc m.2 (ptq B none)) := ((seg_app A (m :: B) none).1 h.seg).2.1
theorem Chn.mem {w : World} {base c : Nat} {all : List Nd} {m : Nd} (h : Chn w base c all) (hm : m ∈ all) : ∃ q, Bx w m.1 (ndc m.2 q) := by
  obtain ⟨A, B, rfl⟩ := List.append_of_mem hm
  exact ⟨_, h.at'⟩

/-- the node m leads elsewhere -/
theorem Chn.next {w : World} {base c : Nat} {A B C : List Nd} {m : Nd} (h : Chn w base c (A ++ m :: B)) (hC : Seg w C none) (hnd : (c :: (A ++ m :: C).map (·.1)).Nodup) (hlo : ∀ n ∈ C, base ≤ n.1) : Chn (w.setCell ⟨m.1, 4, none⟩ (.pointer (ptq C none))) base c (A ++ m :: C) := by
  have hk := Kn.set w m.1 4 (.pointer (ptq C none))
  obtain ⟨hA, hm, _⟩ := (seg_app A (m :: B) none).1 h.seg
  have nd := hnd
  simp only [List.map_append, List.map_cons, List.nodup_cons, List.nodup_append, List.mem_append, List.mem_cons, not_or] at nd
  obtain ⟨⟨n1, n2, n3⟩, n4, ⟨n5, n6⟩, n7⟩ := nd
  refine ⟨?_, (seg_app A (m :: C) none).2 ⟨seg_kn hk _ _ (fun n hn => ?_) hA, ?_, seg_kn hk _ _ (fun n hn => ?_) hC⟩, hnd, fun b hb => ?_⟩
  · have e : ptq (A ++ m :: C) none = ptq (A ++ m :: B) none := by cases A <;> rfl
    rw [e]
    exact h.bx.kn hk (by simp [n2])
  · simp only [List.mem_singleton]
    exact n7 n.1 (List.mem_map.2 ⟨n, hn, rfl⟩) m.1 (Or.inl rfl)
  · have := hm.set 4 (.pointer (ptq C none))
    exact this
  · simp only [List.mem_singleton]
    exact fun e => n5 (by rw [← e]; exact List.mem_map.2 ⟨n, hn, rfl⟩)
  · simp only [List.mem_cons, List.map_append, List.map_cons, List.mem_append] at hb
    rcases hb with rfl | hb | rfl | hb
    · exact h.lo _ (by simp)
    · exact h.lo _ (by simp only [List.mem_cons, List.map_append, List.mem_append]; exact Or.inr (Or.inl hb))
    · exact h.lo _ (by simp)
    · obtain ⟨n, hn, rfl⟩ := List.mem_map.1 hb
      exact hlo n hn
end Go.Proofs.YtpnnncfbodfnhaaGreat

namespace Go.Proofs.YtpnnncfbodfnhaaGreat
open Go.RowKit
open KM
open Go.Sort
attribute [local go_sem ↓] Go.wp_at_zero Go.wp_at_succ

theorem hide {p : Prop} (h : p) : Hid p := h
theorem heapAllocNew (w : World) (cs : List Value) (T : Nat) : (w.alloc (.cells cs.toArray T)).heap[w.heap.size]? = some (.cells cs.toArray T (0, 0)) := by unfold World.alloc; simp
theorem Bx.belowB {w w' : World} {b B : Nat} {cs : List Value} (h : Bx w b cs) (hb : Below B w w') (hlt : b < B) : Bx w' b cs :=
  ⟨Nat.lt_of_lt_of_le h.lt hb.size, fun j hj => (hb.cell (p := ⟨b, j, none⟩) hlt).trans (h.at' j hj), fun j => (hb.frozen (p := ⟨b, j, none⟩) hlt).trans (h.fz j)⟩
theorem GOwn.drewN {α : Type} {E : Enc α} {e : TypeId} {w : World} {base : Nat} {v : Value} {l : List α} (h : GOwn E e w base v l) (n : Nat) : GOwn E e (w.drewN n) base v l := h

theorem stepAppG {ops : Array Oper} {o : Oper} {a : Act} {K : Act → World → Prop} {Q : Exit → Act → World → Prop} {E : Prop} (T e size bytes : Nat) (z : Value) (hT : Tryz.prog.underlying T = some (.slice e))
    (hinfo : (Tryz.prog.info? e).map (fun i => (i.zero, i.size, i.bytes)) = some (some z, size, bytes)) (hzs : z.cells.size = size) (hsz : 0 < size) (hby : bytes ≤ 64)
    (hgd : o.guard = none) (s x : Operand) (ho : o.op = .call { callee := .builtin .append, args := #[s, x], argTypes := #[T, T] })
    {W : World} {base g n : Nat} {v : Value} {xs : List Value} (news : List Value)
    (hs : a.eval s = v) (hown : W.ownsRow base e size v n xs) (hx : a.eval x = .slice (some ⟨g, 0, none⟩) 1 1) (hblk : W.heap[g]? = some (.cells news.toArray e (0, 0)))
    (hl : news.length = size) (h1 : ∀ u ∈ news, u.oneCell' = true) (hlen : n ≤ 100000000) (hB : base ≤ W.heap.size)
    (h : ∀ g' cap w', w'.ownsRow base e size (.slice (some ⟨g', 0, none⟩) (n + 1) cap) (n + 1) (xs ++ news) → Below base W w' → K (a.put o.dst (.slice (some ⟨g', 0, none⟩) (n + 1) cap)) w') :
    if Region.wanted o (yielded ops a.tmps) = true then Oper.wp Tryz.prog o a W K Q else E := by
  obtain ⟨i0, hi, hz0, hz1, hz2⟩ := info_parts hinfo
  refine step_append_lies _ hgd s x T ho base e i0 z size bytes hT hi hz0 hz1 hz2 hzs hsz v n xs hs hown ⟨g, 0, none⟩ 1 1 news hx (by omega) ?_ h1 (by omega) (by unfold maxLen; omega) ?_ hB _ rfl ?_
  · intro j u hj
    rw [Addr.add_lit, Nat.zero_add, World.cell?, hblk]
    simpa using hj
  · calc (n + 1) * bytes ≤ 100000001 * 64 := Nat.mul_le_mul (by omega) hby
      _ ≤ _ := by omega
  · intro g' cap w' h1 h2 _ _
    exact h g' cap w' h1 ((Below.refl _ _).grown h2 hB (fun j hj => (World.ownsRow.lt hown j hj).1))

theorem oneS {y : ByteArray} : ∀ u ∈ encS.enc y, u.oneCell' = true := by
  intro u hu
  simp only [encS, List.mem_cons, List.not_mem_nil, or_false] at hu
  rw [hu]; rfl
theorem wpAppS {ops : Array Oper} {rest : List Oper} {o : Oper} {a : Act} {Q : Exit → Act → World → Prop} (hgd : o.guard = none) (s x : Operand) (ho : o.op = .call { callee := .builtin .append, args := #[s, x], argTypes := #[228, 228] })
    {W : World} {base : Nat} {v : Value} {xs : List ByteArray} (y : ByteArray) (hs : a.eval s = v) (hown : GOwn encS 9 W base v xs)
    (hx : a.eval x = .slice (some ⟨W.heap.size, 0, none⟩) 1 1) (hlen : xs.length ≤ 100000000) (hB : base ≤ W.heap.size)
    (h : ∀ v' w', GOwn encS 9 w' base v' (xs ++ [y]) → Below base W w' → wpList Tryz.prog ops Q rest (a.put o.dst v') w') :
    wpList Tryz.prog ops Q (o :: rest) a (W.alloc (.cells #[.string y] 9)) := by
  refine wpAppG 228 9 1 16 _ Tryz.underlying228 Tryz.info9 rfl (by omega) (by omega) hgd s x ho (encS.enc y) hs (World.ownsRow.alloc hown _) hx (heapAllocNew W _ _) rfl oneS (by omega) (by simp; omega) ?_
  intro g' cap w' h1 h2
  refine h _ w' ?_ (((Below.refl _ _).alloc hB _).trans h2)
  have e : encS.cells (xs ++ [y]) = encS.cells xs ++ encS.enc y := by rw [encS.cells_app]; simp [Enc.cells]
  unfold GOwn
  rw [e, List.length_append]
  exact h1

theorem stepAppS {ops : Array Oper} {o : Oper} {a : Act} {K : Act → World → Prop} {Q : Exit → Act → World → Prop} {E : Prop} (hgd : o.guard = none) (s x : Operand) (ho : o.op = .call { callee := .builtin .append, args := #[s, x], argTypes := #[228, 228] })
    {W : World} {base g : Nat} {v : Value} {xs : List ByteArray} (y : ByteArray) (hs : a.eval s = v) (hown : GOwn encS 9 W base v xs)
    (hx : a.eval x = .slice (some ⟨g, 0, none⟩) 1 1) (hblk : W.heap[g]? = some (.cells (encS.enc y).toArray 9 (0, 0))) (hlen : xs.length ≤ 100000000) (hB : base ≤ W.heap.size)
    (h : ∀ v' w', GOwn encS 9 w' base v' (xs ++ [y]) → Below base W w' → K (a.put o.dst v') w') :
    if Region.wanted o (yielded ops a.tmps) = true then Oper.wp Tryz.prog o a W K Q else E := by
  refine stepAppG 228 9 1 16 _ Tryz.underlying228 Tryz.info9 rfl (by omega) (by omega) hgd s x ho (encS.enc y) hs hown hx hblk rfl oneS (by omega) hB ?_
  intro g' cap w' h1 h2
  refine h _ w' ?_ h2
  have e : encS.cells (xs ++ [y]) = encS.cells xs ++ encS.enc y := by rw [encS.cells_app]; simp [Enc.cells]
  unfold GOwn
  rw [e, List.length_append]
  exact h1

theorem oneP {y : Rg} : ∀ u ∈ encR.enc y, u.oneCell' = true := by
  intro u hu
  simp only [encR, List.mem_cons, List.not_mem_nil, or_false] at hu
  rcases hu with rfl | rfl <;> rfl
theorem oneV {y : Vr} : ∀ u ∈ encV.enc y, u.oneCell' = true := by
  intro u hu
  simp only [encV, List.mem_cons, List.not_mem_nil, or_false] at hu
  rcases hu with rfl | rfl | rfl | rfl <;> rfl
theorem oneI {y : Int} : ∀ u ∈ encI.enc y, u.oneCell' = true := by
  intro u hu
  simp only [encI, List.mem_cons, List.not_mem_nil, or_false] at hu
  rw [hu]; rfl
theorem grown_base {w w' : World} {g base : Nat} (h : w.grownBy w' (some g)) (hg : base ≤ g) (hlt : g < w.heap.size) : Below base w w' :=
  ⟨h.os, h.tape, h.output, h.size, fun j hj => h.block j (by omega) (fun e => by have := Option.some.inj e; omega)⟩
theorem GRow.grown {α : Type} {E : Enc α} {w w' : World} {ao : Option Addr} {xs : List α} {row : Option Nat} (h : GRow E w ao xs) (hg : w.grownBy w' row) (hne : ∀ b off, ao = some ⟨b, off, none⟩ → row ≠ some b) : GRow E w' ao xs := fun h0 => by
  obtain ⟨b, off, rfl, hlt, hc⟩ := h h0
  have hb := hg.block b hlt (fun e => hne b off rfl e.symm)
  exact ⟨b, off, rfl, Nat.lt_of_lt_of_le hlt hg.size, fun j hj i hi => (World.cell?_of_block (w := w) (a := ⟨b, off + j * E.size + i, none⟩) hb).trans (hc j hj i hi)⟩
/-- the slice's own block is none of lo .. hi -/
def Away (v : Value) (lo hi : Nat) : Prop := ∀ g, v.ownBlock = some g → g < lo ∨ hi ≤ g
theorem Away.next {v v' : Value} {lo hi n : Nat} (h : Away v lo hi) (hn : hi ≤ n) (h2 : v'.ownBlock = v.ownBlock ∨ ∃ g, v'.ownBlock = some g ∧ n ≤ g) : Away v' lo hi := fun g hg => by
  rcases h2 with h2 | ⟨g', h2, h3⟩
  · exact h g (h2 ▸ hg)
  · rw [h2] at hg
    have := Option.some.inj hg
    omega
theorem not_le (a b : ByteArray) : (!(Op.bytesLess a.toList b.toList || a.toList == b.toList)) = lt b a := by
  have h := not_lt b a
  unfold le at h
  rw [← h]
  unfold lt
  simp
theorem filter_take {α : Type} (p : α → Bool) (xs : List α) (k : Nat) (hk : k < xs.length) : (xs.take (k + 1)).filter p = (xs.take k).filter p ++ (if p xs[k] then [xs[k]] else []) := by
  rw [List.take_succ_eq_append_getElem hk, List.filter_append]
  congr 1
  cases h : p xs[k] <;> simp [h]
theorem filter_yes {α : Type} {p : α → Bool} {xs : List α} {k : Nat} (hk : k < xs.length) (h : p xs[k] = true) : (xs.take (k + 1)).filter p = (xs.take k).filter p ++ [xs[k]] := by
  rw [filter_take p xs k hk, h]; rfl
theorem filter_no {α : Type} {p : α → Bool} {xs : List α} {k : Nat} (hk : k < xs.length) (h : p xs[k] = false) : (xs.take (k + 1)).filter p = (xs.take k).filter p := by
  rw [filter_take p xs k hk, h]; simp
end Go.Proofs.YtpnnncfbodfnhaaGreat

namespace Go.Proofs.YtpnnncfbodfnhaaGreat
open Go.RowKit
open KM
attribute [local go_sem ↓] Go.wp_at_zero Go.wp_at_succ

theorem toNat_ofNat (x : Nat) (h : x < 256) : ((UInt8.ofNat x).toNat : Int) = (x : Int) := by
  simp only [UInt8.toNat_ofNat']; omega
/-- the decimal figures of m, none of 0 -/
def dd (m : Nat) : List UInt8 := if m = 0 then [] else Go.Lib.decDigits m
theorem dd_step (m : Nat) (h : 0 < m) : dd m = dd (m / 10) ++ [UInt8.ofNat (48 + m % 10)] := by
  unfold dd
  rw [if_neg (by omega)]
  by_cases hs : m < 10
  · rw [if_pos (by omega), Go.Lib.decDigits_one hs, show m % 10 = m by omega]; rfl
  · rw [if_neg (by omega), Go.Lib.decDigits, dif_neg hs]
/-- the mark of k -/
def mkB (k : Nat) : ByteArray := ⟨#[109]⟩ ++ ⟨(dd k).toArray⟩
theorem dd_len (m : Nat) (h : m < 18446744073709551616) : (dd m).length ≤ 20 := by
  unfold dd
  split
  · simp
  · rw [Lib.decDigits_length]; exact Lib.nDigits_le20 m h
theorem app_data (b : UInt8) (s : ByteArray) : ((⟨#[b]⟩ : ByteArray) ++ s).data.toList = b :: s.data.toList := by simp
theorem dd_round {m N : Nat} {s : ByteArray} (hm : 0 < m) (h : dd m ++ s.data.toList = dd N) : dd (m / 10) ++ ((⟨#[UInt8.ofNat (48 + m % 10)]⟩ : ByteArray) ++ s).data.toList = dd N := by
  rw [app_data, ← h, dd_step m hm]; simp
theorem round_size {m N : Nat} {s : ByteArray} (hN : N < 18446744073709551616) (h : dd m ++ s.data.toList = dd N) : s.size ≤ 20 := by
  have h1 := dd_len N hN
  have h2 := congrArg List.length h
  simp at h2
  omega
theorem ret_str {a b : ByteArray} (h : a.data.toList = b.data.toList) : Ending.returned (.string a) = .returned (.string b) := by
  have : a = b := by
    apply ByteArray.ext
    exact Array.toList_inj.1 h
  rw [this]
theorem own_form {w : World} {base e size n c : Nat} {a : Option Addr} {xs : List Value} (h : w.ownsRow base e size (.slice a n c) n xs) (hn : 0 < n) : ∃ g, a = some ⟨g, 0, none⟩ ∧ base ≤ g ∧ g < w.heap.size := by
  obtain ⟨g, cap, hv, h1, h2⟩ := h.form hn
  cases hv
  exact ⟨g, rfl, h1, h2⟩
theorem gown_ext {α : Type} {E : Enc α} {e : TypeId} {w : World} {base n c : Nat} {a : Option Addr} {xs : List Value} {ls : List α} (hn : ls.length = n) (h : w.ownsRow base e E.size (.slice a n c) n xs) (hx : ∀ j, j < n * E.size → xs[j]? = (E.cells ls)[j]?) : GOwn E e w base (.slice a n c) ls := by
  have e' : xs = E.cells ls := by
    apply List.ext_getElem?
    intro j
    by_cases hj : j < n * E.size
    · exact hx j hj
    · rw [List.getElem?_eq_none (by have := h.1; omega), List.getElem?_eq_none (by rw [E.cells_len, hn]; omega)]
  subst hn
  rw [e'] at h
  exact h
theorem bne_text (t : ByteArray) : (!(t.toList == t.toList)) = false := by simp

/-- the marks of a row -/
def mkP (k n : Nat) : List Rg := (List.range n).map fun j => (mkB (k + 2 * j), mkB ((k + 2 * j) + 1))
theorem mkP_len (k n : Nat) : (mkP k n).length = n := by simp [mkP]
theorem mkP_at (k n j : Nat) (h : j < n) : (mkP k n)[j]'(by rw [mkP_len]; exact h) = (mkB (k + 2 * j), mkB ((k + 2 * j) + 1)) := by simp [mkP]

end Go.Proofs.YtpnnncfbodfnhaaGreat

namespace Go.Proofs.YtpnnncfbodfnhaaGreat
namespace WM

def varF : Nat → Nat → List UInt8
  | 0, n => [UInt8.ofNat n]
  | f + 1, n => if 127 < n then UInt8.ofNat (n % 128 + 128) :: varF f (n / 128) else [UInt8.ofNat n]

def varL (n : Nat) : List UInt8 := varF n n

theorem varF_eq : ∀ f n, n ≤ f → ∀ g, n ≤ g → varF f n = varF g n := by
  intro f
  induction f with
  | zero =>
    intro n hn g hg
    obtain rfl : n = 0 := by omega
    cases g <;> simp [varF]
  | succ f ih =>
    intro n hn g hg
    cases g with
    | zero =>
      obtain rfl : n = 0 := by omega
      simp [varF]
    | succ g =>
      simp only [varF]
      by_cases h : 127 < n
      · rw [if_pos h, if_pos h, ih (n / 128) (by omega) g (by omega)]
      · rw [if_neg h, if_neg h]

theorem varL_big (n : Nat) (h : 127 < n) : varL n = UInt8.ofNat (n % 128 + 128) :: varL (n / 128) := by
  unfold varL
  cases n with
  | zero => omega
  | succ m =>
    rw [varF, if_pos h, varF_eq m ((m + 1) / 128) (by omega) ((m + 1) / 128) (Nat.le_refl _)]

theorem varL_small (n : Nat) (h : n ≤ 127) : varL n = [UInt8.ofNat n] := by
  unfold varL
  cases n with
  | zero => rfl
  | succ m => rw [varF, if_neg (by omega)]

theorem varF_len : ∀ f n, (varF f n).length ≤ f + 1 := by
  intro f
  induction f with
  | zero => intro n; simp [varF]
  | succ f ih =>
    intro n
    simp only [varF]
    split
    · simp; exact ih _
    · simp

theorem varL_pos (n : Nat) : 1 ≤ (varL n).length := by
  by_cases h : 127 < n
  · rw [varL_big n h]; simp
  · rw [varL_small n (by omega)]; simp

/-- at most five bytes below 2^35 -/
theorem varL_len5 (n : Nat) (h : n < 34359738368) : (varL n).length ≤ 5 := by
  have step : ∀ k m, m < k * 128 → (∀ j, j < k → (varL j).length ≤ 4) → (varL m).length ≤ 5 := by
    intro k m hm hj
    by_cases h : 127 < m
    · rw [varL_big m h]; simp; exact hj _ (by omega)
    · rw [varL_small m (by omega)]; simp
  have s1 : ∀ m, m < 128 → (varL m).length ≤ 1 := fun m hm => by rw [varL_small m (by omega)]; simp
  have s2 : ∀ m, m < 16384 → (varL m).length ≤ 2 := fun m hm => by
    by_cases h : 127 < m
    · rw [varL_big m h]; have := s1 (m / 128) (by omega); simp; omega
    · have := s1 m (by omega); omega
  have s3 : ∀ m, m < 2097152 → (varL m).length ≤ 3 := fun m hm => by
    by_cases h : 127 < m
    · rw [varL_big m h]; have := s2 (m / 128) (by omega); simp; omega
    · have := s1 m (by omega); omega
  have s4 : ∀ m, m < 268435456 → (varL m).length ≤ 4 := fun m hm => by
    by_cases h : 127 < m
    · rw [varL_big m h]; have := s3 (m / 128) (by omega); simp; omega
    · have := s1 m (by omega); omega
  exact step 268435456 n h s4

def val : List UInt8 → Nat
  | [] => 0
  | b :: t => b.toNat % 128 + 128 * val t

theorem val_snoc (l : List UInt8) (b : UInt8) : val (l ++ [b]) = val l + b.toNat % 128 * 128 ^ l.length := by
  induction l with
  | nil => simp [val]
  | cons c t ih =>
    simp only [List.cons_append, val, ih, List.length_cons, Nat.pow_succ]
    rw [Nat.mul_add, Nat.mul_comm (128 ^ t.length) 128, ← Nat.mul_assoc, Nat.mul_comm 128 (b.toNat % 128), ← Nat.mul_assoc]
    omega

theorem val_lt (l : List UInt8) : val l < 128 ^ l.length := by
  induction l with
  | nil => simp [val]
  | cons c t ih => simp only [val, List.length_cons, Nat.pow_succ]; omega

theorem ofNat_high (c : UInt8) (h : 128 ≤ c.toNat) : UInt8.ofNat (c.toNat % 128 + 128) = c := by
  apply UInt8.toNat_inj.1
  have := c.toNat_lt
  simp only [UInt8.toNat_ofNat']
  omega

theorem var_val : ∀ (pre : List UInt8) (b : UInt8), (∀ c ∈ pre, 128 ≤ c.toNat) → b.toNat < 128 →
    (varL (val (pre ++ [b])) = pre ++ [b] ↔ ¬ (b.toNat = 0 ∧ 0 < pre.length)) := by
  intro pre
  induction pre with
  | nil =>
    intro b _ hb
    have e : val ([] ++ [b]) = b.toNat := by simp [val]; omega
    rw [e, varL_small _ (by omega)]
    simp
  | cons c p ih =>
    intro b hc hb
    have hcc := hc c (by simp)
    have ih' := ih b (fun d hd => hc d (by simp [hd])) hb
    have hclt := c.toNat_lt
    have e : val ((c :: p) ++ [b]) = c.toNat % 128 + 128 * val (p ++ [b]) := by simp [val]
    rw [e]
    by_cases hm : val (p ++ [b]) = 0
    · rw [hm, varL_small _ (by omega)]
      have hb0 : b.toNat = 0 := by
        rw [val_snoc] at hm
        have hp : 0 < 128 ^ p.length := Nat.pow_pos (by omega)
        have : b.toNat % 128 * 128 ^ p.length = 0 := by omega
        rcases Nat.mul_eq_zero.1 this with h | h
        · omega
        · omega
      constructor
      · intro h
        have := congrArg List.length h
        simp at this
      · intro h; exact absurd ⟨hb0, by simp⟩ h
    · rw [varL_big _ (by omega)]
      have e1 : (c.toNat % 128 + 128 * val (p ++ [b])) % 128 = c.toNat % 128 := by omega
      have e2 : (c.toNat % 128 + 128 * val (p ++ [b])) / 128 = val (p ++ [b]) := by omega
      rw [e1, e2, ofNat_high c hcc]
      constructor
      · intro h
        have h' : varL (val (p ++ [b])) = p ++ [b] := by
          have := List.cons.inj h
          exact this.2
        have n1 := ih'.1 h'
        intro ⟨hb0, _⟩
        by_cases hp : p = []
        · subst hp
          simp [val, hb0] at hm
        · exact n1 ⟨hb0, by cases p with | nil => exact absurd rfl hp | cons _ _ => simp⟩
      · intro h
        have : varL (val (p ++ [b])) = p ++ [b] := by
          apply ih'.2
          intro ⟨h1, h2⟩
          exact h ⟨h1, by simp⟩
        rw [this]; rfl

/-- what ReadVar comes to: k bytes read so far (each at least 128), their value n -/
def rvGo : Nat → Nat → Nat → List UInt8 → Option (Nat × Nat)
  | 0, _, _, _ => none
  | _ + 1, _, _, [] => none
  | f + 1, n, k, b :: t =>
    if b.toNat < 128 then
      (if 1000000000 < n + b.toNat % 128 * 128 ^ k ∨ (b.toNat = 0 ∧ 0 < k) then none else some (n + b.toNat % 128 * 128 ^ k, k + 1))
    else rvGo f (n + b.toNat % 128 * 128 ^ k) (k + 1) t

def rv (l : List UInt8) : Option (Nat × Nat) := rvGo 5 0 0 l

theorem rvGo_bd : ∀ f n k l r, rvGo f n k l = some r → r.1 ≤ 1000000000 ∧ k < r.2 ∧ r.2 ≤ k + l.length := by
  intro f
  induction f with
  | zero => intro n k l r h; simp [rvGo] at h
  | succ f ih =>
    intro n k l r h
    cases l with
    | nil => simp [rvGo] at h
    | cons b t =>
      simp only [rvGo] at h
      split at h
      · split at h
        · cases h
        · cases h; simp only [List.length_cons]; omega
      · have := ih _ _ _ _ h
        simp only [List.length_cons]
        omega


def fig (x : Nat) : UInt8 := if x < 10 then UInt8.ofNat (48 + x) else UInt8.ofNat (87 + x)

def hexL (l : List UInt8) : List UInt8 := l.flatMap fun b => [fig (b.toNat / 16), fig (b.toNat % 16)]

theorem hexL_snoc (l : List UInt8) (b : UInt8) : hexL (l ++ [b]) = hexL l ++ [fig (b.toNat / 16), fig (b.toNat % 16)] := by
  simp [hexL]

theorem hexL_len (l : List UInt8) : (hexL l).length = 2 * l.length := by
  induction l with
  | nil => rfl
  | cons b t ih => simp only [hexL, List.flatMap_cons, List.length_append] at *; rw [ih]; simp; omega

/-- the worth of a figure; 99 for what is none -/
def fv (b : UInt8) : Nat :=
  if 48 ≤ b.toNat ∧ b.toNat ≤ 57 then b.toNat - 48 else if 97 ≤ b.toNat ∧ b.toNat ≤ 102 then b.toNat - 87 else 99

theorem fig_toNat (v : Nat) (h : v < 16) : (fig v).toNat = if v < 10 then 48 + v else 87 + v := by
  unfold fig
  split <;> simp only [UInt8.toNat_ofNat'] <;> omega

theorem fig_fv (v : Nat) (h : v < 16) (b : UInt8) : fig v = b ↔ fv b = v := by
  have hf := fig_toNat v h
  have hb := b.toNat_lt
  constructor
  · intro e; subst e; unfold fv; rw [hf]; split <;> (split <;> (try split) <;> omega)
  · intro e
    apply UInt8.toNat_inj.1
    rw [hf]
    unfold fv at e
    split at e
    · split <;> omega
    · split at e
      · split <;> omega
      · omega

/-- all bytes are among the first base figures -/
def figsB (base : Nat) (l : List UInt8) : Bool := l.all fun b => decide (fv b < base)

def fvs (l : List UInt8) : List UInt8 := l.map fun b => UInt8.ofNat (fv b)

theorem figsB_snoc (base : Nat) (l : List UInt8) (b : UInt8) : figsB base (l ++ [b]) = (figsB base l && decide (fv b < base)) := by
  simp [figsB]
theorem figsB_take {base : Nat} {l : List UInt8} (h : figsB base l = true) (k : Nat) : figsB base (l.take k) = true := by
  simp only [figsB, List.all_eq_true] at *
  exact fun b hb => h b (List.mem_of_mem_take hb)
theorem fvs_snoc (l : List UInt8) (b : UInt8) : fvs (l ++ [b]) = fvs l ++ [UInt8.ofNat (fv b)] := by simp [fvs]
theorem fvs_len (l : List UInt8) : (fvs l).length = l.length := by simp [fvs]

def unhexL : List UInt8 → List UInt8
  | a :: b :: t => UInt8.ofNat (fv a * 16 + fv b) :: unhexL t
  | _ => []

theorem unhexL_len : ∀ (n : Nat) (l : List UInt8), l.length = 2 * n → (unhexL l).length = n := by
  intro n
  induction n with
  | zero => intro l h; obtain rfl := List.length_eq_zero_iff.1 (by omega : l.length = 0); rfl
  | succ n ih =>
    intro l h
    match l, h with
    | a :: b :: t, h => simp only [unhexL, List.length_cons]; rw [ih t (by simp at h; omega)]

theorem unhexL_snoc : ∀ (n : Nat) (l : List UInt8) (a b : UInt8), l.length = 2 * n → unhexL (l ++ [a, b]) = unhexL l ++ [UInt8.ofNat (fv a * 16 + fv b)] := by
  intro n
  induction n with
  | zero => intro l a b h; obtain rfl := List.length_eq_zero_iff.1 (by omega : l.length = 0); rfl
  | succ n ih =>
    intro l a b h
    match l, h with
    | c :: d :: t, h => simp only [List.cons_append, unhexL]; rw [ih t a b (by simp at h; omega)]

/-- the number that decimal figures say -/
def decV (l : List UInt8) : Nat := l.foldl (fun n b => n * 10 + fv b) 0

theorem decV_snoc (l : List UInt8) (b : UInt8) : decV (l ++ [b]) = decV l * 10 + fv b := by simp [decV]

theorem decV_lt (l : List UInt8) (h : figsB 10 l = true) : decV l < 10 ^ l.length := by
  suffices H : ∀ (r p : List UInt8), r.reverse = p → figsB 10 p = true → decV p < 10 ^ p.length from H l.reverse l (by simp) h
  intro r
  induction r with
  | nil => intro p hp _; subst hp; simp [decV]
  | cons b t ih =>
    intro p hp hf
    subst hp
    simp only [List.reverse_cons] at hf ⊢
    rw [figsB_snoc] at hf
    have h2 : figsB 10 t.reverse = true := by revert hf; cases figsB 10 t.reverse <;> simp
    have h3 : fv b < 10 := by revert hf; rw [h2]; simp
    have := ih t.reverse rfl h2
    rw [decV_snoc, List.length_append, Nat.pow_add]
    simp only [List.length_cons, List.length_nil]
    omega
theorem fig_of_fv (b : UInt8) (h : fv b < 10) : UInt8.ofNat (48 + fv b) = b := by
  have := (fig_fv (fv b) (by omega) b).2 rfl
  unfold fig at this
  rwa [if_pos h] at this

theorem decV_pos : ∀ (r : List UInt8) (c : UInt8) (p : List UInt8), r.reverse = c :: p → figsB 10 (c :: p) = true → fv c ≠ 0 → 0 < decV (c :: p) := by
  intro r
  induction r with
  | nil => intro c p h; simp at h
  | cons b t ih =>
    intro c p h hf hc
    simp only [List.reverse_cons] at h
    rw [← h, decV_snoc]
    by_cases ht : t = []
    · subst ht
      simp at h
      obtain ⟨rfl, rfl⟩ := h
      omega
    · obtain ⟨d, q, hq⟩ : ∃ d q, t.reverse = d :: q := by
        cases e : t.reverse with
        | nil => simp at e; exact absurd e ht
        | cons d q => exact ⟨d, q, rfl⟩
      rw [hq] at h
      simp only [List.cons_append, List.cons.injEq] at h
      obtain ⟨rfl, rfl⟩ := h
      have hf' : figsB 10 (d :: q) = true := by
        simp only [figsB, List.all_eq_true] at *
        intro x hx; exact hf x (by simp at hx ⊢; rcases hx with h | h <;> simp [h])
      have := ih d q hq hf' hc
      rw [hq]
      omega

theorem dd_iff : ∀ (r : List UInt8) (c : UInt8) (p : List UInt8), r.reverse = c :: p → figsB 10 (c :: p) = true →
    (Go.Lib.decDigits (decV (c :: p)) = c :: p ↔ ¬ (fv c = 0 ∧ 0 < p.length)) := by
  intro r
  induction r with
  | nil => intro c p h; simp at h
  | cons b t ih =>
    intro c p h hf
    simp only [List.reverse_cons] at h
    by_cases ht : t = []
    · subst ht
      simp at h
      obtain ⟨rfl, rfl⟩ := h
      have hb : fv b < 10 := by simpa [figsB] using hf
      have e : decV [b] = fv b := by simp [decV]
      rw [e, Go.Lib.decDigits_one hb, fig_of_fv b hb]
      simp
    · obtain ⟨d, q, hq⟩ : ∃ d q, t.reverse = d :: q := by
        cases e : t.reverse with
        | nil => simp at e; exact absurd e ht
        | cons d q => exact ⟨d, q, rfl⟩
      rw [hq] at h
      simp only [List.cons_append, List.cons.injEq] at h
      obtain ⟨rfl, rfl⟩ := h
      have hfb : figsB 10 ((d :: q) ++ [b]) = true := hf
      rw [figsB_snoc] at hfb
      have hf' : figsB 10 (d :: q) = true := by revert hfb; cases figsB 10 (d :: q) <;> simp
      have hb : fv b < 10 := by revert hfb; rw [hf']; simp
      have ih' := ih d q hq hf'
      have e : decV (d :: (q ++ [b])) = decV (d :: q) * 10 + fv b := decV_snoc (d :: q) b
      rw [e]
      by_cases hz : decV (d :: q) = 0
      · rw [hz, Nat.zero_mul, Nat.zero_add, Go.Lib.decDigits_one hb]
        constructor
        · intro hh
          have := congrArg List.length hh
          simp at this
        · intro hh
          exfalso
          apply hh
          refine ⟨?_, by simp⟩
          by_cases hc : fv d = 0
          · exact hc
          · have := decV_pos t d q hq hf' hc; omega
      · have hbig : ¬ (decV (d :: q) * 10 + fv b < 10) := by omega
        have e2 : Go.Lib.decDigits (decV (d :: q) * 10 + fv b) = Go.Lib.decDigits (decV (d :: q)) ++ [b] := by
          rw [Go.Lib.decDigits, dif_neg hbig]
          have h1 : (decV (d :: q) * 10 + fv b) / 10 = decV (d :: q) := by omega
          have h2 : (decV (d :: q) * 10 + fv b) % 10 = fv b := by omega
          rw [h1, h2, fig_of_fv b hb]
        rw [e2]
        constructor
        · intro hh
          have hh' : Go.Lib.decDigits (decV (d :: q)) = d :: q := List.append_cancel_right (by rw [hh]; rfl)
          have n1 := ih'.1 hh'
          intro ⟨h1, h2⟩
          apply n1
          refine ⟨h1, ?_⟩
          cases q with
          | nil => simp [decV, h1] at hz
          | cons _ _ => simp
        · intro hh
          have : Go.Lib.decDigits (decV (d :: q)) = d :: q := ih'.2 (fun ⟨h1, _⟩ => hh ⟨h1, by simp⟩)
          rw [this]; rfl

end WM
end Go.Proofs.YtpnnncfbodfnhaaGreat

namespace Go.Proofs.YtpnnncfbodfnhaaGreat
open Go.RowKit
open KM
attribute [local go_sem ↓] Go.wp_at_zero Go.wp_at_succ

set_option maxRecDepth 100000 in
set_option maxHeartbeats 1000000 in
theorem iin (f t k : ByteArray) (w : World) : Calls Tryz.prog 248 #[.agg #[.string f, .string t], .string k] w fun e w' => e = .returned (.bool (inB (f, t) k)) ∧ Below w.heap.size w w' := by
  cases h : le f k
  · have h' : (Op.bytesLess f.toList k.toList || f.toList == k.toList) = false := h
    go_enter Tryz.func248, Tryz.ntmps248
    go_wp2
    go_ret
    exact ⟨ret_bool (by unfold inB; rw [h]; rfl), (belowRefl w).alloc (Nat.le_refl _) _⟩
  · have h' : (Op.bytesLess f.toList k.toList || f.toList == k.toList) = true := h
    go_enter Tryz.func248, Tryz.ntmps248
    go_wp2
    go_ret
    exact ⟨ret_bool (by unfold inB; rw [h]; rfl), (belowRefl w).alloc (Nat.le_refl _) _⟩

set_option maxRecDepth 100000 in
set_option maxHeartbeats 1000000 in
theorem sin (f t k : ByteArray) (w : World) : Calls Tryz.prog 222 #[.agg #[.string f, .string t], .string k] w fun e w' => e = .returned (.bool (inB (f, t) k)) ∧ Below w.heap.size w w' := by
  cases h : le f k
  · have h' : (!Op.bytesLess k.toList f.toList) = false := (not_lt k f).trans h
    go_enter Tryz.func222, Tryz.ntmps222
    go_wp2
    go_ret
    exact ⟨ret_bool (by unfold inB; rw [h]; rfl), (belowRefl w).alloc (Nat.le_refl _) _⟩
  · have h' : (!Op.bytesLess k.toList f.toList) = true := (not_lt k f).trans h
    go_enter Tryz.func222, Tryz.ntmps222
    go_wp2
    go_ret
    exact ⟨ret_bool (by unfold inB; rw [h]; rfl), (belowRefl w).alloc (Nat.le_refl _) _⟩

end Go.Proofs.YtpnnncfbodfnhaaGreat

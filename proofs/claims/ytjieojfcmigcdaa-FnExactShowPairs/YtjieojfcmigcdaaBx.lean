/- Blocks that bear known cells, and chains of nodes. -/
import Derived.Test.YtjieojfcmigcdaaR1
namespace Go.Proofs.Ytjieojfcmigcdaa
open Go.RowKit
open KM
theorem grown_trans {a b c : World} {row : Option Nat} (h : a.grownBy b row) (k : b.grownBy c row) : a.grownBy c row :=
  ⟨k.os.trans h.os, k.tape.trans h.tape, k.output.trans h.output, Nat.le_trans h.size k.size, fun j hj hne => (k.block j (Nat.lt_of_lt_of_le hj h.size) hne).trans (h.block j hj hne)⟩
theorem grown_refl (w : World) (row : Option Nat) : w.grownBy w row := ⟨rfl, rfl, rfl, Nat.le_refl _, fun _ _ _ => rfl⟩
theorem grown_set (w : World) (g k : Nat) (v : Value) : w.grownBy (w.setCell ⟨g, k, none⟩ v) (some g) :=
  ⟨rfl, rfl, rfl, by simp [World.setCell], fun j _ hne => Below.heap_setCell _ _ _ _ (fun e => hne (by rw [e]))⟩
theorem grown_below {w w' : World} (row : Option Nat) (hb : Below w.heap.size w w') : w.grownBy w' row := ⟨hb.os, hb.tape, hb.output, hb.size, fun j hj _ => hb.block j hj⟩
theorem addr_ne (g : Nat) {i k : Nat} (h : i ≠ k) : (⟨g, i, none⟩ : Addr) ≠ ⟨g, k, none⟩ := fun e => h (by cases e; rfl)
/-- block b bears the cells cs, which may be written -/
structure Bx (w : World) (b : Nat) (cs : List Value) : Prop where
  lt : b < w.heap.size
  at' : ∀ j, j < cs.length → w.cell? ⟨b, j, none⟩ = cs[j]?
  fz : ∀ j, w.frozen? ⟨b, j, none⟩ = false
section
variable {w w' : World} {b : Nat} {cs : List Value}
theorem Bx.below (h : Bx w b cs) (hb : Below w.heap.size w w') : Bx w' b cs :=
  ⟨Nat.lt_of_lt_of_le h.lt hb.size, fun j hj => (hb.cell (p := ⟨b, j, none⟩) h.lt).trans (h.at' j hj), fun j => (hb.frozen (p := ⟨b, j, none⟩) h.lt).trans (h.fz j)⟩
theorem Bx.new (w : World) (cs : List Value) (T : Nat) : Bx (w.alloc (.cells cs.toArray T)) w.heap.size cs :=
  ⟨by simp, fun j hj => (World.cell?_alloc_mark w _ T (0, 0) j).trans (by simp), fun j => by
    rw [show (w.alloc (.cells cs.toArray T)).frozen? ⟨w.heap.size, j, none⟩ = _ from World.frozen?_alloc_mark w _ T 0 0 j]
    simp⟩
theorem Bx.alloc (h : Bx w b cs) (o : Obj) : Bx (w.alloc o) b cs := h.below ((belowRefl w).alloc (Nat.le_refl _) o)
theorem Bx.drew (h : Bx w b cs) : Bx w.drew b cs := h.below ((belowRefl w).drew)
theorem Bx.grown {g : Nat} (h : Bx w b cs) (hg : w.grownBy w' (some g)) (hne : b ≠ g) : Bx w' b cs := by
  have hb := hg.block b h.lt (fun e => hne (Option.some.inj e))
  refine ⟨Nat.lt_of_lt_of_le h.lt hg.size, fun j hj => (World.cell?_of_block (w := w) (a := ⟨b, j, none⟩) hb).trans (h.at' j hj), fun j => ?_⟩
  have := h.fz j
  unfold World.frozen? at this ⊢
  simp only at this ⊢
  rw [hb]; exact this
theorem Bx.set (h : Bx w b cs) (j : Nat) (u : Value) : Bx (w.setCell ⟨b, j, none⟩ u) b (cs.set j u) := by
  refine ⟨by simpa [World.setCell] using h.lt, fun i hi => ?_, fun i => by rw [World.frozen?_setCell]; exact h.fz i⟩
  have hi' : i < cs.length := by simpa using hi
  have hci := h.at' i hi'
  rw [List.getElem?_eq_getElem hi'] at hci
  by_cases e : i = j
  · subst e
    rw [World.cell?_setCell_same _ _ _ hci, List.getElem?_set_self hi']
  · rw [World.cell?_setCell_other _ _ _ _ (addr_ne b (fun e' => e e'.symm)), List.getElem?_set_ne (fun e' => e e'.symm)]
    exact h.at' i hi'
theorem Bx.setO (h : Bx w b cs) {p : Addr} (hne : p.block ≠ b) (u : Value) : Bx (w.setCell p u) b cs :=
  h.grown (g := p.block) ⟨rfl, rfl, rfl, by simp [World.setCell], fun j _ hne => Below.heap_setCell _ _ _ _ (fun e => hne (by rw [e]))⟩ (fun e => hne e.symm)
theorem Bx.c0 {x : Value} {r : List Value} (h : Bx w b (x :: r)) : w.cell? ⟨b, 0, none⟩ = some x := h.at' 0 (by simp)
theorem Bx.c1 {x y : Value} {r : List Value} (h : Bx w b (x :: y :: r)) : w.cell? ⟨b, 1, none⟩ = some y := h.at' 1 (by simp)
theorem Bx.c2 {x y z : Value} {r : List Value} (h : Bx w b (x :: y :: z :: r)) : w.cell? ⟨b, 2, none⟩ = some z := h.at' 2 (by simp)
theorem Bx.c3 {x y z u : Value} {r : List Value} (h : Bx w b (x :: y :: z :: u :: r)) : w.cell? ⟨b, 3, none⟩ = some u := h.at' 3 (by simp)
theorem Bx.c4 {x y z u v : Value} {r : List Value} (h : Bx w b (x :: y :: z :: u :: v :: r)) : w.cell? ⟨b, 4, none⟩ = some v := h.at' 4 (by simp)
end

/-- all but the blocks bs is as it was -/
structure Kn (bs : List Nat) (w w' : World) : Prop where
  os : w'.os = w.os
  tape : w'.tape = w.tape
  output : w'.output = w.output
  size : w.heap.size ≤ w'.heap.size
  block : ∀ j, j < w.heap.size → j ∉ bs → w'.heap[j]? = w.heap[j]?
theorem Kn.refl (bs : List Nat) (w : World) : Kn bs w w := ⟨rfl, rfl, rfl, Nat.le_refl _, fun _ _ _ => rfl⟩
theorem Kn.trans {bs : List Nat} {a b c : World} (h : Kn bs a b) (k : Kn bs b c) : Kn bs a c :=
  ⟨k.os.trans h.os, k.tape.trans h.tape, k.output.trans h.output, Nat.le_trans h.size k.size, fun j hj hn => (k.block j (Nat.lt_of_lt_of_le hj h.size) hn).trans (h.block j hj hn)⟩
theorem Kn.mono {bs cs : List Nat} {a b : World} (h : Kn bs a b) (hs : ∀ x ∈ bs, x ∈ cs) : Kn cs a b := ⟨h.os, h.tape, h.output, h.size, fun j hj hn => h.block j hj (fun m => hn (hs j m))⟩
theorem Kn.ofBelow {bs : List Nat} {w w' : World} (h : Below w.heap.size w w') : Kn bs w w' := ⟨h.os, h.tape, h.output, h.size, fun j hj _ => h.block j hj⟩
theorem Kn.below {bs : List Nat} {base : Nat} {w w' : World} (h : Kn bs w w') (hb : base ≤ w.heap.size) (hs : ∀ x ∈ bs, base ≤ x) : Below base w w' :=
  ⟨h.os, h.tape, h.output, h.size, fun j hj => h.block j (by omega) (fun m => by have := hs j m; omega)⟩
theorem Kn.set (w : World) (g k : Nat) (v : Value) : Kn [g] w (w.setCell ⟨g, k, none⟩ v) :=
  ⟨rfl, rfl, rfl, by simp [World.setCell], fun j _ hne => Below.heap_setCell _ _ _ _ (fun e => hne (by simp [e]))⟩
theorem Bx.kn {bs : List Nat} {w w' : World} {b : Nat} {cs : List Value} (h : Bx w b cs) (hg : Kn bs w w') (hne : b ∉ bs) : Bx w' b cs := by
  have hb := hg.block b h.lt hne
  refine ⟨Nat.lt_of_lt_of_le h.lt hg.size, fun j hj => (World.cell?_of_block (w := w) (a := ⟨b, j, none⟩) hb).trans (h.at' j hj), fun j => ?_⟩
  have := h.fz j
  unfold World.frozen? at this ⊢
  simp only at this ⊢
  rw [hb]; exact this

/-- a node: its block, its version -/
abbrev Nd := Nat × Vr
/-- where a list of nodes begins, q behind it -/
def ptq (ns : List Nd) (q : Option Addr) : Option Addr := match ns with
  | [] => q
  | n :: _ => some ⟨n.1, 0, none⟩
theorem ptq_nil (q : Option Addr) : ptq [] q = q := rfl
theorem ptq_cons (n : Nd) (ns : List Nd) (q : Option Addr) : ptq (n :: ns) q = some ⟨n.1, 0, none⟩ := rfl
/-- the cells of a node -/
def ndc (v : Vr) (q : Option Addr) : List Value := [.string v.1, .string v.2.1, .bool v.2.2.1, .int .i64 v.2.2.2, .pointer q]
/-- nodes, each leading to the next, the last one to q -/
def Seg (w : World) : List Nd → Option Addr → Prop
  | [], _ => True
  | n :: ns, q => Bx w n.1 (ndc n.2 (ptq ns q)) ∧ Seg w ns q
theorem seg_app {w : World} : ∀ (A B : List Nd) (q : Option Addr), Seg w (A ++ B) q ↔ Seg w A (ptq B q) ∧ Seg w B q
  | [], B, q => by simp [Seg]
  | n :: A, B, q => by
    have ih := seg_app (w := w) A B q
    have e : ptq (A ++ B) q = ptq A (ptq B q) := by cases A <;> rfl
    simp only [List.cons_append, Seg, e, ih, and_assoc]
theorem seg_below {w w' : World} (hb : Below w.heap.size w w') : ∀ (A : List Nd) (q : Option Addr), Seg w A q → Seg w' A q
  | [], _, _ => trivial
  | _ :: A, q, h => ⟨h.1.below hb, seg_below hb A q h.2⟩
theorem seg_kn {bs : List Nat} {w w' : World} (hk : Kn bs w w') : ∀ (A : List Nd) (q : Option Addr), (∀ n ∈ A, n.1 ∉ bs) → Seg w A q → Seg w' A q
  | [], _, _, _ => trivial
  | n :: A, q, hn, h => ⟨h.1.kn hk (hn n (by simp)), seg_kn hk A q (fun m hm => hn m (by simp [hm])) h.2⟩
theorem seg_lt {w : World} : ∀ (A : List Nd) (q : Option Addr), Seg w A q → ∀ n ∈ A, n.1 < w.heap.size
  | n :: A, q, h, m, hm => by
    rcases List.mem_cons.1 hm with rfl | hm
    · exact h.1.lt
    · exact seg_lt A q h.2 m hm
/-- a chain: its block c leads to the root, the first of all -/
structure Chn (w : World) (base c : Nat) (all : List Nd) : Prop where
  bx : Bx w c [.pointer (ptq all none)]
  seg : Seg w all none
  nd : (c :: all.map (·.1)).Nodup
  lo : ∀ b ∈ c :: all.map (·.1), base ≤ b
theorem Chn.below {w w' : World} {base c : Nat} {all : List Nd} (h : Chn w base c all) (hb : Below w.heap.size w w') : Chn w' base c all := ⟨h.bx.below hb, seg_below hb _ _ h.seg, h.nd, h.lo⟩
theorem Chn.kn {bs : List Nat} {w w' : World} {base c : Nat} {all : List Nd} (h : Chn w base c all) (hk : Kn bs w w') (hn : ∀ b ∈ c :: all.map (·.1), b ∉ bs) : Chn w' base c all :=
  ⟨h.bx.kn hk (hn c (by simp)), seg_kn hk _ _ (fun n hm => hn n.1 (List.mem_cons_of_mem _ (List.mem_map.2 ⟨n, hm, rfl⟩))) h.seg, h.nd, h.lo⟩
theorem Chn.lt {w : World} {base c : Nat} {all : List Nd} (h : Chn w base c all) : ∀ b ∈ c :: all.map (·.1), b < w.heap.size := fun b hb => by
  rcases List.mem_cons.1 hb with rfl | hb
  · exact h.bx.lt
  · obtain ⟨n, hn, rfl⟩ := List.mem_map.1 hb
    exact seg_lt _ _ h.seg n hn

/-- the node at a place of the chain -/
theorem Chn.at' {w : World} {base c : Nat} {A B : List Nd} {m : Nd} (h : Chn w base c (A ++ m :: B)) : Bx w m.1 (ndc m.2 (ptq B none)) := ((seg_app A (m :: B) none).1 h.seg).2.1
theorem Chn.mem {w : World} {base c : Nat} {all : List Nd} {m : Nd} (h : Chn w base c all) (hm : m ∈ all) : ∃ q, Bx w m.1 (ndc m.2 q) := by
  obtain ⟨A, B, rfl⟩ := List.append_of_mem hm
  exact ⟨_, h.at'⟩

/-- the node m leads elsewhere -/
theorem Chn.next {w : World} {base c : Nat} {A B C : List Nd} {m : Nd} (h : Chn w base c (A ++ m :: B)) (hC : Seg w C none) (hnd : (c :: (A ++ m :: C).map (·.1)).Nodup) (hlo : ∀ n ∈ C, base ≤ n.1) : Chn (w.setCell ⟨m.1, 4, none⟩ (.pointer (ptq C none))) base c (A ++ m :: C) := by
  have hk := Kn.set w m.1 4 (.pointer (ptq C none))
  obtain ⟨hA, hm, _⟩ := (seg_app A (m :: B) none).1 h.seg
  have nd := hnd
  simp only [List.map_append, List.map_cons, List.nodup_cons, List.nodup_append, List.mem_append, List.mem_cons, not_or] at nd
  obtain ⟨⟨n1, n2, n3⟩, n4, ⟨n5, n6⟩, n7⟩ := nd
  refine ⟨?_, (seg_app A (m :: C) none).2 ⟨seg_kn hk _ _ (fun n hn => ?_) hA, ?_, seg_kn hk _ _ (fun n hn => ?_) hC⟩, hnd, fun b hb => ?_⟩
  · have e : ptq (A ++ m :: C) none = ptq (A ++ m :: B) none := by cases A <;> rfl
    rw [e]
    exact h.bx.kn hk (by simp [n2])
  · simp only [List.mem_singleton]
    exact n7 n.1 (List.mem_map.2 ⟨n, hn, rfl⟩) m.1 (Or.inl rfl)
  · have := hm.set 4 (.pointer (ptq C none))
    exact this
  · simp only [List.mem_singleton]
    exact fun e => n5 (by rw [← e]; exact List.mem_map.2 ⟨n, hn, rfl⟩)
  · simp only [List.mem_cons, List.map_append, List.map_cons, List.mem_append] at hb
    rcases hb with rfl | hb | rfl | hb
    · exact h.lo _ (by simp)
    · exact h.lo _ (by simp only [List.mem_cons, List.map_append, List.mem_append]; exact Or.inr (Or.inl hb))
    · exact h.lo _ (by simp)
    · obtain ⟨n, hn, rfl⟩ := List.mem_map.1 hb
      exact hlo n hn
end Go.Proofs.Ytjieojfcmigcdaa

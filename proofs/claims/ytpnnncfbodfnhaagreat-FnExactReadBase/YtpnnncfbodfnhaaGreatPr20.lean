/- What stays: both sides of BaseOk are the same. No Go. -/
import Derived.Test.YtpnnncfbodfnhaaGreatPr19
import Derived.Test.YtpnnncfbodfnhaaGreatPr14
import Derived.Test.YtpnnncfbodfnhaaGreatPr05
import Derived.Lib.Builder
import Derived.Lib.AppendStr
import Derived.WalkLawsBesides
import Derived.Lib.BufferWrite
import Derived.Test.YtpnnncfbodfnhaaGreatProg
import Derived.WalkKit
import Derived.Test.YtpnnncfbodfnhaaGreatPr01
import Derived.WalkSpells
import Derived.Deep.QuietTactic
import Derived.BigQuiet
import Derived.Deep.RegionHeld3
import Derived.Deep.DrawnRows
import Derived.Deep.AppendLies
import Derived.Test.YtpnnncfbodfnhaaGreatPr04
import Derived.Test.YtpnnncfbodfnhaaGreatPr07
import Derived.Deep.RegionHeld
import Derived.Shelf.Small.Strs
import Derived.Shelf.Small.Wraps
import Derived.Test.YtpnnncfbodfnhaaGreatPr02
import Derived.Test.YtpnnncfbodfnhaaGreatPr08
import Derived.Test.YtpnnncfbodfnhaaGreatPr09
import Derived.Test.YtpnnncfbodfnhaaGreatPr03
import Derived.Test.YtpnnncfbodfnhaaGreatPr10
namespace Go.Proofs.YtpnnncfbodfnhaaGreat
open Go.RowKit
open KM
attribute [local go_sem ↓] Go.wp_at_zero Go.wp_at_succ

theorem asc_pair (l : List Int) : ascIB l = true ↔ l.Pairwise (· < ·) := by
 unfold ascIB
 rw [decide_eq_true_eq, List.pairwise_iff_getElem]
 constructor
 ·intro h i j hi hj hij
  obtain ⟨d, rfl⟩ : ∃ d, j = i + 1 + d := ⟨j - (i + 1), by omega⟩
  induction d with
  | zero =>
   have := h (i + 1) hj (by omega)
   simpa using this
  | succ d ih =>
   have h1 := ih (by omega) (by omega)
   have h2 := h (i + 1 + (d + 1)) hj (by omega)
   have h3 : l[i + 1 + (d + 1) - 1]'(by omega) = l[i + 1 + d]'(by omega) := by congr 1
   rw [h3] at h2
   omega
 ·intro h j hj h0
  exact h (j - 1) j (by omega) hj (by omega)
theorem sort_pair (zs : List Int) : ascIB (sortI zs) = true ↔ zs.Pairwise (· ≠ ·) := by
 rw [asc_pair]
 have hp : (sortI zs).Perm zs := List.mergeSort_perm _ _
 have hs : (sortI zs).Pairwise (fun a b => decide (a ≤ b) = true) := List.pairwise_mergeSort (fun a b c h1 h2 => by simp at *; omega) (fun a b => by simp; omega) _
 constructor
 ·intro h
  have h1 : (sortI zs).Pairwise (· ≠ ·) := h.imp (fun h => by omega)
  exact hp.pairwise h1 (fun h => h.symm)
 ·intro h
  have h1 : (sortI zs).Pairwise (· ≠ ·) := hp.symm.pairwise h (fun h => h.symm)
  refine (hs.and h1).imp ?_
  rintro a b ⟨h2, h3⟩
  have : a ≤ b := by simpa using h2
  omega
theorem ids_pair (zs : List Int) : (∀ j (h : j < zs.length), ∀ k (hk : k < j), zs[k]'(by omega) ≠ zs[j]) ↔ zs.Pairwise (· ≠ ·) := by
 rw [List.pairwise_iff_getElem]
 constructor
 ·intro h i j hi hj hij
  exact h j hj i hij
 ·intro h j hj k hk
  exact h k j (by omega) hj hk
theorem any_no {α : Type} (p : α → Bool) (xs : List α) : (!(xs.any p)) = true ↔ ∀ j (h : j < xs.length), p xs[j] = false := by
 rw [Bool.not_eq_true', List.any_eq_false]
 constructor
 ·intro h j hj
  have := h xs[j] (List.getElem_mem hj)
  simpa using this
 ·intro h x hx
  obtain ⟨j, hj, rfl⟩ := List.getElem_of_mem hx
  rw [h j hj]
  simp
theorem all_at {α : Type} (p : α → Bool) (xs : List α) : xs.all p = true ↔ ∀ j (h : j < xs.length), p xs[j] = true := by
 rw [List.all_eq_true]
 constructor
 ·intro h j hj
  exact h _ (List.getElem_mem hj)
 ·intro h x hx
  obtain ⟨j, hj, rfl⟩ := List.getElem_of_mem hx
  exact h j hj
theorem asc_map (f : Ta → Int) (xs : List Ta) : ascIB (xs.map f) = true ↔ ∀ j (h : j < xs.length), ∀ (_ : 0 < j), f (xs[j - 1]'(by omega)) < f xs[j] := by
 unfold ascIB
 rw [decide_eq_true_eq]
 constructor
 ·intro h j hj h0
  have := h j (by simpa using hj) h0
  simpa using this
 ·intro h j hj h0
  have := h j (by simpa using hj) h0
  simpa using this
theorem ascS_map (xs : List Ta) : ascSB (xs.map fun x : Ta => x.t.nm) = true ↔ ∀ j (h : j < xs.length), ∀ (_ : 0 < j), Op.bytesLess (xs[j - 1]'(by omega)).t.nm.toList xs[j].t.nm.toList = true := by
 unfold ascSB
 rw [decide_eq_true_eq]
 constructor
 ·intro h j hj h0
  have := h j (by simpa using hj) h0
  simpa using this
 ·intro h j hj h0
  have := h j (by simpa using hj) h0
  simpa using this
theorem past_iff (b : Bb) : pastB b = true ↔ b.ps.length ≤ 12 ∧ pstG b.ps b.cs := by
 unfold pastB
 rw [Bool.and_eq_true, Bool.and_eq_true, Bool.and_eq_true, decide_eq_true_eq, asc_map, any_no, all_at]
 constructor
 ·rintro ⟨h1, h2, h3, h4⟩
  refine ⟨h1, fun j h => ⟨?_, h2 j h⟩⟩
  have h5 := h4 j h
  have h6 := h3 j h
  simp only [inStB, Bool.and_eq_true, decide_eq_true_eq] at h5
  simp only [decide_eq_false_iff_not] at h6
  exact ⟨h5.1, h5.2, by omega⟩
 ·rintro ⟨h1, h2⟩
  refine ⟨h1, fun j h => (h2 j h).2, fun j h => ?_, fun j h => ?_⟩
  ·simp only [decide_eq_false_iff_not]
   have := (h2 j h).1.2.2
   omega
  ·simp only [inStB, Bool.and_eq_true, decide_eq_true_eq]
   exact ⟨(h2 j h).1.1, (h2 j h).1.2.1⟩
theorem ready_iff (b : Bb) : readyOkB b = true ↔ b.qs.length ≤ 3 ∧ rdyG b.qs b.cs := by
 unfold readyOkB
 rw [Bool.and_eq_true, Bool.and_eq_true, Bool.and_eq_true, decide_eq_true_eq, ascS_map, any_no, all_at]
 constructor
 ·rintro ⟨h1, h2, h3, h4⟩
  refine ⟨h1, fun j h => ⟨?_, h2 j h⟩⟩
  have h5 := h4 j h
  have h6 := h3 j h
  simp only [inStB, Bool.and_eq_true, decide_eq_true_eq] at h5
  simp only [decide_eq_false_iff_not] at h6
  exact ⟨h5.1, h5.2, by omega⟩
 ·rintro ⟨h1, h2⟩
  refine ⟨h1, fun j h => (h2 j h).2, fun j h => ?_, fun j h => ?_⟩
  ·simp only [decide_eq_false_iff_not]
   have := (h2 j h).1.2.2
   omega
  ·simp only [inStB, Bool.and_eq_true, decide_eq_true_eq]
   exact ⟨(h2 j h).1.1, (h2 j h).1.2.1⟩
theorem ids_iff (b : Bb) : idsB b = true ↔ idsG (b.ps.map (fun x : Ta => x.t.id) ++ b.qs.map (fun x : Ta => x.t.id)) b.nx := by
 unfold idsB
 rw [Bool.and_eq_true, sort_pair, any_no, List.map_append]
 have e : ∀ j (h : j < (b.ps ++ b.qs).length), (b.ps.map (fun x : Ta => x.t.id) ++ b.qs.map (fun x : Ta => x.t.id))[j]'(by simpa using h) = (b.ps ++ b.qs)[j].t.id := fun j h => by
  have : b.ps.map (fun x : Ta => x.t.id) ++ b.qs.map (fun x : Ta => x.t.id) = (b.ps ++ b.qs).map (fun x : Ta => x.t.id) := by rw [List.map_append]
  simp only [this, List.getElem_map]
 constructor
 ·rintro ⟨h1, h2⟩ j h
  refine ⟨(ids_pair _).2 h1 j h, ?_⟩
  have hj : j < (b.ps ++ b.qs).length := by simpa using h
  have h3 := h2 j hj
  simp only [decide_eq_false_iff_not] at h3
  rw [e j hj]
  omega
 ·intro h
  refine ⟨(ids_pair _).1 fun j hj => (h j hj).1, fun j hj => ?_⟩
  have h3 := (h j (by simpa using hj)).2
  rw [e j hj] at h3
  simp only [decide_eq_false_iff_not]
  omega
theorem ib_sb (b : Bb) : ibB b = sbB b := by
 rw [Bool.eq_iff_iff]
 unfold ibB sbB
 rw [decide_eq_true_eq]
 simp only [Bool.and_eq_true, decide_eq_true_eq]
 rw [any_no, past_iff, ready_iff, ids_iff]
 constructor
 ·rintro ⟨⟨⟨⟨⟨⟨⟨⟨h1, h2⟩, h3⟩, h4⟩, h5⟩, h6⟩, h7⟩, h8⟩, h9⟩
  refine ⟨h5, h7.1, h8.1, ⟨h1, h2⟩, ⟨h3, h4⟩, fun j h => ?_, h7.2, h8.2, h9⟩
  have := h6 j h
  simp only [decide_eq_false_iff_not] at this
  omega
 ·rintro ⟨h5, h71, h81, ⟨h1, h2⟩, ⟨h3, h4⟩, h6, h72, h82, h9⟩
  refine ⟨⟨⟨⟨⟨⟨⟨⟨h1, h2⟩, h3⟩, h4⟩, h5⟩, fun j h => ?_⟩, ⟨h71, h72⟩⟩, ⟨h81, h82⟩⟩, h9⟩
  have := h6 j h
  simp only [decide_eq_false_iff_not]
  omega
theorem own_none {α : Type} {E : Enc α} {e : TypeId} {w : World} {lo n c : Nat} {a : Option Addr} {xs : List α} (h : GOwn E e w lo (.slice a n c) xs) (ha : a = none) : n = 0 ∧ c = 0 := by
 rcases h.2 with ⟨hv, _⟩ | ⟨g, cap, cur, hv, _⟩
 ·cases hv
  exact ⟨rfl, rfl⟩
 ·subst ha
  cases hv
theorem BLie.nones {w : World} {lo hi : Nat} {c : Bb} (h : BLie w lo hi c) : (c.pa = none → c.ps.length = 0 ∧ c.pc = 0) ∧ (c.qa = none → c.qs.length = 0 ∧ c.qc = 0) := by
 obtain ⟨m1, m2, _, _, _, h1, h2, h3⟩ := h.ex
 exact ⟨fun e => own_none h2.own.own e, fun e => own_none h3.own.own e⟩

end Go.Proofs.YtpnnncfbodfnhaaGreat

namespace Go.Proofs.YtpnnncfbodfnhaaGreat
open Go.RowKit
open KM
attribute [local go_sem ↓] Go.wp_at_zero Go.wp_at_succ

def Keep5 (b : Nat) (w w' : World) : Prop := ∀ e0 cs T z, e0 ≠ b → T ≠ 5 → w.heap[e0]? = some (.cells cs T z) → w'.heap[e0]? = some (.cells cs T z)
theorem Keep5.trans {b : Nat} {w1 w2 w3 : World} (h : Keep5 b w1 w2) (k : Keep5 b w2 w3) : Keep5 b w1 w3 := fun e0 cs T z h1 h2 h3 => k e0 cs T z h1 h2 (h e0 cs T z h1 h2 h3)
theorem Keep5.below {b : Nat} {w w' : World} (h : Below w.heap.size w w') : Keep5 b w w' := fun e0 cs T z _ _ h3 => by
 rw [h.block e0 (Array.getElem?_eq_some_iff.1 h3).1]; exact h3
theorem Keep5.set (b k : Nat) (w : World) (v : Value) : Keep5 b w (w.setCell ⟨b, k, none⟩ v) := fun e0 cs T z h1 _ h3 => by
 rw [Below.heap_setCell _ _ _ _ (fun e => h1 e)]; exact h3
end Go.Proofs.YtpnnncfbodfnhaaGreat

namespace Go.Proofs.YtpnnncfbodfnhaaGreat
open Go.RowKit

end Go.Proofs.YtpnnncfbodfnhaaGreat

namespace Go.Proofs.YtpnnncfbodfnhaaGreat
open Go.RowKit
open KM
open VM
attribute [local go_sem ↓] Go.wp_at_zero Go.wp_at_succ

structure Wtr (w : World) (B b : Nat) (l : List UInt8) : Prop where
 is : Lib.IsBuilder 87 5 B b (bv l) w
 le : B ≤ w.heap.size
theorem bat_below {B b : Nat} {p : Value} {bs : List Value} {w w' : World} (h : Lib.BuilderAt 87 5 B b p bs w) (hb : Below w.heap.size w w') : Lib.BuilderAt 87 5 B b p bs w' := by
 have hlt := h.lt
 obtain ⟨h1, v, h2, h3, h4⟩ := h
 exact ⟨h1, v, by rw [hb.block b hlt]; exact h2, ownsBelow h3 hb, h4⟩
theorem Wtr.below {w w' : World} {B b : Nat} {l : List UInt8} (h : Wtr w B b l) (hb : Below w.heap.size w w') : Wtr w' B b l :=
 ⟨h.is.elim (fun x => Or.inl (bat_below x hb)) (fun x => Or.inr (bat_below x hb)), Nat.le_trans h.le hb.size⟩
theorem Wtr.new (w : World) : Wtr (w.alloc (.cells #[.pointer none, .slice none 0 0] 87)) w.heap.size w.heap.size [] := by
 refine ⟨Or.inl ⟨Nat.le_refl _, .slice none 0 0, ?_, World.ownsRow_nil _ _ _ _, by simp [Value.ownBlock]⟩, by simp⟩
 unfold World.alloc; simp
end Go.Proofs.YtpnnncfbodfnhaaGreat

namespace Go.Proofs.YtpnnncfbodfnhaaGreat
open Go.RowKit
open KM
open VM
attribute [local go_sem ↓] Go.wp_at_zero Go.wp_at_succ

theorem good_of' {xs : List Wt} (h : writesB xs = true) : xs.length ≤ 8 ∧ ∀ x ∈ xs, writeB x = true := by
 unfold writesB at h
 simp only [Bool.and_eq_true, decide_eq_true_eq] at h
 exact ⟨h.1, fun x hx => by obtain ⟨j, hj, rfl⟩ := List.getElem_of_mem hx; exact (h.2 j hj).1⟩
theorem grow_low {α : Type} {E : Enc α} {w w' : World} {a : Option Addr} {xs : List α} {B : Nat} (h : GRow E w a xs) (hb : Below B w w') (hl : ∀ b' off, a = some ⟨b', off, none⟩ → 0 < xs.length → b' < B) : GRow E w' a xs := fun h0 => by
 obtain ⟨b, off, rfl, hlt, hc⟩ := h h0
 have hB := hl b off rfl h0
 exact ⟨b, off, rfl, Nat.lt_of_lt_of_le hlt hb.size, fun j hj i hi => (hb.cell (p := ⟨b, off + j * E.size + i, none⟩) hB).trans (hc j hj i hi)⟩
structure Small (t : Tx) : Prop where
 i0 : 0 ≤ t.id
 i1 : t.id ≤ 9999
 s0 : 0 ≤ t.st
 s1 : t.st ≤ 3
 p0 : 0 ≤ t.snap
 p1 : t.snap ≤ 9999
 c0 : 0 ≤ t.cs
 c1 : t.cs ≤ 9999
 rl : t.rs.length ≤ 8
 rs : ∀ r ∈ t.rs, r.1.size ≤ 3 ∧ r.2.size ≤ 3
 wl : t.ws.length ≤ 8
 ws : ∀ x ∈ t.ws, x.1.size ≤ 3 ∧ x.2.1.size ≤ 12
 nm : t.nm.size ≤ 3
theorem key_small {s : ByteArray} (h : keyB s = true) : s.size ≤ 3 := by
 unfold keyB at h
 simp only [Bool.and_eq_true, decide_eq_true_eq] at h
 exact h.1.2
theorem empty_size {s : ByteArray} (h : s.toList.isEmpty = true) : s.size = 0 := by
 have e : s.toList = [] := List.isEmpty_iff.1 h
 rw [toList_data] at e
 have : s.data.toList.length = 0 := by rw [e]; rfl
 rw [Array.length_toList] at this
 exact this
theorem right_small {t : Tx} (h : txnB t = true) : Small t := by
 unfold txnB at h
 simp only [Bool.and_eq_true, decide_eq_true_eq] at h
 obtain ⟨⟨⟨⟨⟨⟨h1, h2⟩, h3⟩, h4⟩, h5⟩, h6⟩, h7⟩ := h
 unfold readsB at h6
 simp only [Bool.and_eq_true, decide_eq_true_eq, List.all_eq_true] at h6
 have hst : (0 ≤ t.st ∧ t.st ≤ 3) ∧ (0 ≤ t.cs ∧ t.cs ≤ 9999) ∧ t.nm.size ≤ 3 := by
  unfold stateB at h5
  simp only [Bool.or_eq_true, Bool.and_eq_true, decide_eq_true_eq] at h5
  rcases h5 with (h | h) | h
  ·have := empty_size h.2
   omega
  ·have := key_small h.2
   omega
  ·have := empty_size h.2
   omega
 have hw := good_of' h7
 refine ⟨by omega, h2, hst.1.1, hst.1.2, h3, h4, hst.2.1.1, hst.2.1.2, h6.1, fun r hr => ?_, hw.1, fun x hx => ?_, hst.2.2⟩
 ·have := h6.2 r hr
  unfold rangeB at this
  simp only [Bool.and_eq_true] at this
  exact ⟨key_small this.1.1, key_small this.1.2⟩
 ·have := hw.2 x hx
  unfold writeB at this
  simp only [Bool.and_eq_true, decide_eq_true_eq] at this
  exact ⟨key_small this.1.1, this.1.2⟩

end Go.Proofs.YtpnnncfbodfnhaaGreat

namespace Go.Proofs.YtpnnncfbodfnhaaGreat
open Go.RowKit
open KM
open VM
attribute [local go_sem ↓] Go.wp_at_zero Go.wp_at_succ

end Go.Proofs.YtpnnncfbodfnhaaGreat

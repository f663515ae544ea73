/- Blocks that bear known cells, and chains of nodes. -/
import Derived.Test.YtpnnncfbodfnhaaGreatPr03
import Derived.Test.YtpnnncfbodfnhaaGreatPr01
import Derived.Sort.OwnSorted
import Derived.Lib.RowBridge
import Derived.Lib.ItoaNum
import Derived.Lib.ItoaLen
import Derived.Test.YtpnnncfbodfnhaaGreatProg
import Derived.WalkKit
import Derived.WalkSpells
import Derived.WalkLawsBesides
import Derived.Deep.QuietTactic
import Derived.BigQuiet
import Derived.Deep.RegionHeld3
import Derived.Deep.DrawnRows
import Derived.Deep.AppendLies
import Derived.Shelf.Sort.Plain
import Derived.Ground.Names2Prog
import Derived.Shelf.Slices.CompactI
import Derived.Shelf.Slices.CompactS
import Derived.Shelf.Slices.Cells
import Derived.Shelf.Slices.In.SortNone
import Derived.Deep.RegionHeld
import Derived.Shelf.Small.Strs
import Derived.Shelf.Small.Wraps
import Derived.Test.YtpnnncfbodfnhaaGreatPr02
import Derived.Lib.SlicesCompact
import Derived.Sort.Walk0
namespace Go.Proofs.YtpnnncfbodfnhaaGreat
open Go.RowKit
open KM
theorem grown_trans {a b c : World} {row : Option Nat} (h : a.grownBy b row) (k : b.grownBy c row) : a.grownBy c row :=
 ⟨k.os.trans h.os, k.tape.trans h.tape, k.output.trans h.output, Nat.le_trans h.size k.size, fun j hj hne => (k.block j (Nat.lt_of_lt_of_le hj h.size) hne).trans (h.block j hj hne)⟩
theorem grown_refl (w : World) (row : Option Nat) : w.grownBy w row := ⟨rfl, rfl, rfl, Nat.le_refl _, fun _ _ _ => rfl⟩
theorem grown_set (w : World) (g k : Nat) (v : Value) : w.grownBy (w.setCell ⟨g, k, none⟩ v) (some g) :=
 ⟨rfl, rfl, rfl, by simp [World.setCell], fun j _ hne => Below.heap_setCell _ _ _ _ (fun e => hne (by rw [e]))⟩
theorem grown_below {w w' : World} (row : Option Nat) (hb : Below w.heap.size w w') : w.grownBy w' row := ⟨hb.os, hb.tape, hb.output, hb.size, fun j hj _ => hb.block j hj⟩
theorem addr_ne (g : Nat) {i k : Nat} (h : i ≠ k) : (⟨g, i, none⟩ : Addr) ≠ ⟨g, k, none⟩ := fun e => h (by cases e; rfl)
structure Bx (w : World) (b : Nat) (cs : List Value) : Prop where
 lt : b < w.heap.size
 at' : ∀ j, j < cs.length → w.cell? ⟨b, j, none⟩ = cs[j]?
 fz : ∀ j, w.frozen? ⟨b, j, none⟩ = false
section
variable {w w' : World} {b : Nat} {cs : List Value}
theorem Bx.below (h : Bx w b cs) (hb : Below w.heap.size w w') : Bx w' b cs :=
 ⟨Nat.lt_of_lt_of_le h.lt hb.size, fun j hj => (hb.cell (p := ⟨b, j, none⟩) h.lt).trans (h.at' j hj), fun j => (hb.frozen (p := ⟨b, j, none⟩) h.lt).trans (h.fz j)⟩
theorem Bx.new (w : World) (cs : List Value) (T : Nat) : Bx (w.alloc (.cells cs.toArray T)) w.heap.size cs :=
 ⟨by simp, fun j hj => (World.cell?_alloc_mark w _ T (0, 0) j).trans (by simp), fun j => by
  rw [show (w.alloc (.cells cs.toArray T)).frozen? ⟨w.heap.size, j, none⟩ = _ from World.frozen?_alloc_mark w _ T 0 0 j]
  simp⟩
theorem Bx.alloc (h : Bx w b cs) (o : Obj) : Bx (w.alloc o) b cs := h.below ((belowRefl w).alloc (Nat.le_refl _) o)
theorem Bx.drew (h : Bx w b cs) : Bx w.drew b cs := h.below ((belowRefl w).drew)
theorem Bx.grown {g : Nat} (h : Bx w b cs) (hg : w.grownBy w' (some g)) (hne : b ≠ g) : Bx w' b cs := by
 have hb := hg.block b h.lt (fun e => hne (Option.some.inj e))
 refine ⟨Nat.lt_of_lt_of_le h.lt hg.size, fun j hj => (World.cell?_of_block (w := w) (a := ⟨b, j, none⟩) hb).trans (h.at' j hj), fun j => ?_⟩
 have := h.fz j
 unfold World.frozen? at this ⊢
 simp only at this ⊢
 rw [hb]; exact this
theorem Bx.set (h : Bx w b cs) (j : Nat) (u : Value) : Bx (w.setCell ⟨b, j, none⟩ u) b (cs.set j u) := by
 refine ⟨by simpa [World.setCell] using h.lt, fun i hi => ?_, fun i => by rw [World.frozen?_setCell]; exact h.fz i⟩
 have hi' : i < cs.length := by simpa using hi
 have hci := h.at' i hi'
 rw [List.getElem?_eq_getElem hi'] at hci
 by_cases e : i = j
 ·subst e
  rw [World.cell?_setCell_same _ _ _ hci, List.getElem?_set_self hi']
 ·rw [World.cell?_setCell_other _ _ _ _ (addr_ne b (fun e' => e e'.symm)), List.getElem?_set_ne (fun e' => e e'.symm)]
  exact h.at' i hi'
theorem Bx.setO (h : Bx w b cs) {p : Addr} (hne : p.block ≠ b) (u : Value) : Bx (w.setCell p u) b cs :=
 h.grown (g := p.block) ⟨rfl, rfl, rfl, by simp [World.setCell], fun j _ hne => Below.heap_setCell _ _ _ _ (fun e => hne (by rw [e]))⟩ (fun e => hne e.symm)
theorem Bx.c0 {x : Value} {r : List Value} (h : Bx w b (x :: r)) : w.cell? ⟨b, 0, none⟩ = some x := h.at' 0 (by simp)
theorem Bx.c1 {x y : Value} {r : List Value} (h : Bx w b (x :: y :: r)) : w.cell? ⟨b, 1, none⟩ = some y := h.at' 1 (by simp)
theorem Bx.c2 {x y z : Value} {r : List Value} (h : Bx w b (x :: y :: z :: r)) : w.cell? ⟨b, 2, none⟩ = some z := h.at' 2 (by simp)
theorem Bx.c3 {x y z u : Value} {r : List Value} (h : Bx w b (x :: y :: z :: u :: r)) : w.cell? ⟨b, 3, none⟩ = some u := h.at' 3 (by simp)
theorem Bx.c4 {x y z u v : Value} {r : List Value} (h : Bx w b (x :: y :: z :: u :: v :: r)) : w.cell? ⟨b, 4, none⟩ = some v := h.at' 4 (by simp)
end

structure Kn (bs : List Nat) (w w' : World) : Prop where
 os : w'.os = w.os
 tape : w'.tape = w.tape
 output : w'.output = w.output
 size : w.heap.size ≤ w'.heap.size
 block : ∀ j, j < w.heap.size → j ∉ bs → w'.heap[j]? = w.heap[j]?
theorem Kn.refl (bs : List Nat) (w : World) : Kn bs w w := ⟨rfl, rfl, rfl, Nat.le_refl _, fun _ _ _ => rfl⟩
theorem Kn.trans {bs : List Nat} {a b c : World} (h : Kn bs a b) (k : Kn bs b c) : Kn bs a c :=
 ⟨k.os.trans h.os, k.tape.trans h.tape, k.output.trans h.output, Nat.le_trans h.size k.size, fun j hj hn => (k.block j (Nat.lt_of_lt_of_le hj h.size) hn).trans (h.block j hj hn)⟩
theorem Kn.mono {bs cs : List Nat} {a b : World} (h : Kn bs a b) (hs : ∀ x ∈ bs, x ∈ cs) : Kn cs a b := ⟨h.os, h.tape, h.output, h.size, fun j hj hn => h.block j hj (fun m => hn (hs j m))⟩
theorem Kn.ofBelow {bs : List Nat} {w w' : World} (h : Below w.heap.size w w') : Kn bs w w' := ⟨h.os, h.tape, h.output, h.size, fun j hj _ => h.block j hj⟩
theorem Kn.below {bs : List Nat} {base : Nat} {w w' : World} (h : Kn bs w w') (hb : base ≤ w.heap.size) (hs : ∀ x ∈ bs, base ≤ x) : Below base w w' :=
 ⟨h.os, h.tape, h.output, h.size, fun j hj => h.block j (by omega) (fun m => by have := hs j m; omega)⟩
theorem Kn.set (w : World) (g k : Nat) (v : Value) : Kn [g] w (w.setCell ⟨g, k, none⟩ v) :=
 ⟨rfl, rfl, rfl, by simp [World.setCell], fun j _ hne => Below.heap_setCell _ _ _ _ (fun e => hne (by simp [e]))⟩
theorem Bx.kn {bs : List Nat} {w w' : World} {b : Nat} {cs : List Value} (h : Bx w b cs) (hg : Kn bs w w') (hne : b ∉ bs) : Bx w' b cs := by
 have hb := hg.block b h.lt hne
 refine ⟨Nat.lt_of_lt_of_le h.lt hg.size, fun j hj => (World.cell?_of_block (w := w) (a := ⟨b, j, none⟩) hb).trans (h.at' j hj), fun j => ?_⟩
 have := h.fz j
 unfold World.frozen? at this ⊢
 simp only at this ⊢
 rw [hb]; exact this

abbrev Nd := Nat × Vr
def ptq (ns : List Nd) (q : Option Addr) : Option Addr := match ns with
 | [] => q
 | n :: _ => some ⟨n.1, 0, none⟩
def ndc (v : Vr) (q : Option Addr) : List Value := [.string v.1, .string v.2.1, .bool v.2.2.1, .int .i64 v.2.2.2, .pointer q]
def Seg (w : World) : List Nd → Option Addr → Prop
 | [], _ => True
 | n :: ns, q => Bx w n.1 (ndc n.2 (ptq ns q)) ∧ Seg w ns q
theorem seg_app {w : World} : ∀ (A B : List Nd) (q : Option Addr), Seg w (A ++ B) q ↔ Seg w A (ptq B q) ∧ Seg w B q
 | [], B, q => by simp [Seg]
 | n :: A, B, q => by
  have ih := seg_app (w := w) A B q
  have e : ptq (A ++ B) q = ptq A (ptq B q) := by cases A <;> rfl
  simp only [List.cons_append, Seg, e, ih, and_assoc]
theorem seg_below {w w' : World} (hb : Below w.heap.size w w') : ∀ (A : List Nd) (q : Option Addr), Seg w A q → Seg w' A q
 | [], _, _ => trivial
 | _ :: A, q, h => ⟨h.1.below hb, seg_below hb A q h.2⟩
theorem seg_kn {bs : List Nat} {w w' : World} (hk : Kn bs w w') : ∀ (A : List Nd) (q : Option Addr), (∀ n ∈ A, n.1 ∉ bs) → Seg w A q → Seg w' A q
 | [], _, _, _ => trivial
 | n :: A, q, hn, h => ⟨h.1.kn hk (hn n (by simp)), seg_kn hk A q (fun m hm => hn m (by simp [hm])) h.2⟩
theorem seg_lt {w : World} : ∀ (A : List Nd) (q : Option Addr), Seg w A q → ∀ n ∈ A, n.1 < w.heap.size
 | n :: A, q, h, m, hm => by
  rcases List.mem_cons.1 hm with rfl | hm
  ·exact h.1.lt
  ·exact seg_lt A q h.2 m hm
structure Chn (w : World) (base c : Nat) (all : List Nd) : Prop where
 bx : Bx w c [.pointer (ptq all none)]
 seg : Seg w all none
 nd : (c :: all.map (·.1)).Nodup
 lo : ∀ b ∈ c :: all.map (·.1), base ≤ b
theorem Chn.below {w w' : World} {base c : Nat} {all : List Nd} (h : Chn w base c all) (hb : Below w.heap.size w w') : Chn w' base c all := ⟨h.bx.below hb, seg_below hb _ _ h.seg, h.nd, h.lo⟩
theorem Chn.kn {bs : List Nat} {w w' : World} {base c : Nat} {all : List Nd} (h : Chn w base c all) (hk : Kn bs w w') (hn : ∀ b ∈ c :: all.map (·.1), b ∉ bs) : Chn w' base c all :=
 ⟨h.bx.kn hk (hn c (by simp)), seg_kn hk _ _ (fun n hm => hn n.1 (List.mem_cons_of_mem _ (List.mem_map.2 ⟨n, hm, rfl⟩))) h.seg, h.nd, h.lo⟩
theorem Chn.lt {w : World} {base c : Nat} {all : List Nd} (h : Chn w base c all) : ∀ b ∈ c :: all.map (·.1), b < w.heap.size := fun b hb => by
 rcases List.mem_cons.1 hb with rfl | hb
 ·exact h.bx.lt
 ·obtain ⟨n, hn, rfl⟩ := List.mem_map.1 hb
  exact seg_lt _ _ h.seg n hn

theorem Chn.at' {w : World} {base c : Nat} {A B : List Nd} {m : Nd} (h : Chn w base c (A ++ m :: B)) : Bx w m.1 (ndc m.2 (ptq B none)) := ((seg_app A (m :: B) none).1 h.seg).2.1
end Go.Proofs.YtpnnncfbodfnhaaGreat

namespace Go.Proofs.YtpnnncfbodfnhaaGreat
open Go.RowKit
open KM
open Go.Sort
attribute [local go_sem ↓] Go.wp_at_zero Go.wp_at_succ

theorem hide {p : Prop} (h : p) : Hid p := h
theorem heapAllocNew (w : World) (cs : List Value) (T : Nat) : (w.alloc (.cells cs.toArray T)).heap[w.heap.size]? = some (.cells cs.toArray T (0, 0)) := by unfold World.alloc; simp
theorem Bx.belowB {w w' : World} {b B : Nat} {cs : List Value} (h : Bx w b cs) (hb : Below B w w') (hlt : b < B) : Bx w' b cs :=
 ⟨Nat.lt_of_lt_of_le h.lt hb.size, fun j hj => (hb.cell (p := ⟨b, j, none⟩) hlt).trans (h.at' j hj), fun j => (hb.frozen (p := ⟨b, j, none⟩) hlt).trans (h.fz j)⟩
theorem GOwn.drewN {α : Type} {E : Enc α} {e : TypeId} {w : World} {base : Nat} {v : Value} {l : List α} (h : GOwn E e w base v l) (n : Nat) : GOwn E e (w.drewN n) base v l := h

theorem oneV {y : Vr} : ∀ u ∈ encV.enc y, u.oneCell' = true := by
 intro u hu
 simp only [encV, List.mem_cons, List.not_mem_nil, or_false] at hu
 rcases hu with rfl | rfl | rfl | rfl <;> rfl
theorem oneI {y : Int} : ∀ u ∈ encI.enc y, u.oneCell' = true := by
 intro u hu
 simp only [encI, List.mem_cons, List.not_mem_nil, or_false] at hu
 rw [hu]; rfl
theorem grown_base {w w' : World} {g base : Nat} (h : w.grownBy w' (some g)) (hg : base ≤ g) (hlt : g < w.heap.size) : Below base w w' :=
 ⟨h.os, h.tape, h.output, h.size, fun j hj => h.block j (by omega) (fun e => by have := Option.some.inj e; omega)⟩
theorem GRow.grown {α : Type} {E : Enc α} {w w' : World} {ao : Option Addr} {xs : List α} {row : Option Nat} (h : GRow E w ao xs) (hg : w.grownBy w' row) (hne : ∀ b off, ao = some ⟨b, off, none⟩ → row ≠ some b) : GRow E w' ao xs := fun h0 => by
 obtain ⟨b, off, rfl, hlt, hc⟩ := h h0
 have hb := hg.block b hlt (fun e => hne b off rfl e.symm)
 exact ⟨b, off, rfl, Nat.lt_of_lt_of_le hlt hg.size, fun j hj i hi => (World.cell?_of_block (w := w) (a := ⟨b, off + j * E.size + i, none⟩) hb).trans (hc j hj i hi)⟩
theorem filter_take {α : Type} (p : α → Bool) (xs : List α) (k : Nat) (hk : k < xs.length) : (xs.take (k + 1)).filter p = (xs.take k).filter p ++ (if p xs[k] then [xs[k]] else []) := by
 rw [List.take_succ_eq_append_getElem hk, List.filter_append]
 congr 1
 cases h : p xs[k] <;> simp [h]
end Go.Proofs.YtpnnncfbodfnhaaGreat

namespace Go.Proofs.YtpnnncfbodfnhaaGreat
open Go.RowKit
open KM
attribute [local go_sem ↓] Go.wp_at_zero Go.wp_at_succ

theorem toNat_ofNat (x : Nat) (h : x < 256) : ((UInt8.ofNat x).toNat : Int) = (x : Int) := by
 simp only [UInt8.toNat_ofNat']; omega
def dd (m : Nat) : List UInt8 := if m = 0 then [] else Go.Lib.decDigits m
theorem dd_step (m : Nat) (h : 0 < m) : dd m = dd (m / 10) ++ [UInt8.ofNat (48 + m % 10)] := by
 unfold dd
 rw [if_neg (by omega)]
 by_cases hs : m < 10
 ·rw [if_pos (by omega), Go.Lib.decDigits_one hs, show m % 10 = m by omega]; rfl
 ·rw [if_neg (by omega), Go.Lib.decDigits, dif_neg hs]
def mkB (k : Nat) : ByteArray := ⟨#[109]⟩ ++ ⟨(dd k).toArray⟩
theorem dd_len (m : Nat) (h : m < 18446744073709551616) : (dd m).length ≤ 20 := by
 unfold dd
 split
 ·simp
 ·rw [Lib.decDigits_length]; exact Lib.nDigits_le20 m h
theorem app_data (b : UInt8) (s : ByteArray) : ((⟨#[b]⟩ : ByteArray) ++ s).data.toList = b :: s.data.toList := by simp
theorem dd_round {m N : Nat} {s : ByteArray} (hm : 0 < m) (h : dd m ++ s.data.toList = dd N) : dd (m / 10) ++ ((⟨#[UInt8.ofNat (48 + m % 10)]⟩ : ByteArray) ++ s).data.toList = dd N := by
 rw [app_data, ← h, dd_step m hm]; simp
theorem round_size {m N : Nat} {s : ByteArray} (hN : N < 18446744073709551616) (h : dd m ++ s.data.toList = dd N) : s.size ≤ 20 := by
 have h1 := dd_len N hN
 have h2 := congrArg List.length h
 simp at h2
 omega
theorem ret_str {a b : ByteArray} (h : a.data.toList = b.data.toList) : Ending.returned (.string a) = .returned (.string b) := by
 have : a = b := by
  apply ByteArray.ext
  exact Array.toList_inj.1 h
 rw [this]
theorem own_form {w : World} {base e size n c : Nat} {a : Option Addr} {xs : List Value} (h : w.ownsRow base e size (.slice a n c) n xs) (hn : 0 < n) : ∃ g, a = some ⟨g, 0, none⟩ ∧ base ≤ g ∧ g < w.heap.size := by
 obtain ⟨g, cap, hv, h1, h2⟩ := h.form hn
 cases hv
 exact ⟨g, rfl, h1, h2⟩
theorem gown_ext {α : Type} {E : Enc α} {e : TypeId} {w : World} {base n c : Nat} {a : Option Addr} {xs : List Value} {ls : List α} (hn : ls.length = n) (h : w.ownsRow base e E.size (.slice a n c) n xs) (hx : ∀ j, j < n * E.size → xs[j]? = (E.cells ls)[j]?) : GOwn E e w base (.slice a n c) ls := by
 have e' : xs = E.cells ls := by
  apply List.ext_getElem?
  intro j
  by_cases hj : j < n * E.size
  ·exact hx j hj
  ·rw [List.getElem?_eq_none (by have := h.1; omega), List.getElem?_eq_none (by rw [E.cells_len, hn]; omega)]
 subst hn
 rw [e'] at h
 exact h
theorem bne_text (t : ByteArray) : (!(t.toList == t.toList)) = false := by simp

end Go.Proofs.YtpnnncfbodfnhaaGreat

namespace Go.Proofs.YtpnnncfbodfnhaaGreat
namespace WM

def varF : Nat → Nat → List UInt8
 | 0, n => [UInt8.ofNat n]
 | f + 1, n => if 127 < n then UInt8.ofNat (n % 128 + 128) :: varF f (n / 128) else [UInt8.ofNat n]

def varL (n : Nat) : List UInt8 := varF n n

theorem varF_eq : ∀ f n, n ≤ f → ∀ g, n ≤ g → varF f n = varF g n := by
 intro f
 induction f with
 | zero =>
  intro n hn g hg
  obtain rfl : n = 0 := by omega
  cases g <;> simp [varF]
 | succ f ih =>
  intro n hn g hg
  cases g with
  | zero =>
   obtain rfl : n = 0 := by omega
   simp [varF]
  | succ g =>
   simp only [varF]
   by_cases h : 127 < n
   ·rw [if_pos h, if_pos h, ih (n / 128) (by omega) g (by omega)]
   ·rw [if_neg h, if_neg h]

theorem varL_big (n : Nat) (h : 127 < n) : varL n = UInt8.ofNat (n % 128 + 128) :: varL (n / 128) := by
 unfold varL
 cases n with
 | zero => omega
 | succ m =>
  rw [varF, if_pos h, varF_eq m ((m + 1) / 128) (by omega) ((m + 1) / 128) (Nat.le_refl _)]

theorem varL_small (n : Nat) (h : n ≤ 127) : varL n = [UInt8.ofNat n] := by
 unfold varL
 cases n with
 | zero => rfl
 | succ m => rw [varF, if_neg (by omega)]

theorem varL_len5 (n : Nat) (h : n < 34359738368) : (varL n).length ≤ 5 := by
 have step : ∀ k m, m < k * 128 → (∀ j, j < k → (varL j).length ≤ 4) → (varL m).length ≤ 5 := by
  intro k m hm hj
  by_cases h : 127 < m
  ·rw [varL_big m h]; simp; exact hj _ (by omega)
  ·rw [varL_small m (by omega)]; simp
 have s1 : ∀ m, m < 128 → (varL m).length ≤ 1 := fun m hm => by rw [varL_small m (by omega)]; simp
 have s2 : ∀ m, m < 16384 → (varL m).length ≤ 2 := fun m hm => by
  by_cases h : 127 < m
  ·rw [varL_big m h]; have := s1 (m / 128) (by omega); simp; omega
  ·have := s1 m (by omega); omega
 have s3 : ∀ m, m < 2097152 → (varL m).length ≤ 3 := fun m hm => by
  by_cases h : 127 < m
  ·rw [varL_big m h]; have := s2 (m / 128) (by omega); simp; omega
  ·have := s1 m (by omega); omega
 have s4 : ∀ m, m < 268435456 → (varL m).length ≤ 4 := fun m hm => by
  by_cases h : 127 < m
  ·rw [varL_big m h]; have := s3 (m / 128) (by omega); simp; omega
  ·have := s1 m (by omega); omega
 exact step 268435456 n h s4

def val : List UInt8 → Nat
 | [] => 0
 | b :: t => b.toNat % 128 + 128 * val t

theorem val_snoc (l : List UInt8) (b : UInt8) : val (l ++ [b]) = val l + b.toNat % 128 * 128 ^ l.length := by
 induction l with
 | nil => simp [val]
 | cons c t ih =>
  simp only [List.cons_append, val, ih, List.length_cons, Nat.pow_succ]
  rw [Nat.mul_add, Nat.mul_comm (128 ^ t.length) 128, ← Nat.mul_assoc, Nat.mul_comm 128 (b.toNat % 128), ← Nat.mul_assoc]
  omega

theorem ofNat_high (c : UInt8) (h : 128 ≤ c.toNat) : UInt8.ofNat (c.toNat % 128 + 128) = c := by
 apply UInt8.toNat_inj.1
 have := c.toNat_lt
 simp only [UInt8.toNat_ofNat']
 omega

theorem var_val : ∀ (pre : List UInt8) (b : UInt8), (∀ c ∈ pre, 128 ≤ c.toNat) → b.toNat < 128 →
  (varL (val (pre ++ [b])) = pre ++ [b] ↔ ¬ (b.toNat = 0 ∧ 0 < pre.length)) := by
 intro pre
 induction pre with
 | nil =>
  intro b _ hb
  have e : val ([] ++ [b]) = b.toNat := by simp [val]; omega
  rw [e, varL_small _ (by omega)]
  simp
 | cons c p ih =>
  intro b hc hb
  have hcc := hc c (by simp)
  have ih' := ih b (fun d hd => hc d (by simp [hd])) hb
  have hclt := c.toNat_lt
  have e : val ((c :: p) ++ [b]) = c.toNat % 128 + 128 * val (p ++ [b]) := by simp [val]
  rw [e]
  by_cases hm : val (p ++ [b]) = 0
  ·rw [hm, varL_small _ (by omega)]
   have hb0 : b.toNat = 0 := by
    rw [val_snoc] at hm
    have hp : 0 < 128 ^ p.length := Nat.pow_pos (by omega)
    have : b.toNat % 128 * 128 ^ p.length = 0 := by omega
    rcases Nat.mul_eq_zero.1 this with h | h
    ·omega
    ·omega
   constructor
   ·intro h
    have := congrArg List.length h
    simp at this
   ·intro h; exact absurd ⟨hb0, by simp⟩ h
  ·rw [varL_big _ (by omega)]
   have e1 : (c.toNat % 128 + 128 * val (p ++ [b])) % 128 = c.toNat % 128 := by omega
   have e2 : (c.toNat % 128 + 128 * val (p ++ [b])) / 128 = val (p ++ [b]) := by omega
   rw [e1, e2, ofNat_high c hcc]
   constructor
   ·intro h
    have h' : varL (val (p ++ [b])) = p ++ [b] := by
     have := List.cons.inj h
     exact this.2
    have n1 := ih'.1 h'
    intro ⟨hb0, _⟩
    by_cases hp : p = []
    ·subst hp
     simp [val, hb0] at hm
    ·exact n1 ⟨hb0, by cases p with | nil => exact absurd rfl hp | cons _ _ => simp⟩
   ·intro h
    have : varL (val (p ++ [b])) = p ++ [b] := by
     apply ih'.2
     intro ⟨h1, h2⟩
     exact h ⟨h1, by simp⟩
    rw [this]; rfl

def rvGo : Nat → Nat → Nat → List UInt8 → Option (Nat × Nat)
 | 0, _, _, _ => none
 | _ + 1, _, _, [] => none
 | f + 1, n, k, b :: t =>
  if b.toNat < 128 then
   (if 1000000000 < n + b.toNat % 128 * 128 ^ k ∨ (b.toNat = 0 ∧ 0 < k) then none else some (n + b.toNat % 128 * 128 ^ k, k + 1))
  else rvGo f (n + b.toNat % 128 * 128 ^ k) (k + 1) t

def rv (l : List UInt8) : Option (Nat × Nat) := rvGo 5 0 0 l

theorem rvGo_bd : ∀ f n k l r, rvGo f n k l = some r → r.1 ≤ 1000000000 ∧ k < r.2 ∧ r.2 ≤ k + l.length := by
 intro f
 induction f with
 | zero => intro n k l r h; simp [rvGo] at h
 | succ f ih =>
  intro n k l r h
  cases l with
  | nil => simp [rvGo] at h
  | cons b t =>
   simp only [rvGo] at h
   split at h
   ·split at h
    ·cases h
    ·cases h; simp only [List.length_cons]; omega
   ·have := ih _ _ _ _ h
    simp only [List.length_cons]
    omega

end WM
end Go.Proofs.YtpnnncfbodfnhaaGreat

namespace Go.Proofs.YtpnnncfbodfnhaaGreat
open Go.RowKit
open KM
attribute [local go_sem ↓] Go.wp_at_zero Go.wp_at_succ

end Go.Proofs.YtpnnncfbodfnhaaGreat

namespace Go.Proofs.YtpnnncfbodfnhaaGreat
namespace VM
open KM
def isOf (k : ByteArray) (s : Int) (v : Vr) : Bool := decide (v.1 = k) && decide (v.2.2.2 ≤ s)
def more (a : Option Nd) (n : Nd) : Bool := match a with
 | none => true
 | some m => decide (m.2.2.2.2 < n.2.2.2.2)
def stp (k : ByteArray) (s : Int) (a : Option Nd) (n : Nd) : Option Nd := if (isOf k s n.2 && more a n) = true then some n else a
def lst (k : ByteArray) (s : Int) (ns : List Nd) : Option Nd := ns.foldl (stp k s) none
def lab (vs : List Vr) : Nat → List Nd
 | 0 => []
 | n + 1 => lab vs n ++ (match vs[n]? with
  | some v => [(n, v)]
  | none => [])
end VM
end Go.Proofs.YtpnnncfbodfnhaaGreat

namespace Go.Proofs
open Go.Shelf
def Tryz.lays189_ren : Go.Shelf.Ren := ⟨fun | 189 => 187 | 125 => 220 | 257 => 219 | 128 => 244 | 129 => 245 | 294 => 235 | 295 => 236 | 296 => 237 | 297 => 238 | 298 => 239 | 299 => 240 | 216 => 241 | 300 => 242 | 301 => 243 | 328 => 250 | 329 => 251 | 330 => 252 | 331 => 253 | 332 => 254 | 215 => 215 | 343 => 256 | n => n, fun | 28 => 117 | 3 => 3 | 46 => 253 | 0 => 0 | 51 => 272 | 53 => 274 | 4 => 4 | 183 => 265 | 182 => 264 | 131 => 216 | 5 => 5 | 9 => 9 | 218 => 276 | 222 => 280 | 228 => 282 | 229 => 283 | n => n, fun | n => n⟩
theorem Tryz.lays189 : Go.Proofs.Lays.n189 Tryz.prog Tryz.lays189_ren := {
 mixed := by kernel_rfl
 f125 := Tryz.func220.trans (congrArg some (by kernel_rfl))
 f128 := Tryz.func244.trans (congrArg some (by kernel_rfl))
 f129 := Tryz.func245.trans (congrArg some (by kernel_rfl))
 f189 := Tryz.func187.trans (congrArg some (by kernel_rfl))
 f215 := Tryz.func215.trans (congrArg some (by kernel_rfl))
 f216 := Tryz.func241.trans (congrArg some (by kernel_rfl))
 f257 := Tryz.func219.trans (congrArg some (by kernel_rfl))
 f294 := Tryz.func235.trans (congrArg some (by kernel_rfl))
 f295 := Tryz.func236.trans (congrArg some (by kernel_rfl))
 f296 := Tryz.func237.trans (congrArg some (by kernel_rfl))
 f297 := Tryz.func238.trans (congrArg some (by kernel_rfl))
 f298 := Tryz.func239.trans (congrArg some (by kernel_rfl))
 f299 := Tryz.func240.trans (congrArg some (by kernel_rfl))
 f300 := Tryz.func242.trans (congrArg some (by kernel_rfl))
 f301 := Tryz.func243.trans (congrArg some (by kernel_rfl))
 f328 := Tryz.func250.trans (congrArg some (by kernel_rfl))
 f329 := Tryz.func251.trans (congrArg some (by kernel_rfl))
 f330 := Tryz.func252.trans (congrArg some (by kernel_rfl))
 f331 := Tryz.func253.trans (congrArg some (by kernel_rfl))
 f332 := Tryz.func254.trans (congrArg some (by kernel_rfl))
 f343 := Tryz.func256.trans (congrArg some (by kernel_rfl))
 t0 := Tryz.underlying0
 a0 := Tryz.isAgg0
 z0 := Tryz.sizeOf0
 v0 := Tryz.zeroValue0
 t3 := Tryz.underlying3
 a3 := Tryz.isAgg3
 z3 := Tryz.sizeOf3
 v3 := Tryz.zeroValue3
 t4 := Tryz.underlying4
 a4 := Tryz.isAgg4
 z4 := Tryz.sizeOf4
 v4 := Tryz.zeroValue4
 t5 := Tryz.underlying5
 a5 := Tryz.isAgg5
 z5 := Tryz.sizeOf5
 v5 := Tryz.zeroValue5
 t9 := Tryz.underlying9
 a9 := Tryz.isAgg9
 z9 := Tryz.sizeOf9
 v9 := Tryz.zeroValue9
 t28 := Tryz.underlying117
 a28 := Tryz.isAgg117
 z28 := Tryz.sizeOf117
 v28 := Tryz.zeroValue117
 t46 := Tryz.underlying253
 a46 := Tryz.isAgg253
 z46 := Tryz.sizeOf253
 v46 := Tryz.zeroValue253
 t51 := Tryz.underlying272
 a51 := Tryz.isAgg272
 z51 := Tryz.sizeOf272
 v51 := Tryz.zeroValue272
 t53 := Tryz.underlying274
 a53 := Tryz.isAgg274
 z53 := Tryz.sizeOf274
 v53 := Tryz.zeroValue274
 t131 := Tryz.underlying216
 a131 := Tryz.isAgg216
 z131 := Tryz.sizeOf216
 v131 := Tryz.zeroValue216
 t182 := Tryz.underlying264
 a182 := Tryz.isAgg264
 z182 := Tryz.sizeOf264
 v182 := Tryz.zeroValue264
 t183 := Tryz.underlying265
 a183 := Tryz.isAgg265
 z183 := Tryz.sizeOf265
 v183 := Tryz.zeroValue265
 t218 := Tryz.underlying276
 a218 := Tryz.isAgg276
 z218 := Tryz.sizeOf276
 v218 := Tryz.zeroValue276
 t222 := Tryz.underlying280
 a222 := Tryz.isAgg280
 z222 := Tryz.sizeOf280
 v222 := Tryz.zeroValue280
 t228 := Tryz.underlying282
 a228 := Tryz.isAgg282
 z228 := Tryz.sizeOf282
 v228 := Tryz.zeroValue282
 t229 := Tryz.underlying283
 a229 := Tryz.isAgg283
 z229 := Tryz.sizeOf283
 v229 := Tryz.zeroValue283 }
open Go.Sort Go.RowKit in
theorem Tryz.slices_Sort_int (blk off cap : Nat) (zs : List Int) (w : World) (hH : Holds (Value.int .i64) w blk off zs.toArray) (hblk : blk < w.heap.size) (hsz : zs.length < 4611686018427387904) :
  Calls Tryz.prog 187 #[.slice (some ⟨blk, off, none⟩) zs.length cap] w fun e w' =>
   e = .returned (.tuple #[]) ∧ ∃ n os, w' = grow (putRow (Value.int .i64) (Sort.ahead w n) blk off (zs.mergeSort fun x y => decide (x ≤ y)).toArray) os := Any.slices_Sort_int Tryz.lays189 blk off cap zs w hH hblk hsz
open Go.RowKit Go.Sort in
theorem Tryz.slices_Sort_int_none (p : Option Addr) (cap : Nat) (w : World) :
  Calls Tryz.prog 187 #[.slice p 0 cap] w fun e w' => e = .returned (.tuple #[]) ∧ w' = w := Any.slices_Sort_int_none Tryz.lays189 p cap w
end Go.Proofs

namespace Go.Proofs.YtpnnncfbodfnhaaGreat
namespace VM
open KM
section
variable {α : Type} [Inhabited α] [DecidableEq α]
end

end VM
end Go.Proofs.YtpnnncfbodfnhaaGreat

namespace Go.Proofs.YtpnnncfbodfnhaaGreat
open Go.RowKit
open KM
open VM Go.Sort
attribute [local go_sem ↓] Go.wp_at_zero Go.wp_at_succ

theorem wpAppV {ops : Array Oper} {rest : List Oper} {o : Oper} {a : Act} {Q : Exit → Act → World → Prop} (hgd : o.guard = none) (s x : Operand) (ho : o.op = .call { callee := .builtin .append, args := #[s, x], argTypes := #[38, 38] })
  {W : World} {base : Nat} {v : Value} {xs : List Vr} (y : Vr) (hs : a.eval s = v) (hown : GOwn encV 76 W base v xs)
  (hx : a.eval x = .slice (some ⟨W.heap.size, 0, none⟩) 1 1) (hlen : xs.length ≤ 100000000) (hB : base ≤ W.heap.size)
  (h : ∀ v' w', GOwn encV 76 w' base v' (xs ++ [y]) → Below base W w' → wpList Tryz.prog ops Q rest (a.put o.dst v') w') :
  wpList Tryz.prog ops Q (o :: rest) a (W.alloc (.cells #[.string y.1, .string y.2.1, .bool y.2.2.1, .int .i64 y.2.2.2] 76)) := by
 refine wpAppG 38 76 4 48 _ Tryz.underlying38 Tryz.info76 rfl (by omega) (by omega) hgd s x ho (encV.enc y) hs (World.ownsRow.alloc hown _) hx (heapAllocNew W _ _) rfl oneV (by omega) (by simp; omega) ?_
 intro g' cap w' h1 h2
 refine h _ w' ?_ (((Below.refl _ _).alloc hB _).trans h2)
 have e : encV.cells (xs ++ [y]) = encV.cells xs ++ encV.enc y := by rw [encV.cells_app]; simp [Enc.cells]
 unfold GOwn
 rw [e, List.length_append]
 exact h1

end Go.Proofs.YtpnnncfbodfnhaaGreat

namespace Go.Proofs.YtpnnncfbodfnhaaGreat
open Go.RowKit
open KM
open VM Go.Sort
attribute [local go_sem ↓] Go.wp_at_zero Go.wp_at_succ

end Go.Proofs.YtpnnncfbodfnhaaGreat

namespace Go.Proofs.YtpnnncfbodfnhaaGreat
open Go.RowKit
open KM
attribute [local go_sem ↓] Go.wp_at_zero Go.wp_at_succ

def CodeOk (w : World) (a : Option Addr) (len g : Nat) : Prop :=
 0 < len → ∃ b off, a = some ⟨b, off, none⟩ ∧ b < w.heap.size ∧ b ≠ g ∧ ∀ i, i < len → ∃ z : Int, 0 ≤ z ∧ z ≤ 255 ∧ w.cell? ⟨b, off + i, none⟩ = some (.int .u8 z)

structure Cur (w : World) (g : Nat) (a : Option Addr) (len cap : Nat) (i h : Int) : Prop where
 c0 : w.cell? ⟨g, 0, none⟩ = some (.slice a len cap)
 c1 : w.cell? ⟨g, 1, none⟩ = some (.int .i64 i)
 c2 : w.cell? ⟨g, 2, none⟩ = some (.int .i64 h)
 free : ∀ j, w.frozen? ⟨g, j, none⟩ = false
 i0 : 0 ≤ i
 i1 : i ≤ (len : Int)

theorem CodeOk.grown {w w' : World} {a : Option Addr} {len g : Nat} (h : CodeOk w a len g) (hg : w.grownBy w' (some g)) : CodeOk w' a len g := fun hl => by
 obtain ⟨b, off, ha, hb, hne, hz⟩ := h hl
 refine ⟨b, off, ha, Nat.lt_of_lt_of_le hb hg.size, hne, fun i hi => ?_⟩
 obtain ⟨z, h0, h1, hc⟩ := hz i hi
 exact ⟨z, h0, h1, (World.cell?_of_block (w := w) (a := ⟨b, off + i, none⟩) (hg.block b hb (fun e => hne (Option.some.inj e)))).trans hc⟩

theorem Cur.drewN {w : World} {g len cap : Nat} {a : Option Addr} {i h : Int} (c : Cur w g a len cap i h) (n : Nat) : Cur (w.drewN n) g a len cap i h := ⟨c.c0, c.c1, c.c2, c.free, c.i0, c.i1⟩

def CurOk (w : World) (g : Nat) (a : Option Addr) (len cap : Nat) : Prop := ∃ i h, Cur w g a len cap i h ∧ CodeOk w a len g

theorem CurOk.below {w w' : World} {g len cap : Nat} {a : Option Addr} (h : CurOk w g a len cap) (hb : Below w.heap.size w w') (hg : g < w.heap.size) : CurOk w' g a len cap := by
 obtain ⟨i, x, c, k⟩ := h
 refine ⟨i, x, ⟨(hb.cell (p := ⟨g, 0, none⟩) hg).trans c.c0, (hb.cell (p := ⟨g, 1, none⟩) hg).trans c.c1, (hb.cell (p := ⟨g, 2, none⟩) hg).trans c.c2, fun j => (hb.frozen (p := ⟨g, j, none⟩) hg).trans (c.free j), c.i0, c.i1⟩, fun hl => ?_⟩
 obtain ⟨b, off, ha, hb1, hne, hz⟩ := k hl
 refine ⟨b, off, ha, Nat.lt_of_lt_of_le hb1 hb.size, hne, fun j hj => ?_⟩
 obtain ⟨z, h0, h1, hc⟩ := hz j hj
 exact ⟨z, h0, h1, (hb.cell (p := ⟨b, off + j, none⟩) hb1).trans hc⟩

def CodeRow (w : World) (a : Option Addr) (len : Nat) : Prop :=
 0 < len → ∃ b off, a = some ⟨b, off, none⟩ ∧ b < w.heap.size ∧ ∀ i, i < len → ∃ z : Int, 0 ≤ z ∧ z ≤ 255 ∧ w.cell? ⟨b, off + i, none⟩ = some (.int .u8 z)

theorem CodeRow.below {w w' : World} {a : Option Addr} {len : Nat} (h : CodeRow w a len) (hb : Below w.heap.size w w') : CodeRow w' a len := fun hl => by
 obtain ⟨b, off, ha, hb1, hz⟩ := h hl
 refine ⟨b, off, ha, Nat.lt_of_lt_of_le hb1 hb.size, fun j hj => ?_⟩
 obtain ⟨z, h0, h1, hc⟩ := hz j hj
 exact ⟨z, h0, h1, (hb.cell (p := ⟨b, off + j, none⟩) hb1).trans hc⟩

structure CurI (w : World) (g : Nat) (a : Option Addr) (len cap : Nat) : Prop where
 c : CurOk w g a len cap
 lt : g < w.heap.size
 sm : len ≤ 1048576
theorem CurI.below {w w' : World} {g len cap : Nat} {a : Option Addr} (h : CurI w g a len cap) (hb : Below w.heap.size w w') : CurI w' g a len cap :=
 ⟨h.c.below hb h.lt, Nat.lt_of_lt_of_le h.lt hb.size, h.sm⟩
theorem CurI.drew {w : World} {g len cap : Nat} {a : Option Addr} (h : CurI w g a len cap) : CurI w.drew g a len cap := h.below ((belowRefl w).drew)
theorem CurI.alloc {w : World} {g len cap : Nat} {a : Option Addr} (h : CurI w g a len cap) (o : Obj) : CurI (w.alloc o) g a len cap := h.below ((belowRefl w).alloc (Nat.le_refl _) o)

def OldC (w0 : World) (g : Nat) (a : Option Addr) (len : Nat) : Prop := g < w0.heap.size ∧ ∀ b off, a = some ⟨b, off, none⟩ → 0 < len → b < w0.heap.size
theorem CurI.old {w : World} {g len cap : Nat} {a : Option Addr} (h : CurI w g a len cap) : OldC w g a len :=
 ⟨h.lt, fun b off e hl => by
  obtain ⟨i, x, c, k⟩ := h.c
  obtain ⟨b', off', ha, hb, _⟩ := k hl
  rw [e] at ha
  cases ha
  exact hb⟩
theorem OldC.le {w w' : World} {g len : Nat} {a : Option Addr} (h : OldC w g a len) (hs : w.heap.size ≤ w'.heap.size) : OldC w' g a len :=
 ⟨Nat.lt_of_lt_of_le h.1 hs, fun b off e hl => Nat.lt_of_lt_of_le (h.2 b off e hl) hs⟩

theorem CurOk.belowB {w w' : World} {g len cap B : Nat} {a : Option Addr} (h : CurOk w g a len cap) (hb : Below B w w') (hg : g < B) (hcode : ∀ b off, a = some ⟨b, off, none⟩ → 0 < len → b < B) : CurOk w' g a len cap := by
 obtain ⟨i, x, c, k⟩ := h
 refine ⟨i, x, ⟨(hb.cell (p := ⟨g, 0, none⟩) hg).trans c.c0, (hb.cell (p := ⟨g, 1, none⟩) hg).trans c.c1, (hb.cell (p := ⟨g, 2, none⟩) hg).trans c.c2, fun j => (hb.frozen (p := ⟨g, j, none⟩) hg).trans (c.free j), c.i0, c.i1⟩, fun hl => ?_⟩
 obtain ⟨b, off, ha, hb1, hne, hz⟩ := k hl
 refine ⟨b, off, ha, Nat.lt_of_lt_of_le hb1 hb.size, hne, fun j hj => ?_⟩
 obtain ⟨z, h0, h1, hc⟩ := hz j hj
 exact ⟨z, h0, h1, (hb.cell (p := ⟨b, off + j, none⟩) (hcode b off ha hl)).trans hc⟩
theorem grown_belowB {w w2 w3 : World} {g B : Nat} (h : w.grownBy w2 (some g)) (hb : Below B w2 w3) (hB : w.heap.size ≤ B) : w.grownBy w3 (some g) :=
 ⟨hb.os.trans h.os, hb.tape.trans h.tape, hb.output.trans h.output, Nat.le_trans h.size hb.size, fun j hj hne => (hb.block j (by omega)).trans (h.block j hj hne)⟩

structure Dn (w0 w : World) (g : Nat) (a : Option Addr) (len cap : Nat) : Prop where
 c : CurI w g a len cap
 gr : w0.grownBy w (some g)
 old : OldC w0 g a len
section
variable {w0 w w' : World} {g len cap : Nat} {a : Option Addr}
theorem Dn.start (h : CurI w g a len cap) : Dn w w g a len cap := ⟨h, grown_refl _ _, h.old⟩
theorem Dn.belowB (h : Dn w0 w g a len cap) (hb : Below w0.heap.size w w') : Dn w0 w' g a len cap :=
 ⟨⟨h.c.c.belowB hb h.old.1 h.old.2, Nat.lt_of_lt_of_le h.c.lt hb.size, h.c.sm⟩, grown_belowB h.gr hb (Nat.le_refl _), h.old⟩
theorem Dn.below (h : Dn w0 w g a len cap) (hb : Below w.heap.size w w') : Dn w0 w' g a len cap := h.belowB (hb.mono h.gr.size)
theorem Dn.set (h : Dn w0 w g a len cap) {p : Addr} (hp : w0.heap.size ≤ p.block) (u : Value) : Dn w0 (w.setCell p u) g a len cap := h.belowB ((Below.refl _ _).setCell hp u)
theorem Dn.alloc (h : Dn w0 w g a len cap) (o : Obj) : Dn w0 (w.alloc o) g a len cap := h.below ((belowRefl w).alloc (Nat.le_refl _) o)
theorem Dn.drew (h : Dn w0 w g a len cap) : Dn w0 w.drew g a len cap := h.below ((belowRefl w).drew)
theorem Dn.size (h : Dn w0 w g a len cap) : w0.heap.size ≤ w.heap.size := h.gr.size
theorem Dn.out {B : Nat} (h : Dn w0 w g a len cap) (hB : Below B w' w0) (hg : B ≤ g) (hs : B ≤ w0.heap.size) : Below B w' w :=
 hB.grown h.gr hs (fun j hj => by cases hj; exact hg)
end

section
variable {w w' : World} {b : Nat} {cs : List Value}
end

end Go.Proofs.YtpnnncfbodfnhaaGreat

namespace Go.Proofs.YtpnnncfbodfnhaaGreat
open Go.RowKit
open KM
attribute [local go_sem ↓] Go.wp_at_zero Go.wp_at_succ

def KeyD (s : ByteArray) : Prop := keyB s = true ∧ s.size ≤ 3
def RgD (r : Rg) : Prop := KeyD r.1 ∧ KeyD r.2 ∧ le r.1 r.2 = true
theorem le_of_not_lt {x y : ByteArray} (h : Op.bytesLess x.toList y.toList = false) : le y x = true := by rw [← not_lt, h]; rfl
theorem le_of_lt {x y : ByteArray} (h : Op.bytesLess x.toList y.toList = true) : le x y = true := by unfold le; rw [h]; rfl

end Go.Proofs.YtpnnncfbodfnhaaGreat

namespace Go.Proofs.YtpnnncfbodfnhaaGreat
open Go.RowKit
open KM
attribute [local go_sem ↓] Go.wp_at_zero Go.wp_at_succ

theorem wone {s t : ByteArray} {b : Bool} : ∀ u ∈ ([.string s, .string t, .bool b] : List Value), u.oneCell' = true := by
 intro u hu
 simp only [List.mem_cons, List.not_mem_nil, or_false] at hu
 rcases hu with rfl | rfl | rfl <;> rfl
theorem rone {s t : ByteArray} : ∀ u ∈ ([.string s, .string t] : List Value), u.oneCell' = true := by
 intro u hu
 simp only [List.mem_cons, List.not_mem_nil, or_false] at hu
 rcases hu with rfl | rfl <;> rfl

theorem wpAppW {ops : Array Oper} {rest : List Oper} {o : Oper} {a : Act} {Q : Exit → Act → World → Prop} (hgd : o.guard = none) (s x : Operand) (ho : o.op = .call { callee := .builtin .append, args := #[s, x], argTypes := #[35, 35] })
  {W : World} {base : Nat} {v : Value} {xs : List Wt} (y : Wt) (hs : a.eval s = v) (hown : GOwn encW 181 W base v xs)
  (hx : a.eval x = .slice (some ⟨W.heap.size, 0, none⟩) 1 1) (hlen : xs.length ≤ 100000000) (hB : base ≤ W.heap.size)
  (h : ∀ v' w', GOwn encW 181 w' base v' (xs ++ [y]) → Below base W w' → wpList Tryz.prog ops Q rest (a.put o.dst v') w') :
  wpList Tryz.prog ops Q (o :: rest) a (W.alloc (.cells #[.string y.1, .string y.2.1, .bool y.2.2] 181)) := by
 refine wpAppG 35 181 3 40 _ Tryz.underlying35 Tryz.info181 rfl (by omega) (by omega) hgd s x ho (encW.enc y) hs (World.ownsRow.alloc hown _) hx (heap_alloc_new W _) rfl wone (by omega) (by simp; omega) ?_
 intro g' cap w' h1 h2
 refine h _ w' ?_ (((Below.refl _ _).alloc hB _).trans h2)
 have e : encW.cells (xs ++ [y]) = encW.cells xs ++ encW.enc y := by rw [encW.cells_app]; simp [Enc.cells]
 unfold GOwn
 rw [e, List.length_append]
 exact h1
end Go.Proofs.YtpnnncfbodfnhaaGreat

namespace Go.Proofs.YtpnnncfbodfnhaaGreat
open KM
def WFit (xs : List Wt) : Prop := ∀ x ∈ xs, x.1.size ≤ 1048576 ∧ x.2.1.size ≤ 1048576
def RFit (xs : List Rg) : Prop := ∀ x ∈ xs, x.1.size ≤ 1048576 ∧ x.2.size ≤ 1048576
end Go.Proofs.YtpnnncfbodfnhaaGreat

namespace Go.Proofs.YtpnnncfbodfnhaaGreat
open Go.RowKit
open KM
attribute [local go_sem ↓] Go.wp_at_zero Go.wp_at_succ

def WtD (x : Wt) : Prop := writeB x = true ∧ x.1.size ≤ 3 ∧ x.2.1.size ≤ 3
def Asc (xs : List Wt) : Prop := xs.Pairwise fun a b => lt a.1 b.1 = true
def WsD (xs : List Wt) : Prop := (∀ x ∈ xs, WtD x) ∧ Asc xs

theorem WsD.fit {xs : List Wt} (h : WsD xs) : WFit xs := fun x hx => ⟨by have := (h.1 x hx).2.1; omega, by have := (h.1 x hx).2.2; omega⟩

end Go.Proofs.YtpnnncfbodfnhaaGreat

namespace Go.Proofs.YtpnnncfbodfnhaaGreat
open Go.RowKit
open KM
attribute [local go_sem ↓] Go.wp_at_zero Go.wp_at_succ

theorem wpAppR {ops : Array Oper} {rest : List Oper} {o : Oper} {a : Act} {Q : Exit → Act → World → Prop} (hgd : o.guard = none) (s x : Operand) (ho : o.op = .call { callee := .builtin .append, args := #[s, x], argTypes := #[34, 34] })
  {W : World} {base : Nat} {v : Value} {xs : List Rg} (y : Rg) (hs : a.eval s = v) (hown : GOwn encR 115 W base v xs)
  (hx : a.eval x = .slice (some ⟨W.heap.size, 0, none⟩) 1 1) (hlen : xs.length ≤ 100000000) (hB : base ≤ W.heap.size)
  (h : ∀ v' w', GOwn encR 115 w' base v' (xs ++ [y]) → Below base W w' → wpList Tryz.prog ops Q rest (a.put o.dst v') w') :
  wpList Tryz.prog ops Q (o :: rest) a (W.alloc (.cells #[.string y.1, .string y.2] 115)) := by
 refine wpAppG 34 115 2 32 _ Tryz.underlying34 Tryz.info115 rfl (by omega) (by omega) hgd s x ho (encR.enc y) hs (World.ownsRow.alloc hown _) hx (heap_alloc_new W _) rfl rone (by omega) (by simp; omega) ?_
 intro g' cap w' h1 h2
 refine h _ w' ?_ (((Below.refl _ _).alloc hB _).trans h2)
 have e : encR.cells (xs ++ [y]) = encR.cells xs ++ encR.enc y := by rw [encR.cells_app]; simp [Enc.cells]
 unfold GOwn
 rw [e, List.length_append]
 exact h1

def RsD (xs : List Rg) : Prop := ∀ x ∈ xs, RgD x
theorem RsD.fit {xs : List Rg} (h : RsD xs) : RFit xs := fun x hx => ⟨by have := (h x hx).1.2; omega, by have := (h x hx).2.1.2; omega⟩

end Go.Proofs.YtpnnncfbodfnhaaGreat

/- The law FnExactBaseOk, walked. -/
import Derived.Test.YtmijppfppigjcaaGreatPd06
import Derived.Deep.RegionHeld3
import Derived.Deep.Cut
import Derived.Deep.CutRange
import Derived.Laws.EntriesVeiled
import Derived.Test.YtmijppfppigjcaaGreatProg
import Derived.WalkKit
import Derived.Test.YtmijppfppigjcaaGreatPd01
import Derived.WalkSpells
import Derived.WalkLawsBesides
import Derived.Deep.QuietTactic
import Derived.BigQuiet
import Derived.Deep.DrawnRows
import Derived.Deep.AppendLies
import Derived.Test.YtmijppfppigjcaaGreatPd02
import Derived.Test.YtmijppfppigjcaaGreatPd03
import Derived.Deep.RegionHeld
import Derived.Sort.OwnSorted
import Derived.Lib.RowBridge
import Derived.Test.YtmijppfppigjcaaGreatPd04
import Derived.Test.YtmijppfppigjcaaGreatPd05
import Derived.Lib.ItoaNum
import Derived.Lib.ItoaLen
import Derived.Shelf.Small.Strs
import Derived.Shelf.Small.Wraps
import Derived.Lib.SlicesCompact
import Derived.Sort.Walk0
import Derived.Deep.LoopGhost
namespace Go.Proofs.YtmijppfppigjcaaGreat
open Go.RowKit
open KM
attribute [local go_sem ↓] Go.wp_at_zero Go.wp_at_succ

end Go.Proofs.YtmijppfppigjcaaGreat

namespace Go.Proofs.YtmijppfppigjcaaGreat
open Go.RowKit
open KM
attribute [local go_sem ↓] Go.wp_at_zero Go.wp_at_succ

set_option maxRecDepth 100000 in
set_option maxHeartbeats 1000000 in
theorem iin (f t k : ByteArray) (w : World) : Calls Tryz.prog 165 #[.agg #[.string f, .string t], .string k] w fun e w' => e = .returned (.bool (inB (f, t) k)) ∧ Below w.heap.size w w' := by
 cases h : le f k
 ·have h' : (Op.bytesLess f.toList k.toList || f.toList == k.toList) = false := h
  go_enter Tryz.func165, Tryz.ntmps165
  go_wp2
  go_ret
  exact ⟨ret_bool (by unfold inB; rw [h]; rfl), (belowRefl w).alloc (Nat.le_refl _) _⟩
 ·have h' : (Op.bytesLess f.toList k.toList || f.toList == k.toList) = true := h
  go_enter Tryz.func165, Tryz.ntmps165
  go_wp2
  go_ret
  exact ⟨ret_bool (by unfold inB; rw [h]; rfl), (belowRefl w).alloc (Nat.le_refl _) _⟩

set_option maxRecDepth 100000 in
set_option maxHeartbeats 1000000 in
theorem sin (f t k : ByteArray) (w : World) : Calls Tryz.prog 117 #[.agg #[.string f, .string t], .string k] w fun e w' => e = .returned (.bool (inB (f, t) k)) ∧ Below w.heap.size w w' := by
 cases h : le f k
 ·have h' : (!Op.bytesLess k.toList f.toList) = false := (not_lt k f).trans h
  go_enter Tryz.func117, Tryz.ntmps117
  go_wp2
  go_ret
  exact ⟨ret_bool (by unfold inB; rw [h]; rfl), (belowRefl w).alloc (Nat.le_refl _) _⟩
 ·have h' : (!Op.bytesLess k.toList f.toList) = true := (not_lt k f).trans h
  go_enter Tryz.func117, Tryz.ntmps117
  go_wp2
  go_ret
  exact ⟨ret_bool (by unfold inB; rw [h]; rfl), (belowRefl w).alloc (Nat.le_refl _) _⟩

end Go.Proofs.YtmijppfppigjcaaGreat

namespace Go.Proofs.YtmijppfppigjcaaGreat
namespace VM
open KM
def isOf (k : ByteArray) (s : Int) (v : Vr) : Bool := decide (v.1 = k) && decide (v.2.2.2 ≤ s)
def more (a : Option Nd) (n : Nd) : Bool := match a with
 | none => true
 | some m => decide (m.2.2.2.2 < n.2.2.2.2)
def stp (k : ByteArray) (s : Int) (a : Option Nd) (n : Nd) : Option Nd := if (isOf k s n.2 && more a n) = true then some n else a
def lst (k : ByteArray) (s : Int) (ns : List Nd) : Option Nd := ns.foldl (stp k s) none
theorem lst_snoc (k : ByteArray) (s : Int) (A : List Nd) (n : Nd) : lst k s (A ++ [n]) = stp k s (lst k s A) n := by simp [lst, List.foldl_append]
def GoodL (k : ByteArray) (s : Int) (A : List Nd) (n : Nd) (B : List Nd) : Prop :=
 isOf k s n.2 = true ∧ (∀ m ∈ A, isOf k s m.2 = true → m.2.2.2.2 < n.2.2.2.2) ∧ (∀ m ∈ B, isOf k s m.2 = true → m.2.2.2.2 ≤ n.2.2.2.2)
def Told (k : ByteArray) (s : Int) (P : List Nd) (a : Option Nd) : Prop := match a with
 | none => ∀ m ∈ P, isOf k s m.2 = false
 | some x => ∃ A B, P = A ++ x :: B ∧ GoodL k s A x B
theorem told_snoc {k : ByteArray} {s : Int} {P : List Nd} {a : Option Nd} (n : Nd) (h : Told k s P a) : Told k s (P ++ [n]) (stp k s a n) := by
 unfold stp
 cases hi : isOf k s n.2
 ·simp only [Bool.false_and, Bool.false_eq_true, if_false]
  cases a with
  | none =>
   intro m hm
   rcases List.mem_append.1 hm with hm | hm
   ·exact h m hm
   ·rw [List.mem_singleton.1 hm]; exact hi
  | some x =>
   obtain ⟨A, B, rfl, g1, g2, g3⟩ := h
   refine ⟨A, B ++ [n], by simp, g1, g2, fun m hm ho => ?_⟩
   rcases List.mem_append.1 hm with hm | hm
   ·exact g3 m hm ho
   ·rw [List.mem_singleton.1 hm, hi] at ho; cases ho
 ·simp only [Bool.true_and]
  cases a with
  | none =>
   simp only [more, if_true]
   refine ⟨P, [], by simp, hi, fun m hm ho => ?_, fun m hm => by simp at hm⟩
   have := h m hm
   rw [this] at ho; cases ho
  | some x =>
   obtain ⟨A, B, rfl, g1, g2, g3⟩ := h
   simp only [more, decide_eq_true_eq]
   split
   ·rename_i hlt
    refine ⟨A ++ x :: B, [], by simp, hi, fun m hm ho => ?_, fun m hm => by simp at hm⟩
    rcases List.mem_append.1 hm with hm | hm
    ·have := g2 m hm ho; omega
    ·rcases List.mem_cons.1 hm with rfl | hm
     ·exact hlt
     ·have := g3 m hm ho; omega
   ·rename_i hlt
    refine ⟨A, B ++ [n], by simp, g1, g2, fun m hm ho => ?_⟩
    rcases List.mem_append.1 hm with hm | hm
    ·exact g3 m hm ho
    ·rw [List.mem_singleton.1 hm]; omega
theorem told_more {k : ByteArray} {s : Int} : ∀ (l P : List Nd) (a : Option Nd), Told k s P a → Told k s (P ++ l) (l.foldl (stp k s) a)
 | [], P, a, h => by simpa using h
 | n :: l, P, a, h => by
  have := told_more l (P ++ [n]) _ (told_snoc n h)
  simpa using this
theorem told (k : ByteArray) (s : Int) (P : List Nd) : Told k s P (lst k s P) := by
 have := told_more (k := k) (s := s) P [] none (fun m hm => by simp at hm)
 simpa [lst] using this
theorem lst_mem {k : ByteArray} {s : Int} {P : List Nd} {x : Nd} (h : lst k s P = some x) : x ∈ P ∧ isOf k s x.2 = true := by
 have := told k s P
 rw [h] at this
 obtain ⟨A, B, rfl, g⟩ := this
 exact ⟨by simp, g.1⟩
def lab (vs : List Vr) : Nat → List Nd
 | 0 => []
 | n + 1 => lab vs n ++ (match vs[n]? with
  | some v => [(n, v)]
  | none => [])
theorem lab_succ {vs : List Vr} {n : Nat} (h : n < vs.length) : lab vs (n + 1) = lab vs n ++ [(n, vs[n])] := by
 simp only [lab, List.getElem?_eq_getElem h]
theorem lab_mem {vs : List Vr} {x : Nd} : ∀ {n : Nat}, x ∈ lab vs n → x.1 < n ∧ vs[x.1]? = some x.2
 | 0, h => by simp [lab] at h
 | n + 1, h => by
  simp only [lab, List.mem_append] at h
  rcases h with h | h
  ·have := lab_mem h; exact ⟨by omega, this.2⟩
  ·cases e : vs[n]? with
   | none => rw [e] at h; simp at h
   | some v => rw [e] at h; rw [List.mem_singleton.1 h]; exact ⟨by simp, e⟩
def atI (o : Option Nd) : Int := match o with
 | none => -1
 | some n => n.1
end VM
end Go.Proofs.YtmijppfppigjcaaGreat

namespace Go.Proofs.YtmijppfppigjcaaGreat
namespace VM
open KM
section
variable {α : Type} [Inhabited α] [DecidableEq α]
end

theorem lt_iff (a b : ByteArray) : lt a b = true ↔ a.data.toList < b.data.toList := by
 unfold lt
 rw [bytesLess_eq, toList_data, toList_data, decide_eq_true_eq]
theorem lt_tr (a b c : ByteArray) (h1 : lt a b = true) (h2 : lt b c = true) : lt a c = true := by
 rw [lt_iff] at *
 exact List.lt_trans h1 h2
theorem lt_total {a b : ByteArray} (h : a ≠ b) : lt a b = true ∨ lt b a = true := by
 cases h1 : lt a b
 ·exact Or.inr (less_total _ _ h1 (fun e => h (toList_inj e)))
 ·exact Or.inl rfl
def insK (l : List ByteArray) (k : ByteArray) : List ByteArray := l.filter (fun y => lt y k) ++ [k] ++ l.filter (fun y => lt k y)
theorem ins_spec {l : List ByteArray} {k : ByteArray} (h : l.Pairwise (fun a b => lt a b = true)) : (insK l k).Pairwise (fun a b => lt a b = true) ∧ ∀ x, x ∈ insK l k ↔ x = k ∨ x ∈ l := by
 unfold insK
 constructor
 ·rw [List.pairwise_append, List.pairwise_append]
  refine ⟨⟨h.filter _, by simp, fun x hx y hy => ?_⟩, h.filter _, fun x hx y hy => ?_⟩
  ·rw [List.mem_singleton.1 hy]; exact (List.mem_filter.1 hx).2
  ·have hy' := (List.mem_filter.1 hy).2
   rcases List.mem_append.1 hx with hx | hx
   ·exact lt_tr _ _ _ (List.mem_filter.1 hx).2 hy'
   ·rw [List.mem_singleton.1 hx]; exact hy'
 ·intro x
  simp only [List.mem_append, List.mem_filter, List.mem_singleton]
  constructor
  ·rintro ((⟨hx, _⟩ | rfl) | ⟨hx, _⟩)
   ·exact Or.inr hx
   ·exact Or.inl rfl
   ·exact Or.inr hx
  ·rintro (rfl | hx)
   ·exact Or.inl (Or.inr rfl)
   ·by_cases e : x = k
    ·exact Or.inl (Or.inr e)
    ·rcases lt_total e with h1 | h1
     ·exact Or.inl (Or.inl ⟨hx, h1⟩)
     ·exact Or.inr ⟨hx, h1⟩

end VM
end Go.Proofs.YtmijppfppigjcaaGreat

namespace Go.Proofs.YtmijppfppigjcaaGreat
open Go.RowKit
open KM
open VM Go.Sort
attribute [local go_sem ↓] Go.wp_at_zero Go.wp_at_succ

theorem wpAppV {ops : Array Oper} {rest : List Oper} {o : Oper} {a : Act} {Q : Exit → Act → World → Prop} (hgd : o.guard = none) (s x : Operand) (ho : o.op = .call { callee := .builtin .append, args := #[s, x], argTypes := #[39, 39] })
  {W : World} {base : Nat} {v : Value} {xs : List Vr} (y : Vr) (hs : a.eval s = v) (hown : GOwn encV 150 W base v xs)
  (hx : a.eval x = .slice (some ⟨W.heap.size, 0, none⟩) 1 1) (hlen : xs.length ≤ 100000000) (hB : base ≤ W.heap.size)
  (h : ∀ v' w', GOwn encV 150 w' base v' (xs ++ [y]) → Below base W w' → wpList Tryz.prog ops Q rest (a.put o.dst v') w') :
  wpList Tryz.prog ops Q (o :: rest) a (W.alloc (.cells #[.string y.1, .string y.2.1, .bool y.2.2.1, .int .i64 y.2.2.2] 150)) := by
 refine wpAppG 39 150 4 48 _ Tryz.underlying39 Tryz.info150 rfl (by omega) (by omega) hgd s x ho (encV.enc y) hs (World.ownsRow.alloc hown _) hx (heapAllocNew W _ _) rfl oneV (by omega) (by simp; omega) ?_
 intro g' cap w' h1 h2
 refine h _ w' ?_ (((Below.refl _ _).alloc hB _).trans h2)
 have e : encV.cells (xs ++ [y]) = encV.cells xs ++ encV.enc y := by rw [encV.cells_app]; simp [Enc.cells]
 unfold GOwn
 rw [e, List.length_append]
 exact h1

theorem stepAppKV {ops : Array Oper} {o : Oper} {a : Act} {K : Act → World → Prop} {Q : Exit → Act → World → Prop} {E : Prop} (hgd : o.guard = none) (s x : Operand) (ho : o.op = .call { callee := .builtin .append, args := #[s, x], argTypes := #[39, 39] })
  {W : World} {base g : Nat} {v : Value} {xs : List Vr} (y : Vr) (hs : a.eval s = v) (hown : GOwn encV 150 W base v xs)
  (hx : a.eval x = .slice (some ⟨g, 0, none⟩) 1 1) (hblk : W.heap[g]? = some (.cells (encV.enc y).toArray 150 (0, 0))) (hlen : xs.length ≤ 100000000) (hB : base ≤ W.heap.size)
  (h : ∀ v' w', GOwn encV 150 w' base v' (xs ++ [y]) → Below base W w' → W.grownBy w' v.ownBlock → K (a.put o.dst v') w') :
  if Region.wanted o (yielded ops a.tmps) = true then Oper.wp Tryz.prog o a W K Q else E := by
 obtain ⟨i0, hi, hz0, hz1, hz2⟩ := info_parts Tryz.info150
 refine step_append_lies _ hgd s x 39 ho base 150 i0 _ 4 48 Tryz.underlying39 hi hz0 hz1 hz2 rfl (by omega) v xs.length (encV.cells xs) hs hown ⟨g, 0, none⟩ 1 1 (encV.enc y) hx rfl ?_ oneV (by omega) (by unfold maxLen; omega) ?_ hB _ rfl ?_
 ·intro j u hj
  rw [Addr.add_lit, Nat.zero_add, World.cell?, hblk]
  simpa using hj
 ·calc (xs.length + 1) * 48 ≤ 100000001 * 64 := Nat.mul_le_mul (by omega) (by omega)
   _ ≤ _ := by omega
 ·intro g' cap w' h1 h2 _ _
  refine h _ w' ?_ ((Below.refl _ _).grown h2 hB (fun j hj => (World.ownsRow.lt hown j hj).1)) h2
  have e : encV.cells (xs ++ [y]) = encV.cells xs ++ encV.enc y := by rw [encV.cells_app]; simp [Enc.cells]
  unfold GOwn
  rw [e, List.length_append]
  exact h1

end Go.Proofs.YtmijppfppigjcaaGreat

namespace Go.Proofs.YtmijppfppigjcaaGreat
open Go.RowKit
open KM
open VM Go.Sort
attribute [local go_sem ↓] Go.wp_at_zero Go.wp_at_succ

end Go.Proofs.YtmijppfppigjcaaGreat

namespace Go.Proofs.YtmijppfppigjcaaGreat
open Go.RowKit
open KM
open VM
attribute [local go_sem ↓] Go.wp_at_zero Go.wp_at_succ

def zV : Vr := (⟨#[]⟩, ⟨#[]⟩, false, 0)
theorem chn_first (w : World) : Chn ((w.alloc (.cells #[.string ⟨#[]⟩, .string ⟨#[]⟩, .bool false, .int .i64 0, .pointer none] 178)).alloc (.cells #[.pointer (some ⟨w.heap.size, 0, none⟩)] 192)) w.heap.size (w.heap.size + 1) ([] ++ [(w.heap.size, zV)]) := by
 have h1 : Bx (w.alloc (.cells #[.string ⟨#[]⟩, .string ⟨#[]⟩, .bool false, .int .i64 0, .pointer none] 178)) w.heap.size (ndc zV none) := Bx.new w (ndc zV none) 178
 have h2 := Bx.new (w.alloc (.cells #[.string ⟨#[]⟩, .string ⟨#[]⟩, .bool false, .int .i64 0, .pointer none] 178)) [.pointer (some ⟨w.heap.size, 0, none⟩)] 192
 rw [World.size_alloc] at h2
 refine ⟨h2, ⟨h1.alloc _, trivial⟩, by simp, by simp⟩
theorem fst_ne {w : World} {base c : Nat} {A : List Nd} {m : Nd} (h : Chn w base c (A ++ [m])) (b : Nat) (v : Vr) (hb : w.heap.size ≤ b) : (c :: (A ++ m :: [(b, v)]).map (·.1)).Nodup := by
 have e : (c :: (A ++ m :: [(b, v)]).map (·.1)) = (c :: (A ++ [m]).map (·.1)) ++ [b] := by simp
 rw [e, List.nodup_append]
 refine ⟨h.nd, by simp, fun x hx y hy => ?_⟩
 have := h.lt x hx
 simp at hy
 omega
theorem chn_more {w : World} {base c : Nat} {A : List Nd} {m : Nd} (h : Chn w base c (A ++ [m])) (hb : base ≤ w.heap.size) (v : Vr) :
  Chn (((w.alloc (.cells #[.string v.1, .string v.2.1, .bool v.2.2.1, .int .i64 v.2.2.2] 150)).alloc (.cells #[.string v.1, .string v.2.1, .bool v.2.2.1, .int .i64 v.2.2.2, .pointer none] 178)).setCell ⟨m.1, 4, none⟩ (.pointer (some ⟨w.heap.size + 1, 0, none⟩))) base c ((A ++ [m]) ++ [(w.heap.size + 1, v)]) := by
 have h1 := (h.below ((belowRefl w).alloc (Nat.le_refl _) (.cells #[.string v.1, .string v.2.1, .bool v.2.2.1, .int .i64 v.2.2.2] 150))).below ((belowRefl _).alloc (Nat.le_refl _) (.cells #[.string v.1, .string v.2.1, .bool v.2.2.1, .int .i64 v.2.2.2, .pointer none] 178))
 have h2 := Bx.new (w.alloc (.cells #[.string v.1, .string v.2.1, .bool v.2.2.1, .int .i64 v.2.2.2] 150)) (ndc v none) 178
 rw [World.size_alloc] at h2
 have h3 := h1.next (C := [(w.heap.size + 1, v)]) ⟨h2, trivial⟩ (fst_ne h (w.heap.size + 1) v (by omega)) (fun n hn => by rw [List.mem_singleton.1 hn]; show base ≤ w.heap.size + 1; omega)
 rw [List.append_assoc]
 exact h3

set_option maxRecDepth 100000 in
set_option maxHeartbeats 2000000 in
theorem chain45 (xs : List Vr) (a : Option Addr) (c : Nat) (hn : xs.length ≤ 100000000) (w : World) (hp : GRow encV w a xs) :
  Calls Tryz.prog 88 #[.slice a xs.length c] w fun e w' => e = .returned (.pointer (some ⟨w.heap.size + 1, 0, none⟩)) ∧ (∃ (r : Nat) (ns : List Nd), Chn w' w.heap.size (w.heap.size + 1) ((r, zV) :: ns) ∧ ns.map (·.2) = xs) ∧ Below w.heap.size w w' := by
 have HP : Hid (GRow encV w a xs) := hp
 clear hp
 have H0 : Hid (Chn ((w.alloc (.cells #[.string ⟨#[]⟩, .string ⟨#[]⟩, .bool false, .int .i64 0, .pointer none] 178)).alloc (.cells #[.pointer (some ⟨w.heap.size, 0, none⟩)] 192)) w.heap.size (w.heap.size + 1) ([] ++ [(w.heap.size, zV)])) := chn_first w
 have B0 : Hid (Below w.heap.size w ((w.alloc (.cells #[.string ⟨#[]⟩, .string ⟨#[]⟩, .bool false, .int .i64 0, .pointer none] 178)).alloc (.cells #[.pointer (some ⟨w.heap.size, 0, none⟩)] 192))) := ((belowRefl w).alloc (Nat.le_refl _) _).alloc (by simp) _
 go_enter Tryz.func88, Tryz.ntmps88
 go_wp2
 go_loopw [4, 17] (fun t4 t wr => ∃ (k : Nat) (A : List Nd) (m : Nd), k ≤ xs.length ∧ t = .int .i64 k ∧ t4 = .pointer (some ⟨m.1, 0, none⟩) ∧ Hid (Chn wr w.heap.size (w.heap.size + 1) (A ++ [m])) ∧ Hid ((A ++ [m]).map (·.2) = zV :: xs.take k) ∧ Hid (Below w.heap.size w wr)) (fun _ t _ => xs.length - (intOf t).toNat)
 case atStart => exact ⟨0, [], (w.heap.size, zV), Nat.zero_le _, rfl, rfl, H0, rfl, B0⟩
 case round =>
  obtain ⟨k, A, m, hk, rfl, rfl, HC, HV, HB⟩ := hrel
  by_cases hlt : k < xs.length
  ·have hlt' : (k : Int) < (xs.length : Int) := by omega
   have h0 : (0 : Int) ≤ (k : Int) := by omega
   obtain ⟨b, off, rfl, hbl, hc⟩ := (HP.out.below HB.out) (by omega)
   have c0 := (vat hc k hlt).1
   have c1 := (vat hc k hlt).2.1
   have c2 := (vat hc k hlt).2.2.1
   have c3 := (vat hc k hlt).2.2.2
   clear hc
   have m4 := HC.out.at'.c4
   have mf := HC.out.at'.fz
   have mlt := HC.out.at'.lt
   simp only [ptq_nil] at m4
   have HC2 : Hid (Chn (((wr.setCell ⟨m.1, 4, none⟩ (.pointer (some ⟨wr.heap.size + 1, 0, none⟩))).alloc (.cells #[.string xs[k].1, .string xs[k].2.1, .bool xs[k].2.2.1, .int .i64 xs[k].2.2.2] 150)).alloc (.cells #[.string xs[k].1, .string xs[k].2.1, .bool xs[k].2.2.1, .int .i64 xs[k].2.2.2, .pointer none] 178)) w.heap.size (w.heap.size + 1) ((A ++ [m]) ++ [(wr.heap.size + 1, xs[k])])) := by
    have h := chn_more HC.out HB.out.size xs[k]
    rw [World.setCell_alloc_past _ _ _ _ (by simp; omega), World.setCell_alloc_past _ _ _ _ mlt] at h
    exact h
   have HV2 : Hid (((A ++ [m]) ++ [(wr.heap.size + 1, xs[k])]).map (·.2) = zV :: xs.take (k + 1)) := by
    show _ = _
    rw [List.map_append, HV.out, List.take_succ_eq_append_getElem hlt]; rfl
   have HB2 : Hid (Below w.heap.size w (((wr.setCell ⟨m.1, 4, none⟩ (.pointer (some ⟨wr.heap.size + 1, 0, none⟩))).alloc (.cells #[.string xs[k].1, .string xs[k].2.1, .bool xs[k].2.2.1, .int .i64 xs[k].2.2.2] 150)).alloc (.cells #[.string xs[k].1, .string xs[k].2.1, .bool xs[k].2.2.1, .int .i64 xs[k].2.2.2, .pointer none] 178))) := by
    have hs : w.heap.size ≤ (wr.setCell ⟨m.1, 4, none⟩ (.pointer (some ⟨wr.heap.size + 1, 0, none⟩))).heap.size := by simpa [World.setCell] using HB.out.size
    exact ((HB.out.setCell (HC.out.lo m.1 (by simp)) _).alloc hs _).alloc (by rw [World.size_alloc]; omega) _
   go_wp2
   go_roundw
   case rel => exact ⟨k + 1, A ++ [m], _, by omega, by go_num, rfl, HC2, HV2, HB2⟩
   case measure => simp [intOf]; omega
  ·have hlt' : ¬ (k : Int) < (xs.length : Int) := by omega
   have HE : Hid (∃ (r : Nat) (ns : List Nd), Chn wr w.heap.size (w.heap.size + 1) ((r, zV) :: ns) ∧ ns.map (·.2) = xs) := by
    have hv := HV.out
    have hc := HC.out
    rw [List.take_of_length_le (by omega)] at hv
    show ∃ _ _, _
    cases hl : A ++ [m] with
    | nil => simp at hl
    | cons x l =>
     rw [hl] at hv hc
     simp only [List.map_cons, List.cons.injEq] at hv
     obtain ⟨r, v⟩ := x
     have e : v = zV := hv.1
     subst e
     exact ⟨r, l, hc, hv.2⟩
   go_wp2
   go_ret
   exact ⟨rfl, HE.out, HB.out⟩
end Go.Proofs.YtmijppfppigjcaaGreat

namespace Go.Proofs.YtmijppfppigjcaaGreat
open Go.RowKit
open KM
open VM
attribute [local go_sem ↓] Go.wp_at_zero Go.wp_at_succ

def ptO (o : Option Nd) : Option Addr := o.map fun n => ⟨n.1, 0, none⟩
theorem ptO_none : ptO none = none := rfl
theorem ptO_some (n : Nd) : ptO (some n) = some ⟨n.1, 0, none⟩ := rfl
theorem seg_at {w : World} {base c : Nat} {r : Nd} {ns A B : List Nd} {n : Nd} (h : Chn w base c (r :: ns)) (e : ns = A ++ n :: B) : Bx w n.1 (ndc n.2 (ptq B none)) := by
 subst e
 exact Chn.at' (A := r :: A) (by simpa using h)
theorem step_no {k : ByteArray} {s : Int} {a : Option Nd} {n : Nd} (h : isOf k s n.2 = false) : stp k s a n = a := by unfold stp; rw [h]; simp
theorem step_less {k : ByteArray} {s : Int} {m n : Nd} (h : ¬ m.2.2.2.2 < n.2.2.2.2) : stp k s (some m) n = some m := by
 unfold stp
 rw [if_neg]
 simp [more]
 intro _; omega
theorem step_yes {k : ByteArray} {s : Int} {a : Option Nd} {n : Nd} (h : isOf k s n.2 = true) (h2 : more a n = true) : stp k s a n = some n := by unfold stp; rw [h, h2]; rfl
theorem isOf_key {k : ByteArray} {s : Int} {v : Vr} (h : (v.1.toList == k.toList) = false) : isOf k s v = false := by
 rw [beq_text] at h
 unfold isOf
 rw [h]; rfl
theorem isOf_cs {k : ByteArray} {s : Int} {v : Vr} (h : s < v.2.2.2) : isOf k s v = false := by
 unfold isOf
 rw [decide_eq_false (by omega : ¬ v.2.2.2 ≤ s), Bool.and_false]
theorem isOf_yes {k : ByteArray} {s : Int} {v : Vr} (h : (v.1.toList == k.toList) = true) (h2 : ¬ s < v.2.2.2) : isOf k s v = true := by
 rw [beq_text] at h
 unfold isOf
 rw [h, decide_eq_true (by omega : v.2.2.2 ≤ s)]; rfl

end Go.Proofs.YtmijppfppigjcaaGreat

namespace Go.Proofs.YtmijppfppigjcaaGreat
open Go.RowKit
open KM
open VM
attribute [local go_sem ↓] Go.wp_at_zero Go.wp_at_succ

set_option maxRecDepth 100000 in
set_option maxHeartbeats 2000000 in
theorem last48 (k : ByteArray) (s : Int) (base c : Nat) (r : Nd) (ns : List Nd) (w : World) (hc : Chn w base c (r :: ns)) :
  Calls Tryz.prog 109 #[.pointer (some ⟨c, 0, none⟩), .string k, .int .i64 s] w fun e w' => e = .returned (.pointer (ptO (lst k s ns))) ∧ Below w.heap.size w w' := by
 have HC : Hid (Chn w base c (r :: ns)) := hc
 have b0 := hc.bx.c0
 have r4 := (Chn.at' (A := []) hc).c4
 simp only [ptq_cons] at b0
 clear hc
 obtain ⟨u0, hu0⟩ : ∃ u, u = ptq ns none := ⟨_, rfl⟩
 rw [← hu0] at r4
 have HU : Hid (u0 = ptq ns none) := hu0
 clear hu0
 go_enter Tryz.func109, Tryz.ntmps109
 go_wp2
 clear b0 r4
 go_loopg [7, 8] ns.length (fun g t7 t8 wr => ∃ A B : List Nd, Hid (ns = A ++ B) ∧ Hid (B.length = g) ∧ t7 = .pointer (ptO (lst k s A)) ∧ t8 = .pointer (ptq B none) ∧ Hid (Below w.heap.size w wr))
 case atStart => exact ⟨[], ns, rfl, rfl, rfl, by rw [HU.out], belowRefl w⟩
 case round =>
  obtain ⟨A, B, HE, HG, h7, h8, HB⟩ := hrel
  cases B with
  | nil =>
   rw [ptq_nil] at h8
   have HE2 : Hid (lst k s A = lst k s ns) := by show _ = _; rw [HE.out, List.append_nil]
   obtain ⟨o, ho⟩ : ∃ o, o = ptO (lst k s A) := ⟨_, rfl⟩
   rw [← ho] at h7
   have HO : Hid (ptO (lst k s ns) = o) := by show _ = _; rw [ho, HE2.out]
   clear ho
   subst h7 h8
   go_wp2
   go_ret
   exact ⟨by rw [HO.out]; rfl, HB.out⟩
  | cons n B =>
   rw [ptq_cons] at h8
   have hx := seg_at (HC.out.below HB.out) HE.out
   have n0 := hx.c0
   have n3 := hx.c3
   have n4 := hx.c4
   clear hx
   obtain ⟨q, hq⟩ : ∃ q, q = ptq B none := ⟨_, rfl⟩
   rw [← hq] at n4
   have HQ : Hid (Value.pointer q = .pointer (ptq B none)) := by show _ = _; rw [hq]
   clear hq
   have HE2 : Hid (ns = (A ++ [n]) ++ B) := by show _ = _; rw [HE.out]; simp
   have HG2 : Hid (B.length < gk) := by show _ < _; rw [← HG.out]; simp
   cases hk : (n.2.1.toList == k.toList)
   ·have hk2 : (!(n.2.1.toList == k.toList)) = true := by rw [hk]; rfl
    obtain ⟨o, ho⟩ : ∃ o, o = ptO (lst k s A) := ⟨_, rfl⟩
    rw [← ho] at h7
    have HO : Hid (o = ptO (lst k s A)) := ho
    clear ho
    subst h7 h8
    have HS : Hid (Value.pointer o = .pointer (ptO (lst k s (A ++ [n])))) := by show _ = _; rw [lst_snoc, step_no (isOf_key hk), ← HO.out]
    go_wp2
    go_roundg B.length
    case measure => exact HG2.out
    case rel => exact ⟨A ++ [n], B, HE2, rfl, HS.out, HQ.out, HB.out⟩
   ·have hk2 : (!(n.2.1.toList == k.toList)) = false := by rw [hk]; rfl
    by_cases hs : s < n.2.2.2.2
    ·obtain ⟨o, ho⟩ : ∃ o, o = ptO (lst k s A) := ⟨_, rfl⟩
     rw [← ho] at h7
     have HO : Hid (o = ptO (lst k s A)) := ho
     clear ho
     subst h7 h8
     have HS : Hid (Value.pointer o = .pointer (ptO (lst k s (A ++ [n])))) := by show _ = _; rw [lst_snoc, step_no (isOf_cs hs), ← HO.out]
     go_wp2
     go_roundg B.length
     case measure => exact HG2.out
     case rel => exact ⟨A ++ [n], B, HE2, rfl, HS.out, HQ.out, HB.out⟩
    ·have hs' : decide (s < n.2.2.2.2) = false := by simpa using hs
     have HI : Hid (isOf k s n.2 = true) := isOf_yes hk hs
     clear hs
     cases hl : lst k s A with
     | none =>
      rw [hl, ptO_none] at h7
      subst h7 h8
      have HS : Hid (Value.pointer (some ⟨n.1, 0, none⟩) = .pointer (ptO (lst k s (A ++ [n])))) := by show _ = _; rw [lst_snoc, hl, step_yes HI.out rfl]; rfl
      clear hl
      go_wp2
      refine wp_region_held_drew (S := fun w' => w'.cell? ⟨n.1, 3, none⟩ = some (.int .i64 n.2.2.2.2)) (by kernel_rfl) n3 (fun hHeld => ?_)
      (refine ti 0 ?_; simp only [Act.put, tA, tB, tD, tE, tF])
      (refine ti 1 ?_; simp only [Act.put, tA, tB, tC, tD, tE, tF])
      (refine ti 2 ?_; simp only [Act.put, tA, tB, tC, tD, tE, tF])
      (refine tu 3 ?_; simp only [Act.put, tA, tB, tC, tD, tE, tF])
      (refine tu 4 ?_; simp only [Act.put, tA, tB, tC, tD, tE, tF])
      (refine tu 5 ?_; simp only [Act.put, tA, tB, tC, tD, tE, tF])
      (refine tu 6 ?_; simp only [Act.put, tA, tB, tC, tD, tE, tF])
      (refine tu 7 ?_; simp only [Act.put, tA, tB, tC, tD, tE, tF])
      (refine tu 8 ?_; simp only [Act.put, tA, tB, tC, tD, tE, tF])
      (refine tu 9 ?_; simp only [Act.put, tA, tB, tC, tD, tE, tF])
      (refine tu 10 ?_; simp only [Act.put, tA, tB, tC, tD, tE, tF])
      (refine tu 11 ?_; simp only [Act.put, tA, tB, tC, tD, tE, tF])
      (refine tu 12 ?_; simp only [Act.put, tA, tB, tC, tD, tE, tF])
      (refine tu 13 ?_; simp only [Act.put, tA, tB, tC, tD, tE, tF])
      (refine ti 14 ?_; simp only [Act.put, tA, tB, tC, tD, tE, tF])
      refine wpAnyH_done (by kernel_rfl) ?_ _
      go_wp2
      go_roundg B.length
      case measure => exact HG2.out
      case rel => exact ⟨A ++ [n], B, HE2, rfl, HS.out, HQ.out, HB.out.drew⟩
     | some m =>
      rw [hl, ptO_some] at h7
      subst h7 h8
      have hm : m ∈ r :: ns := by rw [HE.out]; simp [(lst_mem hl).1]
      obtain ⟨qm, hx⟩ := (HC.out.below HB.out).mem hm
      have m3 := hx.c3
      clear hx hm
      by_cases hc : m.2.2.2.2 < n.2.2.2.2
      ·have HS : Hid (Value.pointer (some ⟨n.1, 0, none⟩) = .pointer (ptO (lst k s (A ++ [n])))) := by show _ = _; rw [lst_snoc, hl, step_yes HI.out (by simpa [more] using hc)]; rfl
       clear hl
       go_wp2
       refine wp_region_held_drew (S := fun w' => w'.cell? ⟨n.1, 3, none⟩ = some (.int .i64 n.2.2.2.2) ∧ w'.cell? ⟨m.1, 3, none⟩ = some (.int .i64 m.2.2.2.2)) (by kernel_rfl) ⟨n3, m3⟩ (fun hHeld => ?_)
       (refine ti 0 ?_; simp only [Act.put, tA, tB, tD, tE, tF])
       (refine ti 1 ?_; simp only [Act.put, tA, tB, tC, tD, tE, tF])
       (refine ti 2 ?_; simp only [Act.put, tA, tB, tC, tD, tE, tF])
       (refine ti 3 ?_; simp only [Act.put, tA, tB, tC, tD, tE, tF])
       (refine ti 4 ?_; simp only [Act.put, tA, tB, tC, tD, tE, tF])
       (refine ti 5 ?_; simp only [Act.put, tA, tB, tC, tD, tE, tF])
       (refine ti 6 ?_; simp only [Act.put, tA, tB, tC, tD, tE, tF])
       (refine ti 7 ?_; simp only [Act.put, tA, tB, tC, tD, tE, tF])
       (refine ti 8 ?_; simp only [Act.put, tA, tB, tC, tD, tE, tF])
       (refine ti 9 ?_; simp only [Act.put, tA, tB, tC, tD, tE, tF])
       (refine ti 10 ?_; simp only [Act.put, tA, tB, tC, tD, tE, tF])
       (refine ti 11 ?_; simp only [Act.put, tA, tB, tC, tD, tE, tF])
       (refine ti 12 ?_; simp only [Act.put, tA, tB, tC, tD, tE, tF])
       (refine ti 13 ?_; simp only [Act.put, tA, tB, tC, tD, tE, tF])
       (refine ti 14 ?_; simp only [Act.put, tA, tB, tC, tD, tE, tF])
       refine wpAnyH_done (by kernel_rfl) ?_ _
       go_wp2
       go_roundg B.length
       case measure => exact HG2.out
       case rel => exact ⟨A ++ [n], B, HE2, rfl, HS.out, HQ.out, HB.out.drew⟩
      ·have HS : Hid (Value.pointer (some ⟨m.1, 0, none⟩) = .pointer (ptO (lst k s (A ++ [n])))) := by show _ = _; rw [lst_snoc, hl, step_less hc]; rfl
       have hc' : decide (m.2.2.2.2 < n.2.2.2.2) = false := by simpa using hc
       clear hl hc
       go_wp2
       refine wp_region_held_drew (S := fun w' => w'.cell? ⟨n.1, 3, none⟩ = some (.int .i64 n.2.2.2.2) ∧ w'.cell? ⟨m.1, 3, none⟩ = some (.int .i64 m.2.2.2.2)) (by kernel_rfl) ⟨n3, m3⟩ (fun hHeld => ?_)
       (refine ti 0 ?_; simp only [Act.put, tA, tB, tD, tE, tF])
       (refine ti 1 ?_; simp only [Act.put, tA, tB, tC, tD, tE, tF])
       (refine ti 2 ?_; simp only [Act.put, tA, tB, tC, tD, tE, tF])
       (refine ti 3 ?_; simp only [Act.put, tA, tB, tC, tD, tE, tF])
       (refine ti 4 ?_; simp only [Act.put, tA, tB, tC, tD, tE, tF])
       (refine ti 5 ?_; simp only [Act.put, tA, tB, tC, tD, tE, tF])
       (refine ti 6 ?_; simp only [Act.put, tA, tB, tC, tD, tE, tF])
       (refine ti 7 ?_; simp only [Act.put, tA, tB, tC, tD, tE, tF])
       (refine ti 8 ?_; simp only [Act.put, tA, tB, tC, tD, tE, tF])
       (refine ti 9 ?_; simp only [Act.put, tA, tB, tC, tD, tE, tF])
       (refine ti 10 ?_; simp only [Act.put, tA, tB, tC, tD, tE, tF])
       (refine ti 11 ?_; simp only [Act.put, tA, tB, tC, tD, tE, tF])
       (refine ti 12 ?_; simp only [Act.put, tA, tB, tC, tD, tE, tF])
       (refine ti 13 ?_; simp only [Act.put, tA, tB, tC, tD, tE, tF])
       (refine ti 14 ?_; simp only [Act.put, tA, tB, tC, tD, tE, tF])
       refine wpAnyH_done (by kernel_rfl) ?_ _
       go_wp2
       go_roundg B.length
       case measure => exact HG2.out
       case rel => exact ⟨A ++ [n], B, HE2, rfl, HS.out, HQ.out, HB.out.drew⟩
end Go.Proofs.YtmijppfppigjcaaGreat

namespace Go.Proofs.YtmijppfppigjcaaGreat
open Go.RowKit
open KM
open VM
attribute [local go_sem ↓] Go.wp_at_zero Go.wp_at_succ

set_option maxHeartbeats 400000 in
theorem clone49 (s : ByteArray) (hs : s.size ≤ 281474976710656) (w : World) :
  Calls Tryz.prog 41 #[.string s] w fun e w' => e = .returned (.string s) ∧ Below w.heap.size w w' := by
 go_enter Tryz.func41, Tryz.ntmps41
 go_wp2_with (go_at_call 72; refine (Tryz.stringslite_Clone s _ hs).mono ?_; rintro e w2 ⟨rfl, hb2⟩)
 go_ret
 exact ⟨rfl, hb2⟩

end Go.Proofs.YtmijppfppigjcaaGreat

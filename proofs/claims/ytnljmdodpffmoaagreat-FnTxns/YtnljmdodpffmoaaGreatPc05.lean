/- Drawn rows of writes and of ranges; what DrawInRange, DrawTouches, DrawMeets, DrawRangeOk and DrawKeyOk make. -/
import Derived.Test.YtnljmdodpffmoaaGreatPc04
import Derived.Test.YtnljmdodpffmoaaGreatPc01
import Derived.WalkSpells
import Derived.WalkLawsBesides
import Derived.Deep.QuietTactic
import Derived.BigQuiet
import Derived.Deep.RegionHeld3
import Derived.Deep.DrawnRows
namespace Go.Proofs.YtnljmdodpffmoaaGreat
open Go.RowKit
open KM
attribute [local go_sem ↓] Go.wp_at_zero Go.wp_at_succ

theorem wpAppR {ops : Array Oper} {rest : List Oper} {o : Oper} {a : Act} {Q : Exit → Act → World → Prop} (hgd : o.guard = none) (s x : Operand) (ho : o.op = .call { callee := .builtin .append, args := #[s, x], argTypes := #[24, 24] })
  {W : World} {base : Nat} {v : Value} {xs : List Rg} (y : Rg) (hs : a.eval s = v) (hown : GOwn encR 36 W base v xs)
  (hx : a.eval x = .slice (some ⟨W.heap.size, 0, none⟩) 1 1) (hlen : xs.length ≤ 100000000) (hB : base ≤ W.heap.size)
  (h : ∀ v' w', GOwn encR 36 w' base v' (xs ++ [y]) → Below base W w' → wpList Tryz.prog ops Q rest (a.put o.dst v') w') :
  wpList Tryz.prog ops Q (o :: rest) a (W.alloc (.cells #[.string y.1, .string y.2] 36)) := by
 refine wpAppG 24 36 2 32 _ Tryz.underlying24 Tryz.info36 rfl (by omega) (by omega) hgd s x ho (encR.enc y) hs (World.ownsRow.alloc hown _) hx (heap_alloc_new W _) rfl rone (by omega) (by simp; omega) ?_
 intro g' cap w' h1 h2
 refine h _ w' ?_ (((Below.refl _ _).alloc hB _).trans h2)
 have e : encR.cells (xs ++ [y]) = encR.cells xs ++ encR.enc y := by rw [encR.cells_app]; simp [Enc.cells]
 unfold GOwn
 rw [e, List.length_append]
 exact h1

def RsD (xs : List Rg) : Prop := ∀ x ∈ xs, RgD x
theorem RsD.fit {xs : List Rg} (h : RsD xs) : RFit xs := fun x hx => ⟨by have := (h x hx).1.2; omega, by have := (h x hx).2.1.2; omega⟩

set_option maxRecDepth 100000 in
set_option maxHeartbeats 1000000 in
theorem drRanges (g len cap : Nat) (a : Option Addr) (w : World) (hc : CurI w g a len cap) :
  Calls Tryz.prog 37 #[.pointer (some ⟨g, 0, none⟩)] w fun e w' => ∃ (xs : List Rg) (a1 : Option Addr) (c1 : Nat), RsD xs ∧ xs.length ≤ 3 ∧ e = .returned (.slice a1 xs.length c1) ∧ GOwn encR 36 w' w.heap.size (.slice a1 xs.length c1) xs ∧ Dn w w' g a len cap := by
 have HC : Hid (CurI w g a len cap) := hc
 have hgl : g < w.heap.size := hc.lt
 clear hc
 go_enter Tryz.func37, Tryz.ntmps37
 go_wp2
 go_loopw [3, 4] (fun v t wr => ∃ (k : Nat) (xs : List Rg), k ≤ 3 ∧ t = .int .i64 k ∧ xs.length ≤ k ∧ Hid (RsD xs) ∧ Hid (GOwn encR 36 wr w.heap.size v xs) ∧ Hid (Dn w wr g a len cap)) (fun _ t _ => 4 - (intOf t).toNat)
 case atStart => exact ⟨0, [], by omega, rfl, Nat.le_refl _, fun x hx => by simp at hx, GOwn.empty _ _ (Nat.le_refl _), (Dn.start HC.out).alloc _⟩
 case round =>
  obtain ⟨k, xs, hk, rfl, hxl, HS, HO, HD⟩ := hrel
  go_wp2_with fail
  refine (drBelow g len cap a 4 (by omega) (by omega) _ HD.out.c).mono ?_
  rintro e w1 ⟨n, hn, rfl, d1⟩
  have D1 : Hid (Dn w w1 g a len cap) := HD.out.step d1
  have O1 := hide (HO.out.keptD d1 hgl)
  clear d1
  by_cases hlt : k < n
  ·have hlt' : (k : Int) < (n : Int) := by omega
   go_wp2_with fail
   refine (drRange g len cap a _ D1.out.c).mono ?_
   rintro e w2 ⟨x, hx, rfl, d2⟩
   have D2 : Hid (Dn w w2 g a len cap) := D1.out.step d2
   have O2 := hide (O1.out.keptD d2 hgl)
   have hs2 := D2.out.size
   have HS2 : Hid (RsD (xs ++ [x])) := fun y hy => by
    rcases List.mem_append.1 hy with hy | hy
    ·exact HS.out y hy
    ·rw [List.mem_singleton.1 hy]; exact hx
   clear d2 hx
   go_wp2_with (at_builtin; refine wpAppR rfl _ _ rfl x rfl O2.out rfl (by omega) hs2 ?_)
   intro v' w3 ho3 hb3
   have O3 : Hid (GOwn encR 36 w3 w.heap.size v' (xs ++ [x])) := ho3
   have D3 : Hid (Dn w w3 g a len cap) := D2.out.belowB hb3
   have hl2 : (xs ++ [x]).length ≤ k + 1 := by simp; omega
   clear ho3 hb3
   go_wp2
   go_roundw
   case rel => exact ⟨k + 1, _, by omega, by go_num, hl2, HS2, O3, D3⟩
   case measure => simp [intOf]; omega
  ·have hlt' : ¬ (k : Int) < (n : Int) := by omega
   obtain ⟨a1, c1, rfl, _⟩ := O1.out.row
   go_wp2
   go_ret
   exact ⟨xs, a1, c1, HS.out, by omega, rfl, O1.out, D1.out⟩

end Go.Proofs.YtnljmdodpffmoaaGreat

namespace Go.Proofs.YtnljmdodpffmoaaGreat
open Go.RowKit
open KM

structure Tx where
 id : Int
 st : Int
 snap : Int
 cs : Int
 rs : List Rg
 ws : List Wt
 out : Bool
 nm : ByteArray
def stateB (t : Tx) : Bool :=
 (decide (t.st = 1) && decide (t.cs = 0) && !t.out && t.nm.toList.isEmpty) ||
 (decide (t.st = 2) && decide (t.cs = 0) && keyB t.nm) ||
 (decide (t.st = 3) && decide (t.snap < t.cs) && decide (t.cs ≤ 9999) && t.nm.toList.isEmpty)
def readsB (rs : List Rg) : Bool := decide (rs.length ≤ 8) && rs.all rangeB
def txnB (t : Tx) : Bool := decide (1 ≤ t.id) && decide (t.id ≤ 9999) && decide (0 ≤ t.snap) && decide (t.snap ≤ 9999) && stateB t && readsB t.rs && writesB t.ws
def TFit (t : Tx) : Prop := t.rs.length ≤ 1048576 ∧ RFit t.rs ∧ t.ws.length ≤ 1048576 ∧ WFit t.ws ∧ t.nm.size ≤ 1048576
structure TRow (w : World) (t : Tx) (ra wa : Option Addr) : Prop where
 r : GRow encR w ra t.rs
 w : GRow encW w wa t.ws
theorem TRow.below {w w' : World} {t : Tx} {ra wa : Option Addr} (h : TRow w t ra wa) (hb : Below w.heap.size w w') : TRow w' t ra wa := ⟨h.r.below hb, h.w.below hb⟩
end Go.Proofs.YtnljmdodpffmoaaGreat

namespace Go.Proofs.YtnljmdodpffmoaaGreat
open Go.RowKit
open KM
attribute [local go_sem ↓] Go.wp_at_zero Go.wp_at_succ

set_option maxRecDepth 100000 in
set_option maxHeartbeats 1000000 in
theorem irange (f t : ByteArray) (w : World) : Calls Tryz.prog 41 #[.agg #[.string f, .string t]] w fun e w' => e = .returned (.bool (rangeB (f, t))) ∧ Below w.heap.size w w' := by
 cases hf : keyB f
 ·have K1 : Hid (∀ w, Calls Tryz.prog 85 #[.string f] w fun e w' => e = .returned (.bool false) ∧ w' = w) := fun w => hf ▸ ikey f w
  go_enter Tryz.func41, Tryz.ntmps41
  go_wp2_with (go_at_call 85; refine (K1.out _).mono ?_; rintro e w2 ⟨rfl, rfl⟩)
  go_ret
  exact ⟨ret_bool (by unfold rangeB; rw [hf]; rfl), (belowRefl w).alloc (Nat.le_refl _) _⟩
 ·have K1 : Hid (∀ w, Calls Tryz.prog 85 #[.string f] w fun e w' => e = .returned (.bool true) ∧ w' = w) := fun w => hf ▸ ikey f w
  cases ht : keyB t
  ·have K2 : Hid (∀ w, Calls Tryz.prog 85 #[.string t] w fun e w' => e = .returned (.bool false) ∧ w' = w) := fun w => ht ▸ ikey t w
   go_enter Tryz.func41, Tryz.ntmps41
   go_wp2_with fail
   refine (K1.out _).mono ?_
   rintro e w2 ⟨rfl, rfl⟩
   go_wp2_with fail
   refine (K2.out _).mono ?_
   rintro e w2 ⟨rfl, rfl⟩
   go_wp2
   go_ret
   exact ⟨ret_bool (by unfold rangeB; rw [hf, ht]; rfl), (belowRefl w).alloc (Nat.le_refl _) _⟩
  ·have K2 : Hid (∀ w, Calls Tryz.prog 85 #[.string t] w fun e w' => e = .returned (.bool true) ∧ w' = w) := fun w => ht ▸ ikey t w
   go_enter Tryz.func41, Tryz.ntmps41
   go_wp2_with fail
   refine (K1.out _).mono ?_
   rintro e w2 ⟨rfl, rfl⟩
   go_wp2_with fail
   refine (K2.out _).mono ?_
   rintro e w2 ⟨rfl, rfl⟩
   go_wp2
   go_ret
   exact ⟨ret_bool (by unfold rangeB; rw [hf, ht]; rfl), (belowRefl w).alloc (Nat.le_refl _) _⟩

set_option maxRecDepth 100000 in
set_option maxHeartbeats 1000000 in
theorem srange (f t : ByteArray) (hz : f.size ≤ 1048576) (hz2 : t.size ≤ 1048576) (w : World) : Calls Tryz.prog 45 #[.agg #[.string f, .string t]] w fun e w' => e = .returned (.bool (rangeB (f, t))) ∧ Below w.heap.size w w' := by
 cases hf : keyB f
 ·have K1 : Hid (∀ w, Calls Tryz.prog 60 #[.string f] w fun e w' => e = .returned (.bool false) ∧ w' = w) := fun w => hf ▸ skey f hz w
  go_enter Tryz.func45, Tryz.ntmps45
  go_wp2_with (go_at_call 60; refine (K1.out _).mono ?_; rintro e w2 ⟨rfl, rfl⟩)
  go_ret
  exact ⟨ret_bool (by unfold rangeB; rw [hf]; rfl), (belowRefl w).alloc (Nat.le_refl _) _⟩
 ·have K1 : Hid (∀ w, Calls Tryz.prog 60 #[.string f] w fun e w' => e = .returned (.bool true) ∧ w' = w) := fun w => hf ▸ skey f hz w
  cases ht : keyB t
  ·have K2 : Hid (∀ w, Calls Tryz.prog 60 #[.string t] w fun e w' => e = .returned (.bool false) ∧ w' = w) := fun w => ht ▸ skey t hz2 w
   go_enter Tryz.func45, Tryz.ntmps45
   go_wp2_with fail
   refine (K1.out _).mono ?_
   rintro e w2 ⟨rfl, rfl⟩
   go_wp2_with fail
   refine (K2.out _).mono ?_
   rintro e w2 ⟨rfl, rfl⟩
   go_wp2
   go_ret
   exact ⟨ret_bool (by unfold rangeB; rw [hf, ht]; rfl), (belowRefl w).alloc (Nat.le_refl _) _⟩
  ·have K2 : Hid (∀ w, Calls Tryz.prog 60 #[.string t] w fun e w' => e = .returned (.bool true) ∧ w' = w) := fun w => ht ▸ skey t hz2 w
   go_enter Tryz.func45, Tryz.ntmps45
   go_wp2_with fail
   refine (K1.out _).mono ?_
   rintro e w2 ⟨rfl, rfl⟩
   go_wp2_with fail
   refine (K2.out _).mono ?_
   rintro e w2 ⟨rfl, rfl⟩
   go_wp2
   go_ret
   exact ⟨ret_bool (by unfold rangeB; rw [hf, ht]; rfl), (belowRefl w).alloc (Nat.le_refl _) _⟩

set_option maxRecDepth 100000 in
set_option maxHeartbeats 1000000 in
theorem swrite (k v : ByteArray) (g : Bool) (hz : k.size ≤ 1048576) (w : World) : Calls Tryz.prog 49 #[.agg #[.string k, .string v, .bool g]] w fun e w' => e = .returned (.bool (writeB (k, v, g))) ∧ Below w.heap.size w w' := by
 cases hk : keyB k <;> cases g <;> cases he : v.toList.isEmpty <;> by_cases hs : v.size ≤ 12
 ·have K1 : Hid (∀ w, Calls Tryz.prog 60 #[.string k] w fun e w' => e = .returned (.bool false) ∧ w' = w) := fun w => hk ▸ skey k hz w
  have HN : Hid (writeB (k, v, false) = false) := by show _ = _; unfold writeB; simp [hk, he, hs]
  have hs' : decide ((v.size : Int) ≤ 12) = true := by simp; omega
  clear hs hk
  go_enter Tryz.func49, Tryz.ntmps49
  go_wp2_with (go_at_call 60; refine (K1.out _).mono ?_; rintro e w2 ⟨rfl, rfl⟩)
  go_ret
  exact ⟨ret_bool HN.out.symm, (belowRefl w).alloc (Nat.le_refl _) _⟩
 ·have K1 : Hid (∀ w, Calls Tryz.prog 60 #[.string k] w fun e w' => e = .returned (.bool false) ∧ w' = w) := fun w => hk ▸ skey k hz w
  have HN : Hid (writeB (k, v, false) = false) := by show _ = _; unfold writeB; simp [hk, he, hs]
  have hs' : decide ((v.size : Int) ≤ 12) = false := by simp; omega
  clear hs hk
  go_enter Tryz.func49, Tryz.ntmps49
  go_wp2_with (go_at_call 60; refine (K1.out _).mono ?_; rintro e w2 ⟨rfl, rfl⟩)
  go_ret
  exact ⟨ret_bool HN.out.symm, (belowRefl w).alloc (Nat.le_refl _) _⟩
 ·have K1 : Hid (∀ w, Calls Tryz.prog 60 #[.string k] w fun e w' => e = .returned (.bool false) ∧ w' = w) := fun w => hk ▸ skey k hz w
  have HN : Hid (writeB (k, v, false) = false) := by show _ = _; unfold writeB; simp [hk, he, hs]
  have hs' : decide ((v.size : Int) ≤ 12) = true := by simp; omega
  clear hs hk
  go_enter Tryz.func49, Tryz.ntmps49
  go_wp2_with (go_at_call 60; refine (K1.out _).mono ?_; rintro e w2 ⟨rfl, rfl⟩)
  go_ret
  exact ⟨ret_bool HN.out.symm, (belowRefl w).alloc (Nat.le_refl _) _⟩
 ·have K1 : Hid (∀ w, Calls Tryz.prog 60 #[.string k] w fun e w' => e = .returned (.bool false) ∧ w' = w) := fun w => hk ▸ skey k hz w
  have HN : Hid (writeB (k, v, false) = false) := by show _ = _; unfold writeB; simp [hk, he, hs]
  have hs' : decide ((v.size : Int) ≤ 12) = false := by simp; omega
  clear hs hk
  go_enter Tryz.func49, Tryz.ntmps49
  go_wp2_with (go_at_call 60; refine (K1.out _).mono ?_; rintro e w2 ⟨rfl, rfl⟩)
  go_ret
  exact ⟨ret_bool HN.out.symm, (belowRefl w).alloc (Nat.le_refl _) _⟩
 ·have K1 : Hid (∀ w, Calls Tryz.prog 60 #[.string k] w fun e w' => e = .returned (.bool false) ∧ w' = w) := fun w => hk ▸ skey k hz w
  have HN : Hid (writeB (k, v, true) = false) := by show _ = _; unfold writeB; simp [hk, he, hs]
  have hs' : decide ((v.size : Int) ≤ 12) = true := by simp; omega
  clear hs hk
  go_enter Tryz.func49, Tryz.ntmps49
  go_wp2_with (go_at_call 60; refine (K1.out _).mono ?_; rintro e w2 ⟨rfl, rfl⟩)
  go_ret
  exact ⟨ret_bool HN.out.symm, (belowRefl w).alloc (Nat.le_refl _) _⟩
 ·have K1 : Hid (∀ w, Calls Tryz.prog 60 #[.string k] w fun e w' => e = .returned (.bool false) ∧ w' = w) := fun w => hk ▸ skey k hz w
  have HN : Hid (writeB (k, v, true) = false) := by show _ = _; unfold writeB; simp [hk, he, hs]
  have hs' : decide ((v.size : Int) ≤ 12) = false := by simp; omega
  clear hs hk
  go_enter Tryz.func49, Tryz.ntmps49
  go_wp2_with (go_at_call 60; refine (K1.out _).mono ?_; rintro e w2 ⟨rfl, rfl⟩)
  go_ret
  exact ⟨ret_bool HN.out.symm, (belowRefl w).alloc (Nat.le_refl _) _⟩
 ·have K1 : Hid (∀ w, Calls Tryz.prog 60 #[.string k] w fun e w' => e = .returned (.bool false) ∧ w' = w) := fun w => hk ▸ skey k hz w
  have HN : Hid (writeB (k, v, true) = false) := by show _ = _; unfold writeB; simp [hk, he, hs]
  have hs' : decide ((v.size : Int) ≤ 12) = true := by simp; omega
  clear hs hk
  go_enter Tryz.func49, Tryz.ntmps49
  go_wp2_with (go_at_call 60; refine (K1.out _).mono ?_; rintro e w2 ⟨rfl, rfl⟩)
  go_ret
  exact ⟨ret_bool HN.out.symm, (belowRefl w).alloc (Nat.le_refl _) _⟩
 ·have K1 : Hid (∀ w, Calls Tryz.prog 60 #[.string k] w fun e w' => e = .returned (.bool false) ∧ w' = w) := fun w => hk ▸ skey k hz w
  have HN : Hid (writeB (k, v, true) = false) := by show _ = _; unfold writeB; simp [hk, he, hs]
  have hs' : decide ((v.size : Int) ≤ 12) = false := by simp; omega
  clear hs hk
  go_enter Tryz.func49, Tryz.ntmps49
  go_wp2_with (go_at_call 60; refine (K1.out _).mono ?_; rintro e w2 ⟨rfl, rfl⟩)
  go_ret
  exact ⟨ret_bool HN.out.symm, (belowRefl w).alloc (Nat.le_refl _) _⟩
 ·have K1 : Hid (∀ w, Calls Tryz.prog 60 #[.string k] w fun e w' => e = .returned (.bool true) ∧ w' = w) := fun w => hk ▸ skey k hz w
  have HN : Hid (writeB (k, v, false) = true) := by show _ = _; unfold writeB; simp [hk, he, hs]
  have hs' : decide ((v.size : Int) ≤ 12) = true := by simp; omega
  clear hs hk
  go_enter Tryz.func49, Tryz.ntmps49
  go_wp2_with (go_at_call 60; refine (K1.out _).mono ?_; rintro e w2 ⟨rfl, rfl⟩)
  go_ret
  exact ⟨ret_bool HN.out.symm, (belowRefl w).alloc (Nat.le_refl _) _⟩
 ·have K1 : Hid (∀ w, Calls Tryz.prog 60 #[.string k] w fun e w' => e = .returned (.bool true) ∧ w' = w) := fun w => hk ▸ skey k hz w
  have HN : Hid (writeB (k, v, false) = false) := by show _ = _; unfold writeB; simp [hk, he, hs]
  have hs' : decide ((v.size : Int) ≤ 12) = false := by simp; omega
  clear hs hk
  go_enter Tryz.func49, Tryz.ntmps49
  go_wp2_with (go_at_call 60; refine (K1.out _).mono ?_; rintro e w2 ⟨rfl, rfl⟩)
  go_ret
  exact ⟨ret_bool HN.out.symm, (belowRefl w).alloc (Nat.le_refl _) _⟩
 ·have K1 : Hid (∀ w, Calls Tryz.prog 60 #[.string k] w fun e w' => e = .returned (.bool true) ∧ w' = w) := fun w => hk ▸ skey k hz w
  have HN : Hid (writeB (k, v, false) = true) := by show _ = _; unfold writeB; simp [hk, he, hs]
  have hs' : decide ((v.size : Int) ≤ 12) = true := by simp; omega
  clear hs hk
  go_enter Tryz.func49, Tryz.ntmps49
  go_wp2_with (go_at_call 60; refine (K1.out _).mono ?_; rintro e w2 ⟨rfl, rfl⟩)
  go_ret
  exact ⟨ret_bool HN.out.symm, (belowRefl w).alloc (Nat.le_refl _) _⟩
 ·have K1 : Hid (∀ w, Calls Tryz.prog 60 #[.string k] w fun e w' => e = .returned (.bool true) ∧ w' = w) := fun w => hk ▸ skey k hz w
  have HN : Hid (writeB (k, v, false) = false) := by show _ = _; unfold writeB; simp [hk, he, hs]
  have hs' : decide ((v.size : Int) ≤ 12) = false := by simp; omega
  clear hs hk
  go_enter Tryz.func49, Tryz.ntmps49
  go_wp2_with (go_at_call 60; refine (K1.out _).mono ?_; rintro e w2 ⟨rfl, rfl⟩)
  go_ret
  exact ⟨ret_bool HN.out.symm, (belowRefl w).alloc (Nat.le_refl _) _⟩
 ·have K1 : Hid (∀ w, Calls Tryz.prog 60 #[.string k] w fun e w' => e = .returned (.bool true) ∧ w' = w) := fun w => hk ▸ skey k hz w
  have HN : Hid (writeB (k, v, true) = false) := by show _ = _; unfold writeB; simp [hk, he, hs]
  have hs' : decide ((v.size : Int) ≤ 12) = true := by simp; omega
  clear hs hk
  go_enter Tryz.func49, Tryz.ntmps49
  go_wp2_with (go_at_call 60; refine (K1.out _).mono ?_; rintro e w2 ⟨rfl, rfl⟩)
  go_ret
  exact ⟨ret_bool HN.out.symm, (belowRefl w).alloc (Nat.le_refl _) _⟩
 ·have K1 : Hid (∀ w, Calls Tryz.prog 60 #[.string k] w fun e w' => e = .returned (.bool true) ∧ w' = w) := fun w => hk ▸ skey k hz w
  have HN : Hid (writeB (k, v, true) = false) := by show _ = _; unfold writeB; simp [hk, he, hs]
  have hs' : decide ((v.size : Int) ≤ 12) = false := by simp; omega
  clear hs hk
  go_enter Tryz.func49, Tryz.ntmps49
  go_wp2_with (go_at_call 60; refine (K1.out _).mono ?_; rintro e w2 ⟨rfl, rfl⟩)
  go_ret
  exact ⟨ret_bool HN.out.symm, (belowRefl w).alloc (Nat.le_refl _) _⟩
 ·have K1 : Hid (∀ w, Calls Tryz.prog 60 #[.string k] w fun e w' => e = .returned (.bool true) ∧ w' = w) := fun w => hk ▸ skey k hz w
  have HN : Hid (writeB (k, v, true) = true) := by show _ = _; unfold writeB; simp [hk, he, hs]
  have hs' : decide ((v.size : Int) ≤ 12) = true := by simp; omega
  clear hs hk
  go_enter Tryz.func49, Tryz.ntmps49
  go_wp2_with (go_at_call 60; refine (K1.out _).mono ?_; rintro e w2 ⟨rfl, rfl⟩)
  go_ret
  exact ⟨ret_bool HN.out.symm, (belowRefl w).alloc (Nat.le_refl _) _⟩
 ·have K1 : Hid (∀ w, Calls Tryz.prog 60 #[.string k] w fun e w' => e = .returned (.bool true) ∧ w' = w) := fun w => hk ▸ skey k hz w
  have HN : Hid (writeB (k, v, true) = false) := by show _ = _; unfold writeB; simp [hk, he, hs]
  have hs' : decide ((v.size : Int) ≤ 12) = false := by simp; omega
  clear hs hk
  go_enter Tryz.func49, Tryz.ntmps49
  go_wp2_with (go_at_call 60; refine (K1.out _).mono ?_; rintro e w2 ⟨rfl, rfl⟩)
  go_ret
  exact ⟨ret_bool HN.out.symm, (belowRefl w).alloc (Nat.le_refl _) _⟩
end Go.Proofs.YtnljmdodpffmoaaGreat

namespace Go.Proofs.YtnljmdodpffmoaaGreat
open Go.RowKit
open KM
attribute [local go_sem ↓] Go.wp_at_zero Go.wp_at_succ

set_option maxRecDepth 100000 in
set_option maxHeartbeats 2000000 in
theorem istate (t : Tx) (ra wa : Option Addr) (rc wc : Nat) (w : World) : Calls Tryz.prog 61 #[.agg #[.int .i64 t.id, .int .i64 t.st, .int .i64 t.snap, .int .i64 t.cs, .slice ra t.rs.length rc, .slice wa t.ws.length wc, .bool t.out, .string t.nm]] w fun e w' => e = .returned (.bool (stateB t)) ∧ Below w.heap.size w w' := by
 by_cases s1 : t.st = 1
 ·have s1' : (t.st == 1) = true := by simp [s1]
  by_cases c0 : t.cs = 0
  ·have c0' : (t.cs == 0) = true := by simp [c0]
   cases ho : t.out
   ·cases he : t.nm.toList.isEmpty
    ·have HN : Hid (stateB t = false) := by show _ = _; unfold stateB; simp [s1, c0, ho, he]
     clear s1 c0
     go_enter Tryz.func61, Tryz.ntmps61
     go_wp2
     go_ret
     exact ⟨ret_bool HN.out.symm, (belowRefl w).alloc (Nat.le_refl _) _⟩
    ·have HN : Hid (stateB t = true) := by show _ = _; unfold stateB; simp [s1, c0, ho, he]
     clear s1 c0
     go_enter Tryz.func61, Tryz.ntmps61
     go_wp2
     go_ret
     exact ⟨ret_bool HN.out.symm, (belowRefl w).alloc (Nat.le_refl _) _⟩
   ·have HN : Hid (stateB t = false) := by show _ = _; unfold stateB; simp [s1, c0, ho]
    clear s1 c0
    go_enter Tryz.func61, Tryz.ntmps61
    go_wp2
    go_ret
    exact ⟨ret_bool HN.out.symm, (belowRefl w).alloc (Nat.le_refl _) _⟩
  ·have c0' : (t.cs == 0) = false := by simp [c0]
   have HN : Hid (stateB t = false) := by show _ = _; unfold stateB; simp [s1, c0]
   clear s1 c0
   go_enter Tryz.func61, Tryz.ntmps61
   go_wp2
   go_ret
   exact ⟨ret_bool HN.out.symm, (belowRefl w).alloc (Nat.le_refl _) _⟩
 have s1' : (t.st == 1) = false := by simp [s1]
 by_cases s2 : t.st = 2
 ·have s2' : (t.st == 2) = true := by simp [s2]
  by_cases c0 : t.cs = 0
  ·have c0' : (t.cs == 0) = true := by simp [c0]
   cases hk : keyB t.nm
   ·have K1 : Hid (∀ w, Calls Tryz.prog 85 #[.string t.nm] w fun e w' => e = .returned (.bool false) ∧ w' = w) := fun w => hk ▸ ikey t.nm w
    have HN : Hid (stateB t = false) := by show _ = _; unfold stateB; simp [s2, c0, hk]
    clear s1 s2 c0 hk
    go_enter Tryz.func61, Tryz.ntmps61
    go_wp2_with (go_at_call 85; refine (K1.out _).mono ?_; rintro e w2 ⟨rfl, rfl⟩)
    go_ret
    exact ⟨ret_bool HN.out.symm, (belowRefl w).alloc (Nat.le_refl _) _⟩
   ·have K1 : Hid (∀ w, Calls Tryz.prog 85 #[.string t.nm] w fun e w' => e = .returned (.bool true) ∧ w' = w) := fun w => hk ▸ ikey t.nm w
    have HN : Hid (stateB t = true) := by show _ = _; unfold stateB; simp [s2, c0, hk]
    clear s1 s2 c0 hk
    go_enter Tryz.func61, Tryz.ntmps61
    go_wp2_with (go_at_call 85; refine (K1.out _).mono ?_; rintro e w2 ⟨rfl, rfl⟩)
    go_ret
    exact ⟨ret_bool HN.out.symm, (belowRefl w).alloc (Nat.le_refl _) _⟩
  ·have c0' : (t.cs == 0) = false := by simp [c0]
   have HN : Hid (stateB t = false) := by show _ = _; unfold stateB; simp [s2, c0]
   clear s1 s2 c0
   go_enter Tryz.func61, Tryz.ntmps61
   go_wp2
   go_ret
   exact ⟨ret_bool HN.out.symm, (belowRefl w).alloc (Nat.le_refl _) _⟩
 have s2' : (t.st == 2) = false := by simp [s2]
 by_cases s3 : t.st = 3
 ·have s3' : (t.st == 3) = true := by simp [s3]
  by_cases c1 : t.snap < t.cs
  ·by_cases c2 : t.cs ≤ 9999
   ·cases he : t.nm.toList.isEmpty
    ·have HN : Hid (stateB t = false) := by show _ = _; unfold stateB; simp [s3, c1, c2, he]
     clear s1 s2 s3
     go_enter Tryz.func61, Tryz.ntmps61
     go_wp2
     go_ret
     exact ⟨ret_bool HN.out.symm, (belowRefl w).alloc (Nat.le_refl _) _⟩
    ·have HN : Hid (stateB t = true) := by show _ = _; unfold stateB; simp [s3, c1, c2, he]
     clear s1 s2 s3
     go_enter Tryz.func61, Tryz.ntmps61
     go_wp2
     go_ret
     exact ⟨ret_bool HN.out.symm, (belowRefl w).alloc (Nat.le_refl _) _⟩
   ·have HN : Hid (stateB t = false) := by show _ = _; unfold stateB; simp [s3, c2]
    clear s1 s2 s3
    go_enter Tryz.func61, Tryz.ntmps61
    go_wp2
    go_ret
    exact ⟨ret_bool HN.out.symm, (belowRefl w).alloc (Nat.le_refl _) _⟩
  ·have HN : Hid (stateB t = false) := by show _ = _; unfold stateB; simp [s3, c1]
   clear s1 s2 s3
   go_enter Tryz.func61, Tryz.ntmps61
   go_wp2
   go_ret
   exact ⟨ret_bool HN.out.symm, (belowRefl w).alloc (Nat.le_refl _) _⟩
 have s3' : (t.st == 3) = false := by simp [s3]
 have HN : Hid (stateB t = false) := by show _ = _; unfold stateB; simp [s1, s2, s3]
 clear s1 s2 s3
 go_enter Tryz.func61, Tryz.ntmps61
 go_wp2
 go_ret
 exact ⟨ret_bool HN.out.symm, (belowRefl w).alloc (Nat.le_refl _) _⟩

def GoodR (rs : List Rg) (k : Nat) : Prop := ∀ j (h : j < rs.length), j < k → rangeB rs[j] = true
theorem goodR_all {rs : List Rg} {k : Nat} (h : GoodR rs k) (hk : rs.length ≤ k) (h8 : rs.length ≤ 8) : readsB rs = true := by
 unfold readsB
 simp only [Bool.and_eq_true, decide_eq_true_eq, List.all_eq_true]
 exact ⟨h8, fun x hx => by obtain ⟨j, hj, rfl⟩ := List.getElem_of_mem hx; exact h j hj (by omega)⟩
theorem goodR_no {rs : List Rg} (k : Nat) (hk : k < rs.length) (h : rangeB rs[k] = false) : readsB rs = false := by
 cases e : readsB rs with
 | false => rfl
 | true =>
  unfold readsB at e
  simp only [Bool.and_eq_true, decide_eq_true_eq, List.all_eq_true] at e
  rw [e.2 _ (List.getElem_mem hk)] at h; cases h
theorem goodR_len {rs : List Rg} (h8 : ¬ rs.length ≤ 8) : readsB rs = false := by unfold readsB; simp [h8]
theorem goodR_more {rs : List Rg} {k : Nat} (hg : GoodR rs k) (hk : k < rs.length) (h : rangeB rs[k] = true) : GoodR rs (k + 1) := fun j hj h2 => by
 by_cases e : j = k
 ·subst e; exact h
 ·exact hg j hj (by omega)

set_option maxRecDepth 100000 in
set_option maxHeartbeats 2000000 in
theorem ireads (rs : List Rg) (a : Option Addr) (c : Nat) (hn : rs.length ≤ 100000000) (w : World) (hp : GRow encR w a rs) :
  Calls Tryz.prog 62 #[.slice a rs.length c] w fun e w' => e = .returned (.bool (readsB rs)) ∧ Below w.heap.size w w' := by
 have HP : Hid (GRow encR w a rs) := hp
 clear hp
 by_cases h8 : rs.length ≤ 8
 ·have h8' : ¬ (8 : Int) < (rs.length : Int) := by omega
  go_enter Tryz.func62, Tryz.ntmps62
  go_wp2
  go_loopw [10] (fun t wr => ∃ k : Nat, k ≤ rs.length ∧ t = .int .i64 k ∧ Hid (GoodR rs k) ∧ Hid (Below w.heap.size w wr)) (fun t _ => rs.length - (intOf t).toNat)
  case atStart => exact ⟨0, Nat.zero_le _, rfl, fun j _ h => by omega, Below.refl _ _⟩
  case round =>
   obtain ⟨k, hk, rfl, HG, HB⟩ := hrel
   by_cases hlt : k < rs.length
   ·have hlt' : (k : Int) < (rs.length : Int) := by omega
    have h0 : (0 : Int) ≤ (k : Int) := by omega
    obtain ⟨b, off, rfl, hl, q⟩ := (HP.out.below HB.out) (by omega)
    have r0 := ((rat q) k hlt).1
    have r1 := ((rat q) k hlt).2
    clear q
    cases hv : rangeB rs[k]
    ·have K1 : Hid (∀ w, Calls Tryz.prog 41 #[.agg #[.string rs[k].1, .string rs[k].2]] w fun e w' => e = .returned (.bool false) ∧ Below w.heap.size w w') := fun w => hv ▸ irange rs[k].1 rs[k].2 w
     have HN : Hid (readsB rs = false) := goodR_no k hlt hv
     clear hv
     go_wp2_with fail
     refine (K1.out _).mono ?_
     rintro e w2 ⟨rfl, hb2⟩
     have HB2 : Hid (Below w.heap.size w w2) := (HB.out.alloc HB.out.size _).trans (hb2.mono (Nat.le_trans HB.out.size (by simp)))
     clear hb2
     go_wp2
     go_ret
     exact ⟨ret_bool HN.out.symm, HB2.out⟩
    ·have K1 : Hid (∀ w, Calls Tryz.prog 41 #[.agg #[.string rs[k].1, .string rs[k].2]] w fun e w' => e = .returned (.bool true) ∧ Below w.heap.size w w') := fun w => hv ▸ irange rs[k].1 rs[k].2 w
     have HG2 : Hid (GoodR rs (k + 1)) := goodR_more HG.out hlt hv
     clear hv
     go_wp2_with fail
     refine (K1.out _).mono ?_
     rintro e w2 ⟨rfl, hb2⟩
     have HB2 : Hid (Below w.heap.size w w2) := (HB.out.alloc HB.out.size _).trans (hb2.mono (Nat.le_trans HB.out.size (by simp)))
     clear hb2
     go_wp2
     go_roundw
     case rel => exact ⟨k + 1, by omega, by go_num, HG2, HB2⟩
     case measure => simp [intOf]; omega
   ·have hlt' : ¬ (k : Int) < (rs.length : Int) := by omega
    have HN : Hid (readsB rs = true) := goodR_all HG.out (by omega) h8
    go_wp2
    go_ret
    exact ⟨ret_bool HN.out.symm, HB.out⟩
 ·have h8' : (8 : Int) < (rs.length : Int) := by omega
  have HN : Hid (readsB rs = false) := goodR_len h8
  go_enter Tryz.func62, Tryz.ntmps62
  go_wp2
  go_ret
  exact ⟨ret_bool HN.out.symm, belowRefl w⟩
end Go.Proofs.YtnljmdodpffmoaaGreat

namespace Go.Proofs.YtnljmdodpffmoaaGreat
open Go.RowKit
open KM
attribute [local go_sem ↓] Go.wp_at_zero Go.wp_at_succ

end Go.Proofs.YtnljmdodpffmoaaGreat

namespace Go.Proofs.YtnljmdodpffmoaaGreat
open Go.RowKit
open KM
attribute [local go_sem ↓] Go.wp_at_zero Go.wp_at_succ

end Go.Proofs.YtnljmdodpffmoaaGreat

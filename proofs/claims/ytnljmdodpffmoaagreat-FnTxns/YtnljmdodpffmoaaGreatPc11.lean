/- What spec.l07Copy and impl.openOk return. -/
import Derived.Test.YtnljmdodpffmoaaGreatPc08
import Derived.Test.YtnljmdodpffmoaaGreatPc10
import Derived.Lib.ItoaNum
import Derived.Test.YtnljmdodpffmoaaGreatPc02
import Derived.Lib.ItoaLen
import Derived.WalkKit
import Derived.WalkSpells
import Derived.WalkLawsBesides
import Derived.Test.YtnljmdodpffmoaaGreatPc05
import Derived.Test.YtnljmdodpffmoaaGreatPc09
import Derived.Deep.RegionHeld3
namespace Go.Proofs.YtnljmdodpffmoaaGreat
open Go.RowKit
open KM
open VM
attribute [local go_sem ↓] Go.wp_at_zero Go.wp_at_succ

theorem wpAppRowR {ops : Array Oper} {rest : List Oper} {o : Oper} {a : Act} {Q : Exit → Act → World → Prop} (hgd : o.guard = none) (s x : Operand) (ho : o.op = .call { callee := .builtin .append, args := #[s, x], argTypes := #[24, 24] })
  {W : World} {base m c : Nat} {ao : Option Addr} {v : Value} {ys zs : List Rg} (hs : a.eval s = v) (hown : GOwn encR 36 W base v ys) (hx : a.eval x = .slice ao m c)
  (hsrc : (ao = none ∧ m = 0 ∧ c = 0) ∨ ∃ ad, ao = some ad ∧ ∀ j u, (encR.cells zs)[j]? = some u → W.cell? (ad.add j) = some u) (hm : zs.length = m) (hlen : ys.length + zs.length ≤ 100000000) (hB : base ≤ W.heap.size) (hne : v ≠ .slice none 0 0)
  (h : ∀ g' cap L w', L = (ys ++ zs).length → GOwn encR 36 w' base (.slice (some ⟨g', 0, none⟩) L cap) (ys ++ zs) → Below base W w' → wpList Tryz.prog ops Q rest (a.put o.dst (.slice (some ⟨g', 0, none⟩) L cap)) w') :
  wpList Tryz.prog ops Q (o :: rest) a W := by
 obtain ⟨i0, hi, hz0, hz1, hz2⟩ := info_parts Tryz.info36
 have hone : ∀ u ∈ encR.cells zs, u.oneCell' = true := fun u hu => by
  unfold Enc.cells at hu
  obtain ⟨y, _, hy⟩ := List.mem_flatMap.1 hu
  exact oneP u hy
 have key : ∃ v' w', (Builtin.append_ #[24, 24] o.type #[v, .slice ao m c]).run Tryz.prog W = .ok v' w' ∧ w'.ownsRow base 36 2 v' (ys ++ zs).length (encR.cells (ys ++ zs)) ∧ W.grownBy w' v.ownBlock ∧ v' ≠ .slice none 0 0 := by
  rw [encR.cells_app, List.length_append]
  rcases hsrc with ⟨rfl, rfl, rfl⟩ | ⟨ad, rfl, hc⟩
  ·obtain rfl : zs = [] := List.length_eq_zero_iff.1 hm
   refine ⟨v, W, run_append_owned_none (P := Tryz.prog) W base 24 o.type 36 i0 2 Tryz.underlying24 hi v _ _ hown, ?_, ⟨rfl, rfl, rfl, Nat.le_refl _, fun _ _ _ => rfl⟩, hne⟩
   have e : encR.cells ([] : List Rg) = [] := rfl
   rw [e, List.append_nil]
   exact hown
  ·obtain ⟨v', w', hr, q1, q2, q3⟩ := run_append_own (P := Tryz.prog) W base 24 o.type 36 i0 _ 2 32 Tryz.underlying24 hi hz0 hz1 hz2 rfl (by omega) v ys.length (encR.cells ys) hown ad m c (encR.cells zs) (by rw [encR.cells_len, hm]; rfl) hc hone (by unfold maxLen; omega) (by omega) hB
   refine ⟨v', w', hr, by rw [hm]; exact q1, q2, fun e => hne (q3.1 e).1⟩
 obtain ⟨v', w', hr, q1, q2, q3⟩ := key
 have hb : Below base W w' := (Below.refl _ _).grown q2 hB (fun j hj => (World.ownsRow.lt hown j hj).1)
 rcases q1.2 with ⟨hv, _⟩ | ⟨g', cap, cur, hv, _⟩
 ·exact absurd hv q3
 ·subst hv
  refine wpList_plain hgd fun K hK => ?_
  unfold Oper.wp execOp
  simp only [ho, resolve, invoke, builtin, Sem.run_bind, Sem.run_pure, Result.andThen_ok, List.map_toArray, List.map_cons, List.map_nil, hs, hx, hr]
  exact hK _ _ (h g' cap _ w' rfl q1 hb)

theorem wpAppRowW {ops : Array Oper} {rest : List Oper} {o : Oper} {a : Act} {Q : Exit → Act → World → Prop} (hgd : o.guard = none) (s x : Operand) (ho : o.op = .call { callee := .builtin .append, args := #[s, x], argTypes := #[25, 25] })
  {W : World} {base m c : Nat} {ao : Option Addr} {v : Value} {ys zs : List Wt} (hs : a.eval s = v) (hown : GOwn encW 42 W base v ys) (hx : a.eval x = .slice ao m c)
  (hsrc : (ao = none ∧ m = 0 ∧ c = 0) ∨ ∃ ad, ao = some ad ∧ ∀ j u, (encW.cells zs)[j]? = some u → W.cell? (ad.add j) = some u) (hm : zs.length = m) (hlen : ys.length + zs.length ≤ 100000000) (hB : base ≤ W.heap.size) (hne : v ≠ .slice none 0 0)
  (h : ∀ g' cap L w', L = (ys ++ zs).length → GOwn encW 42 w' base (.slice (some ⟨g', 0, none⟩) L cap) (ys ++ zs) → Below base W w' → wpList Tryz.prog ops Q rest (a.put o.dst (.slice (some ⟨g', 0, none⟩) L cap)) w') :
  wpList Tryz.prog ops Q (o :: rest) a W := by
 obtain ⟨i0, hi, hz0, hz1, hz2⟩ := info_parts Tryz.info42
 have hone : ∀ u ∈ encW.cells zs, u.oneCell' = true := fun u hu => by
  unfold Enc.cells at hu
  obtain ⟨y, _, hy⟩ := List.mem_flatMap.1 hu
  exact wone u hy
 have key : ∃ v' w', (Builtin.append_ #[25, 25] o.type #[v, .slice ao m c]).run Tryz.prog W = .ok v' w' ∧ w'.ownsRow base 42 3 v' (ys ++ zs).length (encW.cells (ys ++ zs)) ∧ W.grownBy w' v.ownBlock ∧ v' ≠ .slice none 0 0 := by
  rw [encW.cells_app, List.length_append]
  rcases hsrc with ⟨rfl, rfl, rfl⟩ | ⟨ad, rfl, hc⟩
  ·obtain rfl : zs = [] := List.length_eq_zero_iff.1 hm
   refine ⟨v, W, run_append_owned_none (P := Tryz.prog) W base 25 o.type 42 i0 3 Tryz.underlying25 hi v _ _ hown, ?_, ⟨rfl, rfl, rfl, Nat.le_refl _, fun _ _ _ => rfl⟩, hne⟩
   have e : encW.cells ([] : List Wt) = [] := rfl
   rw [e, List.append_nil]
   exact hown
  ·obtain ⟨v', w', hr, q1, q2, q3⟩ := run_append_own (P := Tryz.prog) W base 25 o.type 42 i0 _ 3 40 Tryz.underlying25 hi hz0 hz1 hz2 rfl (by omega) v ys.length (encW.cells ys) hown ad m c (encW.cells zs) (by rw [encW.cells_len, hm]; rfl) hc hone (by unfold maxLen; omega) (by omega) hB
   refine ⟨v', w', hr, by rw [hm]; exact q1, q2, fun e => hne (q3.1 e).1⟩
 obtain ⟨v', w', hr, q1, q2, q3⟩ := key
 have hb : Below base W w' := (Below.refl _ _).grown q2 hB (fun j hj => (World.ownsRow.lt hown j hj).1)
 rcases q1.2 with ⟨hv, _⟩ | ⟨g', cap, cur, hv, _⟩
 ·exact absurd hv q3
 ·subst hv
  refine wpList_plain hgd fun K hK => ?_
  unfold Oper.wp execOp
  simp only [ho, resolve, invoke, builtin, Sem.run_bind, Sem.run_pure, Result.andThen_ok, List.map_toArray, List.map_cons, List.map_nil, hs, hx, hr]
  exact hK _ _ (h g' cap _ w' rfl q1 hb)

theorem gshape {α : Type} {E : Enc α} {e : TypeId} {W : World} {base : Nat} {v : Value} {l : List α} (h : GOwn E e W base v l) : v = .slice none 0 0 ∧ l = [] ∨ ∃ g cap, v = .slice (some ⟨g, 0, none⟩) l.length cap := by
 rcases h.2 with ⟨rfl, h0⟩ | ⟨g, cap, cur, rfl, _, _, hnc, _⟩
 ·exact Or.inl ⟨rfl, List.length_eq_zero_iff.1 h0⟩
 ·exact Or.inr ⟨g, cap, rfl⟩
theorem Lies.low {α : Type} {E : Enc α} {e : TypeId} {w w' : World} {lo hi B : Nat} {v : Value} {xs : List α} (h : Lies E e w lo hi v xs) (hb : Below B w w') (hB : hi ≤ B := by first | exact Nat.le_refl _ | omega) : Lies E e w' lo hi v xs := by
 refine ⟨?_, h.up⟩
 obtain ⟨h1, h2⟩ := h.own
 refine ⟨h1, ?_⟩
 rcases h2 with h2 | ⟨g, cap, cur, hv, hg', hh, r⟩
 ·exact Or.inl h2
 ·refine Or.inr ⟨g, cap, cur, hv, hg', ?_, r⟩
  have hup := h.up g (by rw [hv]; rfl)
  rw [hb.block g (by omega)]
  exact hh
theorem gsrc {α : Type} {E : Enc α} {e : TypeId} {W : World} {base c : Nat} {a : Option Addr} {l : List α} (h : GOwn E e W base (.slice a l.length c) l) : (a = none ∧ l.length = 0 ∧ c = 0) ∨ ∃ ad, a = some ad ∧ ∀ j u, (E.cells l)[j]? = some u → W.cell? (ad.add j) = some u := by
 rcases gshape h with ⟨e1, e2⟩ | ⟨g, cap, e1⟩
 ·subst e2
  cases e1
  exact Or.inl ⟨rfl, rfl, rfl⟩
 ·cases e1
  refine Or.inr ⟨_, rfl, fun j u hj => ?_⟩
  have hjl : j < l.length * E.size := by
   have := (List.getElem?_eq_some_iff.1 hj).1
   rw [E.cells_len] at this; exact this
  rw [Addr.add_lit, Nat.zero_add, World.ownsRow.cellAt h j hjl]
  exact hj

set_option maxRecDepth 100000 in
set_option maxHeartbeats 2000000 in
theorem iopen (t : Tx) (ra wa : Option Addr) (rc wc : Nat) (hr : t.rs.length ≤ 100000000) (hw : t.ws.length ≤ 100000000) (w : World) (hp : TRow w t ra wa) : Calls Tryz.prog 40 #[.agg #[.int .i64 t.id, .int .i64 t.st, .int .i64 t.snap, .int .i64 t.cs, .slice ra t.rs.length rc, .slice wa t.ws.length wc, .bool t.out, .string t.nm]] w fun e w' => e = .returned (.bool (decide (t.st = 1) && txnB t)) ∧ Below w.heap.size w w' := by
 have HB0 : Hid (Below w.heap.size w (w.alloc (.cells #[.int .i64 t.id, .int .i64 t.st, .int .i64 t.snap, .int .i64 t.cs, .slice ra t.rs.length rc, .slice wa t.ws.length wc, .bool t.out, .string t.nm] 27))) := (belowRefl w).alloc (Nat.le_refl _) _
 have HP : Hid (TRow w t ra wa) := hp
 clear hp
 by_cases s1 : t.st = 1
 ·have s1' : (t.st == 1) = true := by simp [s1]
  have HN : Hid ((decide (t.st = 1) && txnB t) = txnB t) := by show _ = _; rw [show decide (t.st = 1) = true by simp [s1]]; rfl
  clear s1
  go_enter Tryz.func40, Tryz.ntmps40
  go_wp2_with (go_at_call 20; refine (itxn t ra wa rc wc hr hw _ (HP.out.below HB0.out)).mono ?_; rintro e w2 ⟨rfl, hb2⟩)
  go_ret
  exact ⟨ret_bool HN.out.symm, HB0.out.trans (hb2.mono HB0.out.size)⟩
 ·have s1' : (t.st == 1) = false := by simp [s1]
  have HN : Hid ((decide (t.st = 1) && txnB t) = false) := by show _ = _; rw [show decide (t.st = 1) = false by simp [s1]]; rfl
  clear s1
  go_enter Tryz.func40, Tryz.ntmps40
  go_wp2
  go_ret
  exact ⟨ret_bool HN.out.symm, HB0.out⟩
end Go.Proofs.YtnljmdodpffmoaaGreat

namespace Go.Proofs.YtnljmdodpffmoaaGreat
namespace WM

def varF : Nat → Nat → List UInt8
 | 0, n => [UInt8.ofNat n]
 | f + 1, n => if 127 < n then UInt8.ofNat (n % 128 + 128) :: varF f (n / 128) else [UInt8.ofNat n]

def varL (n : Nat) : List UInt8 := varF n n

theorem varF_eq : ∀ f n, n ≤ f → ∀ g, n ≤ g → varF f n = varF g n := by
 intro f
 induction f with
 | zero =>
  intro n hn g hg
  obtain rfl : n = 0 := by omega
  cases g <;> simp [varF]
 | succ f ih =>
  intro n hn g hg
  cases g with
  | zero =>
   obtain rfl : n = 0 := by omega
   simp [varF]
  | succ g =>
   simp only [varF]
   by_cases h : 127 < n
   ·rw [if_pos h, if_pos h, ih (n / 128) (by omega) g (by omega)]
   ·rw [if_neg h, if_neg h]

theorem varL_big (n : Nat) (h : 127 < n) : varL n = UInt8.ofNat (n % 128 + 128) :: varL (n / 128) := by
 unfold varL
 cases n with
 | zero => omega
 | succ m =>
  rw [varF, if_pos h, varF_eq m ((m + 1) / 128) (by omega) ((m + 1) / 128) (Nat.le_refl _)]

theorem varL_small (n : Nat) (h : n ≤ 127) : varL n = [UInt8.ofNat n] := by
 unfold varL
 cases n with
 | zero => rfl
 | succ m => rw [varF, if_neg (by omega)]

theorem varL_pos (n : Nat) : 1 ≤ (varL n).length := by
 by_cases h : 127 < n
 ·rw [varL_big n h]; simp
 ·rw [varL_small n (by omega)]; simp

theorem varL_len5 (n : Nat) (h : n < 34359738368) : (varL n).length ≤ 5 := by
 have step : ∀ k m, m < k * 128 → (∀ j, j < k → (varL j).length ≤ 4) → (varL m).length ≤ 5 := by
  intro k m hm hj
  by_cases h : 127 < m
  ·rw [varL_big m h]; simp; exact hj _ (by omega)
  ·rw [varL_small m (by omega)]; simp
 have s1 : ∀ m, m < 128 → (varL m).length ≤ 1 := fun m hm => by rw [varL_small m (by omega)]; simp
 have s2 : ∀ m, m < 16384 → (varL m).length ≤ 2 := fun m hm => by
  by_cases h : 127 < m
  ·rw [varL_big m h]; have := s1 (m / 128) (by omega); simp; omega
  ·have := s1 m (by omega); omega
 have s3 : ∀ m, m < 2097152 → (varL m).length ≤ 3 := fun m hm => by
  by_cases h : 127 < m
  ·rw [varL_big m h]; have := s2 (m / 128) (by omega); simp; omega
  ·have := s1 m (by omega); omega
 have s4 : ∀ m, m < 268435456 → (varL m).length ≤ 4 := fun m hm => by
  by_cases h : 127 < m
  ·rw [varL_big m h]; have := s3 (m / 128) (by omega); simp; omega
  ·have := s1 m (by omega); omega
 exact step 268435456 n h s4

def val : List UInt8 → Nat
 | [] => 0
 | b :: t => b.toNat % 128 + 128 * val t

theorem val_snoc (l : List UInt8) (b : UInt8) : val (l ++ [b]) = val l + b.toNat % 128 * 128 ^ l.length := by
 induction l with
 | nil => simp [val]
 | cons c t ih =>
  simp only [List.cons_append, val, ih, List.length_cons, Nat.pow_succ]
  rw [Nat.mul_add, Nat.mul_comm (128 ^ t.length) 128, ← Nat.mul_assoc, Nat.mul_comm 128 (b.toNat % 128), ← Nat.mul_assoc]
  omega

theorem ofNat_high (c : UInt8) (h : 128 ≤ c.toNat) : UInt8.ofNat (c.toNat % 128 + 128) = c := by
 apply UInt8.toNat_inj.1
 have := c.toNat_lt
 simp only [UInt8.toNat_ofNat']
 omega

theorem var_val : ∀ (pre : List UInt8) (b : UInt8), (∀ c ∈ pre, 128 ≤ c.toNat) → b.toNat < 128 →
  (varL (val (pre ++ [b])) = pre ++ [b] ↔ ¬ (b.toNat = 0 ∧ 0 < pre.length)) := by
 intro pre
 induction pre with
 | nil =>
  intro b _ hb
  have e : val ([] ++ [b]) = b.toNat := by simp [val]; omega
  rw [e, varL_small _ (by omega)]
  simp
 | cons c p ih =>
  intro b hc hb
  have hcc := hc c (by simp)
  have ih' := ih b (fun d hd => hc d (by simp [hd])) hb
  have hclt := c.toNat_lt
  have e : val ((c :: p) ++ [b]) = c.toNat % 128 + 128 * val (p ++ [b]) := by simp [val]
  rw [e]
  by_cases hm : val (p ++ [b]) = 0
  ·rw [hm, varL_small _ (by omega)]
   have hb0 : b.toNat = 0 := by
    rw [val_snoc] at hm
    have hp : 0 < 128 ^ p.length := Nat.pow_pos (by omega)
    have : b.toNat % 128 * 128 ^ p.length = 0 := by omega
    rcases Nat.mul_eq_zero.1 this with h | h
    ·omega
    ·omega
   constructor
   ·intro h
    have := congrArg List.length h
    simp at this
   ·intro h; exact absurd ⟨hb0, by simp⟩ h
  ·rw [varL_big _ (by omega)]
   have e1 : (c.toNat % 128 + 128 * val (p ++ [b])) % 128 = c.toNat % 128 := by omega
   have e2 : (c.toNat % 128 + 128 * val (p ++ [b])) / 128 = val (p ++ [b]) := by omega
   rw [e1, e2, ofNat_high c hcc]
   constructor
   ·intro h
    have h' : varL (val (p ++ [b])) = p ++ [b] := by
     have := List.cons.inj h
     exact this.2
    have n1 := ih'.1 h'
    intro ⟨hb0, _⟩
    by_cases hp : p = []
    ·subst hp
     simp [val, hb0] at hm
    ·exact n1 ⟨hb0, by cases p with | nil => exact absurd rfl hp | cons _ _ => simp⟩
   ·intro h
    have : varL (val (p ++ [b])) = p ++ [b] := by
     apply ih'.2
     intro ⟨h1, h2⟩
     exact h ⟨h1, by simp⟩
    rw [this]; rfl

def rvGo : Nat → Nat → Nat → List UInt8 → Option (Nat × Nat)
 | 0, _, _, _ => none
 | _ + 1, _, _, [] => none
 | f + 1, n, k, b :: t =>
  if b.toNat < 128 then
   (if 1000000000 < n + b.toNat % 128 * 128 ^ k ∨ (b.toNat = 0 ∧ 0 < k) then none else some (n + b.toNat % 128 * 128 ^ k, k + 1))
  else rvGo f (n + b.toNat % 128 * 128 ^ k) (k + 1) t

def rv (l : List UInt8) : Option (Nat × Nat) := rvGo 5 0 0 l

theorem rvGo_bd : ∀ f n k l r, rvGo f n k l = some r → r.1 ≤ 1000000000 ∧ k < r.2 ∧ r.2 ≤ k + l.length := by
 intro f
 induction f with
 | zero => intro n k l r h; simp [rvGo] at h
 | succ f ih =>
  intro n k l r h
  cases l with
  | nil => simp [rvGo] at h
  | cons b t =>
   simp only [rvGo] at h
   split at h
   ·split at h
    ·cases h
    ·cases h; simp only [List.length_cons]; omega
   ·have := ih _ _ _ _ h
    simp only [List.length_cons]
    omega

def dd (m : Nat) : List UInt8 := if m = 0 then [] else Go.Lib.decDigits m

end WM
end Go.Proofs.YtnljmdodpffmoaaGreat

namespace Go.Proofs.YtnljmdodpffmoaaGreat
open Go.RowKit
open KM
open VM
attribute [local go_sem ↓] Go.wp_at_zero Go.wp_at_succ

def bv (l : List UInt8) : List Value := l.map fun b => .int .u8 b.toNat
def Own (w : World) (base : Nat) (v : Value) (l : List UInt8) : Prop := w.ownsRow base 5 1 v l.length (bv l)
theorem Own.str {w : World} {base : Nat} {v : Value} {l : List UInt8} (h : Own w base v l) :
  (convert 22 9 v).run Tryz.prog w = .ok (.string ⟨l.toArray⟩) w := by
 have h0 := h
 rcases h.2 with ⟨rfl, h1⟩ | ⟨g, cap, cur, rfl, hg, hh, hnc, hcp, hcs, htake⟩
 ·obtain rfl : l = [] := List.length_eq_zero_iff.1 h1
  rw [run_convert_bytes_string w 22 9 5 none 0 0 Tryz.underlying22 Tryz.underlying5 Tryz.underlying9]
  rfl
 ·refine run_convert_bytes_back (P := Tryz.prog) w 22 9 5 ⟨g, 0, none⟩ cap l Tryz.underlying22 Tryz.underlying5 Tryz.underlying9 ?_
  intro j hj
  rw [Addr.add_lit, Nat.zero_add, World.ownsRow.cellAt h0 j (by omega)]
  simp [bv, hj]
theorem toNat_ofNat (x : Nat) (h : x < 256) : ((UInt8.ofNat x).toNat : Int) = (x : Int) := by
 simp only [UInt8.toNat_ofNat']; omega
def dd (m : Nat) : List UInt8 := if m = 0 then [] else Go.Lib.decDigits m
end Go.Proofs.YtnljmdodpffmoaaGreat

namespace Go.Proofs.YtnljmdodpffmoaaGreat
open Go.RowKit

theorem Tryz.info5 : (Tryz.prog.info? 5).map (fun i => (i.zero, i.size, i.bytes)) = some (some (.int .u8 0), 1, 1) := by kernel_rfl

theorem bv_len (l : List UInt8) : (bv l).length = l.length := by simp [bv]

theorem Own.nil (w : World) (base : Nat) : Own w base (.slice none 0 0) [] := World.ownsRow_nil _ _ _ _

theorem Own.empty (w : World) (base : Nat) (hb : base ≤ w.heap.size) : Own (w.alloc (.cells #[] 5)) base (.slice (some ⟨w.heap.size, 0, none⟩) 0 0) [] :=
 World.ownsRow_lit (size := 1) w #[] 0 hb (by unfold maxLen; omega) rfl

theorem wpApp {ops : Array Oper} {rest : List Oper} {o : Oper} {a : Act} {Q : Exit → Act → World → Prop} (hgd : o.guard = none) (s x : Operand)
  (ho : o.op = .call { callee := .builtin .append, args := #[s, x], argTypes := #[22, 22] }) {wr : World} {cs : Array Value} (w0 : World) {base : Nat} {v : Value} {pre : List UInt8} (news : List UInt8)
  (hs : a.eval s = v) (hown : Own wr base v pre) (hx : a.eval x = .slice (some ⟨wr.heap.size, 0, none⟩) news.length news.length) (hcs : cs.toList = bv news)
  (hlen : pre.length + news.length ≤ 140737488355328) (hb : Below base w0 wr) (hB : base ≤ w0.heap.size)
  (h : ∀ v' w', Own w' base v' (pre ++ news) → Below base w0 w' → (wr.alloc (.cells cs 5)).grownBy w' v.ownBlock → wpList Tryz.prog ops Q rest (a.put o.dst v') w') :
  wpList Tryz.prog ops Q (o :: rest) a (wr.alloc (.cells cs 5)) := by
 obtain ⟨i0, hi, hz0, hz1, hz2⟩ := info_parts Tryz.info5
 have hsz := hb.size
 refine wpList_append_own _ hgd s x 22 ho base 5 i0 (.int .u8 0) 1 1 Tryz.underlying22 hi hz0 hz1 hz2 rfl (by decide) v pre.length (bv pre) hs (World.ownsRow.alloc hown _) ⟨wr.heap.size, 0, none⟩ news.length news.length (bv news) hx (by rw [bv_len]; omega) ?_ ?_ (by unfold maxLen; omega) (by omega) (by simp; omega) ?_
 ·intro j u hj
  have hc : (wr.alloc (.cells cs 5)).cell? ⟨wr.heap.size, j, none⟩ = cs[j]? := World.cell?_alloc_mark wr cs 5 (0, 0) j
  rw [Addr.add_lit, Nat.zero_add, hc, ← hj, ← hcs]
  simp
 ·intro u hu
  simp only [bv, List.mem_map] at hu
  obtain ⟨b, _, rfl⟩ := hu
  rfl
 ·intro v' w' h1 h2 _
  refine h v' w' ?_ ((hb.alloc (by omega) _).grown h2 (by simp; omega) (fun j hj => (World.ownsRow.lt hown j hj).1)) h2
  unfold Own
  simpa [bv] using h1

theorem byteCell (x : Int) (b : UInt8) (h : x = (b.toNat : Int)) : #[Value.int .u8 x].toList = bv [b] := by subst h; rfl
theorem ofNatCell (x : Int) (n : Nat) (hn : n < 256) (h : x = (n : Int)) : #[Value.int .u8 x].toList = bv [UInt8.ofNat n] := byteCell _ _ (by rw [toNat_ofNat n hn]; exact h)

end Go.Proofs.YtnljmdodpffmoaaGreat

namespace Go.Proofs.YtnljmdodpffmoaaGreat
open Go.RowKit
open KM
attribute [local go_sem ↓] Go.wp_at_zero Go.wp_at_succ

def longB (n : Nat) (x : UInt8) : ByteArray := ⟨(List.replicate n x).toArray⟩

set_option maxRecDepth 100000 in
set_option maxHeartbeats 1000000 in
theorem long71 (n : Nat) (x : UInt8) (hn : n ≤ 30000) (w : World) :
  Calls Tryz.prog 89 #[.int .i64 (n : Int), .int .u8 (x.toNat : Int)] w fun e w' => e = .returned (.string (longB n x)) ∧ Below w.heap.size w w' := by
 have hmk := mkRow 22 5 1 1 _ Tryz.underlying22 Tryz.info5 n (by omega) (by omega)
 go_enter Tryz.func89, Tryz.ntmps89
 go_wp2
 clear hmk
 have HO : Hid ((w.alloc (.cells (madeCells #[Value.int .u8 0] n) 5)).ownsRow w.heap.size 5 1 (.slice (some ⟨w.heap.size, 0, none⟩) n n) n (madeCells #[Value.int .u8 0] n).toList) :=
  World.ownsRow_lit w _ _ (Nat.le_refl _) (by unfold maxLen; omega) (by rw [size_madeCells, Nat.mul_one])
 go_loopw [6] (fun t wr => ∃ (k : Nat) (xs : List Value), k ≤ n ∧ t = .int .i64 k ∧ Hid (wr.ownsRow w.heap.size 5 1 (.slice (some ⟨w.heap.size, 0, none⟩) n n) n xs) ∧ Hid (∀ j, j < k → xs[j]? = some (.int .u8 (x.toNat : Int))) ∧ Hid (Below w.heap.size w wr)) (fun t _ => n - (intOf t).toNat)
 case atStart => exact ⟨0, _, Nat.zero_le _, rfl, HO, fun j hj => by omega, (belowRefl w).alloc (Nat.le_refl _) _⟩
 case round =>
  obtain ⟨k, xs, hk, rfl, HX, HA, HB⟩ := hrel
  by_cases hlt : k < n
  ·have hlt' : (k : Int) < (n : Int) := by omega
   have h0 : (0 : Int) ≤ (k : Int) := by omega
   have hlen := HX.out.1
   have hq : wr.cell? ⟨w.heap.size, k, none⟩ = some (xs[k]'(by omega)) := by rw [World.ownsRow.cellAt HX.out k (by omega)]; simp
   have hfz := World.ownsRow.frozenAt HX.out k
   have st := World.ownsRow.stored HX.out k (.int .u8 (x.toNat : Int))
   have HX3 : Hid _ := st.1
   have HA2 : Hid (∀ j, j < k + 1 → (xs.set k (.int .u8 (x.toNat : Int)))[j]? = some (.int .u8 (x.toNat : Int))) := fun j hj => by
    by_cases e : j = k
    ·subst e; rw [List.getElem?_set_self (by omega)]
    ·rw [List.getElem?_set_ne (by omega)]; exact HA.out j (by omega)
   clear st
   go_wp2
   go_roundw
   case rel => exact ⟨k + 1, _, by omega, by go_num, HX3, HA2, HB.out.setCell (Nat.le_refl _) _⟩
   case measure => simp [intOf]; omega
  ·have hlt' : ¬ (k : Int) < (n : Int) := by omega
   have HOw : Own wr w.heap.size (.slice (some ⟨w.heap.size, 0, none⟩) n n) (List.replicate n x) := by
    have e : xs = bv (List.replicate n x) := by
     apply List.ext_getElem?
     intro j
     have hlen := HX.out.1
     by_cases hj : j < n
     ·rw [HA.out j (by omega)]; simp [bv, hj]
     ·rw [List.getElem?_eq_none (by omega), List.getElem?_eq_none (by rw [bv_len]; simp; omega)]
    unfold Own
    rw [← e, List.length_replicate]
    exact HX.out
   have hst := HOw.str
   clear HOw
   go_wp2
   go_ret
   exact ⟨rfl, HB.out⟩

def WtA (x : Wt) : Prop := x.1.size ≤ 4 ∧ x.2.1.size ≤ 13
theorem long_size (n : Nat) (x : UInt8) : (longB n x).size = n := by simp [longB, ByteArray.size]
def keyA : List ByteArray := [⟨#[]⟩, ⟨#[65]⟩, ⟨#[97, 98, 99, 100]⟩, ⟨#[97, 98, 99]⟩]
theorem keyA_ok : ∀ s ∈ keyA, s.size ≤ 4 := by
 intro s hs
 simp only [keyA, List.mem_cons, List.not_mem_nil, or_false] at hs
 rcases hs with rfl | rfl | rfl | rfl <;> decide

set_option maxRecDepth 100000 in
set_option maxHeartbeats 2000000 in
theorem drAny (g len cap : Nat) (a : Option Addr) (w : World) (hc : CurI w g a len cap) :
  Calls Tryz.prog 46 #[.pointer (some ⟨g, 0, none⟩)] w fun e w' => ∃ x : Wt, WtA x ∧ e = .returned (.agg #[.string x.1, .string x.2.1, .bool x.2.2]) ∧ Dn w w' g a len cap := by
 have HC : Hid (CurI w g a len cap) := hc
 have hgl : g < w.heap.size := hc.lt
 have hne : w.heap.size ≠ g := Nat.ne_of_gt hc.lt
 clear hc
 go_enter Tryz.func46, Tryz.ntmps46
 go_wp2_with fail
 refine (drWrite g len cap a _ (HC.out.alloc _)).mono ?_
 rintro e w1 ⟨x, hx, rfl, d1⟩
 have D1 : Hid (Dn w w1 g a len cap) := ((Dn.start HC.out).alloc _).step d1
 have B1 : Hid (Bx w1 w.heap.size [.string ⟨#[]⟩, .string ⟨#[]⟩, .bool false]) := (Bx.new w [.string ⟨#[]⟩, .string ⟨#[]⟩, .bool false] 42).keptD d1 hne
 have s1 : w.heap.size < w1.heap.size := B1.out.lt
 have HX : Hid (x.1.size ≤ 3 ∧ x.2.1.size ≤ 3) := hx.2
 have X1 : Hid (Bx (w1.alloc (.cells #[.string x.1, .string x.2.1, .bool x.2.2] 42)) w1.heap.size [.string x.1, .string x.2.1, .bool x.2.2]) := Bx.new w1 _ 42
 clear d1 hx
 go_wp2_with fail
 refine (drBelow g len cap a 8 (by omega) (by omega) _ (D1.out.c.alloc _)).mono ?_
 rintro e w2 ⟨n, hn, rfl, d2⟩
 have D2 : Hid (Dn w w2 g a len cap) := (D1.out.alloc _).step d2
 have B2 : Hid (Bx w2 w.heap.size [.string ⟨#[]⟩, .string ⟨#[]⟩, .bool false]) := (B1.out.alloc _).keptD d2 hne
 have X2 : Hid (Bx w2 w1.heap.size [.string x.1, .string x.2.1, .bool x.2.2]) := X1.out.keptD d2 (by omega)
 have s2 : w1.heap.size < w2.heap.size := X2.out.lt
 clear d2 B1 X1
 have hX : w1.heap.size ≠ w.heap.size := by omega
 by_cases h0 : n = 0
 ·have h0' : ((n : Int) == 0) = true := by simp; omega
  clear h0
  go_wp2_with fail
  refine (drPickN g len cap a keyA 4 w2.heap.size 4 rfl (by omega) (by omega) _ (D2.out.c.alloc _) (by omega) (Bx.new w2 (keyA.map Value.string) 9)).mono ?_
  rintro e w3 ⟨s, hs, rfl, d3⟩
  have D3 : Hid (Dn w w3 g a len cap) := (D2.out.alloc _).step d3
  have B3 : Hid (Bx w3 w.heap.size [.string ⟨#[]⟩, .string ⟨#[]⟩, .bool false]) := (B2.out.alloc _).keptD d3 hne
  have X3 : Hid (Bx w3 w1.heap.size [.string x.1, .string x.2.1, .bool x.2.2]) := (X2.out.alloc _).keptD d3 (by omega)
  have HS : Hid (s.size ≤ 4) := keyA_ok s hs
  clear d3 hs
  have c0 := B3.out.c0
  have c1 := B3.out.c1
  have c2 := B3.out.c2
  have fz := B3.out.fz
  have x0 := X3.out.c0
  have x1 := X3.out.c1
  have x2 := X3.out.c2
  have xf := X3.out.fz
  go_wp2
  have BF := (((B3.out.setO (p := ⟨w1.heap.size, 0, none⟩) (by omega) (.string s)).set 0 (.string s)).set 1 (.string x.2.1)).set 2 (.bool x.2.2)
  have e0 := BF.c0
  have e1 := BF.c1
  have e2 := BF.c2
  exact bodyPost_ret (v := .agg #[.string s, .string x.2.1, .bool x.2.2]) (by simp [results, Tryz.results46, go_sem, e0, e1, e2]) rfl ⟨(s, x.2.1, x.2.2), ⟨HS.out, by have := HX.out.2; show x.2.1.size ≤ 13; omega⟩, rfl, (((D3.out.set (p := ⟨w1.heap.size, 0, none⟩) (by show _ ≤ w1.heap.size; omega) _).set (Nat.le_refl _) _).set (Nat.le_refl _) _).set (Nat.le_refl _) _⟩
 have h0' : ((n : Int) == 0) = false := by simp; omega
 by_cases h1 : n = 1
 ·have h1' : ((n : Int) == 1) = true := by simp; omega
  clear h0 h1
  go_wp2_with fail
  refine (drBelow g len cap a 2 (by omega) (by omega) _ D2.out.c).mono ?_
  rintro e w3 ⟨m, hm, rfl, d3⟩
  have D3 : Hid (Dn w w3 g a len cap) := D2.out.step d3
  have B3 : Hid (Bx w3 w.heap.size [.string ⟨#[]⟩, .string ⟨#[]⟩, .bool false]) := B2.out.keptD d3 hne
  have X3 : Hid (Bx w3 w1.heap.size [.string x.1, .string x.2.1, .bool x.2.2]) := X2.out.keptD d3 (by omega)
  clear d3
  obtain ⟨q, hq⟩ : ∃ q, q = 12 + m := ⟨_, rfl⟩
  have e9 : IntKind.i64.wrap (12 + (m : Int)) = (q : Int) := by rw [IntKind.wrap_i64]; omega
  have e10 : (12 : Int) + (m : Int) = (q : Int) := by omega
  have e11 : IntKind.i64.wrap (q : Int) = (q : Int) := by rw [IntKind.wrap_i64]; omega
  have C4 : Hid (∀ w, Calls Tryz.prog 89 #[.int .i64 (q : Int), .int .u8 97] w fun e w' => e = .returned (.string (longB q 97)) ∧ Below w.heap.size w w') := fun w => long71 q 97 (by omega) w
  have HS : Hid ((longB q 97).size ≤ 13) := by show _ ≤ _; rw [long_size]; omega
  clear hq
  go_wp2_with fail
  refine (C4.out _).mono ?_
  rintro e w4 ⟨rfl, hb4⟩
  have D4 : Hid (Dn w w4 g a len cap) := D3.out.below hb4
  have B4 : Hid (Bx w4 w.heap.size [.string ⟨#[]⟩, .string ⟨#[]⟩, .bool false]) := B3.out.below hb4
  have X4 : Hid (Bx w4 w1.heap.size [.string x.1, .string x.2.1, .bool x.2.2]) := X3.out.below hb4
  clear hb4
  generalize longB q 97 = s at *
  have c0 := B4.out.c0
  have c1 := B4.out.c1
  have c2 := B4.out.c2
  have fz := B4.out.fz
  have x0 := X4.out.c0
  have x1 := X4.out.c1
  have x2 := X4.out.c2
  have xf := X4.out.fz
  go_wp2
  have BF := (((B4.out.setO (p := ⟨w1.heap.size, 1, none⟩) (by omega) (.string s)).set 0 (.string x.1)).set 1 (.string s)).set 2 (.bool x.2.2)
  have e0 := BF.c0
  have e1 := BF.c1
  have e2 := BF.c2
  exact bodyPost_ret (v := .agg #[.string x.1, .string s, .bool x.2.2]) (by simp [results, Tryz.results46, go_sem, e0, e1, e2]) rfl ⟨(x.1, s, x.2.2), ⟨by have := HX.out.1; show x.1.size ≤ 4; omega, HS.out⟩, rfl, (((D4.out.set (p := ⟨w1.heap.size, 1, none⟩) (by show _ ≤ w1.heap.size; omega) _).set (Nat.le_refl _) _).set (Nat.le_refl _) _).set (Nat.le_refl _) _⟩
 have h1' : ((n : Int) == 1) = false := by simp; omega
 have c0 := B2.out.c0
 have c1 := B2.out.c1
 have c2 := B2.out.c2
 have fz := B2.out.fz
 have x0 := X2.out.c0
 have x1 := X2.out.c1
 have x2 := X2.out.c2
 have xf := X2.out.fz
 by_cases h2 : n = 2
 ·have h2' : ((n : Int) == 2) = true := by simp; omega
  clear h0 h1 h2
  go_wp2
  have BF := (((B2.out.setO (p := ⟨w1.heap.size, 2, none⟩) (by omega) (.bool true)).set 0 (.string x.1)).set 1 (.string x.2.1)).set 2 (.bool true)
  have e0 := BF.c0
  have e1 := BF.c1
  have e2 := BF.c2
  exact bodyPost_ret (v := .agg #[.string x.1, .string x.2.1, .bool true]) (by simp [results, Tryz.results46, go_sem, e0, e1, e2]) rfl ⟨(x.1, x.2.1, true), ⟨by have := HX.out.1; show x.1.size ≤ 4; omega, by have := HX.out.2; show x.2.1.size ≤ 13; omega⟩, rfl, (((D2.out.set (p := ⟨w1.heap.size, 2, none⟩) (by show _ ≤ w1.heap.size; omega) _).set (Nat.le_refl _) _).set (Nat.le_refl _) _).set (Nat.le_refl _) _⟩
 ·have h2' : ((n : Int) == 2) = false := by simp; omega
  clear h0 h1 h2
  go_wp2
  have BF := ((B2.out.set 0 (.string x.1)).set 1 (.string x.2.1)).set 2 (.bool x.2.2)
  have e0 := BF.c0
  have e1 := BF.c1
  have e2 := BF.c2
  exact bodyPost_ret (v := .agg #[.string x.1, .string x.2.1, .bool x.2.2]) (by simp [results, Tryz.results46, go_sem, e0, e1, e2]) rfl ⟨x, ⟨by have := HX.out.1; omega, by have := HX.out.2; omega⟩, rfl, ((D2.out.set (Nat.le_refl _) _).set (Nat.le_refl _) _).set (Nat.le_refl _) _⟩

end Go.Proofs.YtnljmdodpffmoaaGreat

namespace Go.Proofs.YtnljmdodpffmoaaGreat
open Go.RowKit
open KM
attribute [local go_sem ↓] Go.wp_at_zero Go.wp_at_succ

structure TxA (t : Tx) : Prop where
 fit : TFit t
 rl : t.rs.length ≤ 4
 wl : t.ws.length ≤ 4
theorem TxD.fit {t : Tx} (h : TxD t) : TFit t := ⟨Nat.le_trans h.rl (by omega), h.rs.fit, Nat.le_trans h.wl (by omega), h.ws.fit, h.nm⟩
theorem TxD.any {t : Tx} (h : TxD t) : TxA t := ⟨h.fit, Nat.le_trans h.rl (by omega), Nat.le_trans h.wl (by omega)⟩
theorem rfit_more {rs : List Rg} (h : RFit rs) {r : Rg} (h1 : r.1.size ≤ 1048576 ∧ r.2.size ≤ 1048576) : RFit (rs ++ [r]) := fun x hx => by
 rcases List.mem_append.1 hx with h2 | h2
 ·exact h x h2
 ·rw [List.mem_singleton.1 h2]; exact h1
theorem wfit_more {ws : List Wt} (h : WFit ws) {x : Wt} (h1 : x.1.size ≤ 1048576 ∧ x.2.1.size ≤ 1048576) : WFit (ws ++ [x]) := fun y hy => by
 rcases List.mem_append.1 hy with h2 | h2
 ·exact h y h2
 ·rw [List.mem_singleton.1 h2]; exact h1

theorem wpAppK {ops : Array Oper} {rest : List Oper} {o : Oper} {a : Act} {Q : Exit → Act → World → Prop} {α : Type} {E : Enc α} (T e bytes : Nat) (z : Value) (hT : Tryz.prog.underlying T = some (.slice e))
  (hinfo : (Tryz.prog.info? e).map (fun i => (i.zero, i.size, i.bytes)) = some (some z, E.size, bytes)) (hzs : z.cells.size = E.size) (hby : bytes ≤ 128)
  (hgd : o.guard = none) (s x : Operand) (ho : o.op = .call { callee := .builtin .append, args := #[s, x], argTypes := #[T, T] })
  {W : World} {base g : Nat} {v : Value} {xs : List α} (y : α) (h1 : ∀ u ∈ E.enc y, u.oneCell' = true)
  (hs : a.eval s = v) (hown : GOwn E e W base v xs) (hx : a.eval x = .slice (some ⟨g, 0, none⟩) 1 1) (hblk : W.heap[g]? = some (.cells (E.enc y).toArray e (0, 0)))
  (hlen : xs.length ≤ 100000000) (hB : base ≤ W.heap.size)
  (h : ∀ g' cap w', GOwn E e w' base (.slice (some ⟨g', 0, none⟩) (xs.length + 1) cap) (xs ++ [y]) → W.grownBy w' v.ownBlock → (v.ownBlock = some g' ∨ g' = W.heap.size) → g' < w'.heap.size → wpList Tryz.prog ops Q rest (a.put o.dst (.slice (some ⟨g', 0, none⟩) (xs.length + 1) cap)) w') :
  wpList Tryz.prog ops Q (o :: rest) a W := by
 obtain ⟨i0, hi, hz0, hz1, hz2⟩ := info_parts hinfo
 refine wpList_append_lies _ hgd s x T ho base e i0 z E.size bytes hT hi hz0 hz1 hz2 hzs E.pos v xs.length (E.cells xs) hs hown ⟨g, 0, none⟩ 1 1 (E.enc y) hx (by rw [E.len, Nat.one_mul]) ?_ h1 (by omega) (by unfold maxLen; omega) ?_ hB _ rfl ?_
 ·intro j u hj
  rw [Addr.add_lit, Nat.zero_add, World.cell?, hblk]
  simpa using hj
 ·calc (xs.length + 1) * bytes ≤ 100000001 * 128 := Nat.mul_le_mul (by omega) hby
   _ ≤ _ := by omega
 ·intro g' cap w' k1 k2 k3 k4
  refine h g' cap w' ?_ k2 k3 k4
  have e : E.cells (xs ++ [y]) = E.cells xs ++ E.enc y := by rw [E.cells_app]; simp [Enc.cells]
  unfold GOwn
  rw [e, List.length_append]
  exact k1
theorem stepAppK {ops : Array Oper} {K : Act → World → Prop} {X : Prop} {o : Oper} {a : Act} {Q : Exit → Act → World → Prop} {α : Type} {E : Enc α} (T e bytes : Nat) (z : Value) (hT : Tryz.prog.underlying T = some (.slice e))
  (hinfo : (Tryz.prog.info? e).map (fun i => (i.zero, i.size, i.bytes)) = some (some z, E.size, bytes)) (hzs : z.cells.size = E.size) (hby : bytes ≤ 128)
  (hgd : o.guard = none) (s x : Operand) (ho : o.op = .call { callee := .builtin .append, args := #[s, x], argTypes := #[T, T] })
  {W : World} {base g : Nat} {v : Value} {xs : List α} (y : α) (h1 : ∀ u ∈ E.enc y, u.oneCell' = true)
  (hs : a.eval s = v) (hown : GOwn E e W base v xs) (hx : a.eval x = .slice (some ⟨g, 0, none⟩) 1 1) (hblk : W.heap[g]? = some (.cells (E.enc y).toArray e (0, 0)))
  (hlen : xs.length ≤ 100000000) (hB : base ≤ W.heap.size)
  (h : ∀ g' cap w', GOwn E e w' base (.slice (some ⟨g', 0, none⟩) (xs.length + 1) cap) (xs ++ [y]) → W.grownBy w' v.ownBlock → (v.ownBlock = some g' ∨ g' = W.heap.size) → g' < w'.heap.size → K (a.put o.dst (.slice (some ⟨g', 0, none⟩) (xs.length + 1) cap)) w') :
  if Region.wanted o (yielded ops a.tmps) = true then Oper.wp Tryz.prog o a W K Q else X := by
 obtain ⟨i0, hi, hz0, hz1, hz2⟩ := info_parts hinfo
 refine step_append_lies _ hgd s x T ho base e i0 z E.size bytes hT hi hz0 hz1 hz2 hzs E.pos v xs.length (E.cells xs) hs hown ⟨g, 0, none⟩ 1 1 (E.enc y) hx (by rw [E.len, Nat.one_mul]) ?_ h1 (by omega) (by unfold maxLen; omega) ?_ hB _ rfl ?_
 ·intro j u hj
  rw [Addr.add_lit, Nat.zero_add, World.cell?, hblk]
  simpa using hj
 ·calc (xs.length + 1) * bytes ≤ 100000001 * 128 := Nat.mul_le_mul (by omega) hby
   _ ≤ _ := by omega
 ·intro g' cap w' k1 k2 k3 k4
  refine h g' cap w' ?_ k2 k3 k4
  have e : E.cells (xs ++ [y]) = E.cells xs ++ E.enc y := by rw [E.cells_app]; simp [Enc.cells]
  unfold GOwn
  rw [e, List.length_append]
  exact k1
theorem Lies.marked2 {α : Type} {E : Enc α} {e : TypeId} {w w' : World} {lo hi : Nat} {v : Value} {row : Option Nat} {xs : List α} (h : Lies E e w lo hi v xs) (hg : w.grownBy w' row) (hne : ∀ g, row = some g → g < lo ∨ hi ≤ g) : Lies E e w' lo hi v xs := by
 refine ⟨?_, h.up⟩
 obtain ⟨h1, h2⟩ := h.own
 refine ⟨h1, ?_⟩
 rcases h2 with h2 | ⟨g, cap, cur, hv, hg', hh, r⟩
 ·exact Or.inl h2
 ·refine Or.inr ⟨g, cap, cur, hv, hg', ?_, r⟩
  have hlt : g < w.heap.size := (Array.getElem?_eq_some_iff.1 hh).1
  have hup := h.up g (by rw [hv]; rfl)
  rw [hg.block g hlt (fun e => by have := hne g e.symm; omega)]
  exact hh

end Go.Proofs.YtnljmdodpffmoaaGreat

/- Where a cell stands: its place by its key, and the first one behind it; a clone. -/
import Derived.Test.YtnmggknpllnjiaaGreatPt24
import Derived.Test.YtnmggknpllnjiaaGreatProg
import Derived.WalkKit
import Derived.Test.YtnmggknpllnjiaaGreatPt01
import Derived.WalkSpells
import Derived.WalkLawsBesides
import Derived.Deep.QuietTactic
import Derived.BigQuiet
import Derived.Deep.RegionHeld3
import Derived.Deep.DrawnRows
import Derived.Test.YtnmggknpllnjiaaGreatPt15
import Derived.Deep.AppendLies
import Derived.Test.YtnmggknpllnjiaaGreatPt03
import Derived.Sort.OwnSorted
import Derived.Lib.RowBridge
import Derived.Test.YtnmggknpllnjiaaGreatPt04
import Derived.Lib.SliceRun
namespace Go.Proofs.YtnmggknpllnjiaaGreat
open Go.RowKit
open KM
open VM
attribute [local go_sem ↓] Go.wp_at_zero Go.wp_at_succ

def idxN : List ByteArray → ByteArray → Nat → Int
 | [], _, _ => -1
 | x :: l, s, k => if (x.toList == s.toList) = true then (k : Int) else idxN l s (k + 1)
theorem idx_yes {l : List ByteArray} {s : ByteArray} {k : Nat} (hk : k < l.length) (h : (l[k].toList == s.toList) = true) : idxN (l.drop k) s k = (k : Int) := by
 rw [List.drop_eq_getElem_cons hk]
 unfold idxN
 rw [if_pos h]
theorem idx_no {l : List ByteArray} {s : ByteArray} {k : Nat} (hk : k < l.length) (h : (l[k].toList == s.toList) = false) : idxN (l.drop k) s k = idxN (l.drop (k + 1)) s (k + 1) := by
 rw [List.drop_eq_getElem_cons hk]
 conv => lhs; unfold idxN
 rw [if_neg (by rw [h]; simp)]
theorem idx_end {l : List ByteArray} {s : ByteArray} {k : Nat} (hk : l.length ≤ k) : idxN (l.drop k) s k = -1 := by
 rw [List.drop_of_length_le hk]
 rfl
theorem beq_comm_list (a b : ByteArray) : (a.toList == b.toList) = (b.toList == a.toList) := by
 rw [Bool.eq_iff_iff]
 simp only [beq_iff_eq]
 exact eq_comm

theorem wpAppRowC {ops : Array Oper} {rest : List Oper} {o : Oper} {a : Act} {Q : Exit → Act → World → Prop} (hgd : o.guard = none) (s x : Operand) (ho : o.op = .call { callee := .builtin .append, args := #[s, x], argTypes := #[59, 59] })
  {W : World} {base m c : Nat} {ao : Option Addr} {v : Value} {ys zs : List Rg} (hs : a.eval s = v) (hown : GOwn encR 98 W base v ys) (hx : a.eval x = .slice ao m c)
  (hsrc : (ao = none ∧ m = 0 ∧ c = 0) ∨ ∃ ad, ao = some ad ∧ ∀ j u, (encR.cells zs)[j]? = some u → W.cell? (ad.add j) = some u) (hm : zs.length = m) (hlen : ys.length + zs.length ≤ 100000000) (hB : base ≤ W.heap.size) (hne : v ≠ .slice none 0 0)
  (h : ∀ g' cap L w', L = (ys ++ zs).length → GOwn encR 98 w' base (.slice (some ⟨g', 0, none⟩) L cap) (ys ++ zs) → Below base W w' → wpList Tryz.prog ops Q rest (a.put o.dst (.slice (some ⟨g', 0, none⟩) L cap)) w') :
  wpList Tryz.prog ops Q (o :: rest) a W := by
 obtain ⟨i0, hi, hz0, hz1, hz2⟩ := info_parts Tryz.info98
 have hone : ∀ u ∈ encR.cells zs, u.oneCell' = true := fun u hu => by
  unfold Enc.cells at hu
  obtain ⟨y, _, hy⟩ := List.mem_flatMap.1 hu
  exact oneR u hy
 have key : ∃ v' w', (Builtin.append_ #[59, 59] o.type #[v, .slice ao m c]).run Tryz.prog W = .ok v' w' ∧ w'.ownsRow base 98 2 v' (ys ++ zs).length (encR.cells (ys ++ zs)) ∧ W.grownBy w' v.ownBlock ∧ v' ≠ .slice none 0 0 := by
  rw [encR.cells_app, List.length_append]
  rcases hsrc with ⟨rfl, rfl, rfl⟩ | ⟨ad, rfl, hc⟩
  ·obtain rfl : zs = [] := List.length_eq_zero_iff.1 hm
   refine ⟨v, W, run_append_owned_none (P := Tryz.prog) W base 59 o.type 98 i0 2 Tryz.underlying59 hi v _ _ hown, ?_, ⟨rfl, rfl, rfl, Nat.le_refl _, fun _ _ _ => rfl⟩, hne⟩
   have e : encR.cells ([] : List Rg) = [] := rfl
   rw [e, List.append_nil]
   exact hown
  ·obtain ⟨v', w', hr, q1, q2, q3⟩ := run_append_own (P := Tryz.prog) W base 59 o.type 98 i0 _ 2 32 Tryz.underlying59 hi hz0 hz1 hz2 rfl (by omega) v ys.length (encR.cells ys) hown ad m c (encR.cells zs) (by rw [encR.cells_len, hm]; rfl) hc hone (by unfold maxLen; omega) (by omega) hB
   refine ⟨v', w', hr, by rw [hm]; exact q1, q2, fun e => hne (q3.1 e).1⟩
 obtain ⟨v', w', hr, q1, q2, q3⟩ := key
 have hb : Below base W w' := (Below.refl _ _).grown q2 hB (fun j hj => (World.ownsRow.lt hown j hj).1)
 rcases q1.2 with ⟨hv, _⟩ | ⟨g', cap, cur, hv, _⟩
 ·exact absurd hv q3
 ·subst hv
  refine wpList_plain hgd fun K hK => ?_
  unfold Oper.wp execOp
  simp only [ho, resolve, invoke, builtin, Sem.run_bind, Sem.run_pure, Result.andThen_ok, List.map_toArray, List.map_cons, List.map_nil, hs, hx, hr]
  exact hK _ _ (h g' cap _ w' rfl q1 hb)

theorem row_src {W : World} {ao : Option Addr} {zs : List Rg} (h : GRow encR W ao zs) : ∀ ad, ao = some ad → ∀ j u, (encR.cells zs)[j]? = some u → W.cell? (ad.add j) = some u := by
 intro ad ha j u hj
 have hjl : j < (encR.cells zs).length := by
  rcases Nat.lt_or_ge j (encR.cells zs).length with h | h
  ·exact h
  ·rw [List.getElem?_eq_none h] at hj; cases hj
 have e2 : encR.size = 2 := rfl
 rw [encR.cells_len, e2] at hjl
 obtain ⟨b, off, rfl, hb, hc⟩ := h (by omega)
 cases ha
 have hq : j / 2 < zs.length := by omega
 have h1 := hc (j / 2) hq (j % 2) (by rw [e2]; omega)
 have h2 := encR.cells_at zs (j / 2) hq (j % 2) (by rw [e2]; omega)
 rw [e2, show j / 2 * 2 + j % 2 = j by omega] at h2
 rw [e2, show off + j / 2 * 2 + j % 2 = off + j by omega] at h1
 rw [Addr.add_lit, h1, ← h2, hj]
set_option maxRecDepth 100000 in
set_option maxHeartbeats 1000000 in
theorem rclone51 (xs : List Rg) (a : Option Addr) (c n : Nat) (hx : n = xs.length) (hn : n ≤ 10000000) (hz : a = none → n = 0 ∧ c = 0) (w : World) (hp : GRow encR w a xs) :
  Calls Tryz.prog 89 #[.slice a n c] w fun e w' => ∃ (a1 : Option Addr) (c1 L : Nat), e = .returned (.slice a1 L c1) ∧ L = xs.length ∧ GOwn encR 98 w' w.heap.size (.slice a1 L c1) xs ∧ Below w.heap.size w w' := by
 cases a with
 | none =>
  obtain ⟨rfl, rfl⟩ := hz rfl
  have HL : Hid (0 = xs.length) := hx
  have HE : Hid (xs = []) := List.length_eq_zero_iff.1 hx.symm
  have hE : ∀ w : World, (binOp .eql 59 (.slice none 0 0) (.slice none 0 0)).run Tryz.prog w = .ok (.bool true) w := fun w => Lib.run_eql_slice_nil w 59 98 none 0 0 0 0 Tryz.underlying59
  clear hx hp hz hn
  go_enter Tryz.func89, Tryz.ntmps89
  go_wp2
  go_ret
  refine ⟨none, 0, 0, rfl, HL.out, ?_, belowRefl w⟩
  rw [HE.out]
  exact GOwn.nil _ _
 | some ad =>
  have HS : Hid (∀ j u, (encR.cells xs)[j]? = some u → (w.alloc (.cells #[] 98)).cell? (ad.add j) = some u) := row_src (hp.below ((belowRefl w).alloc (Nat.le_refl _) _)) ad rfl
  have HX : Hid (n = xs.length) := hx
  have HE : Hid (GOwn encR 98 (w.alloc (.cells #[] 98)) w.heap.size (.slice (some ⟨w.heap.size, 0, none⟩) 0 0) []) := GOwn.empty (E := encR) (e := 98) w w.heap.size (Nat.le_refl _)
  have hE : ∀ w : World, (binOp .eql 59 (.slice (some ad) n c) (.slice none 0 0)).run Tryz.prog w = .ok (.bool false) w := fun w => Lib.run_eql_slice_nil w 59 98 (some ad) n c 0 0 Tryz.underlying59
  clear hx hp hz
  go_enter Tryz.func89, Tryz.ntmps89
  go_wp2_with (at_builtin; refine wpAppRowC (v := .slice (some ⟨w.heap.size, 0, none⟩) 0 0) (ys := []) (zs := xs) rfl _ _ rfl rfl HE.out rfl (Or.inr ⟨_, rfl, HS.out⟩) HX.out.symm (by have := HX.out; simp; omega) (by simp) (fun h => by cases h) ?_)
  intro g' cap L w1 hL ho hb
  have HL : Hid (L = xs.length) := by show L = _; rw [hL]
  have HO : Hid (GOwn encR 98 w1 w.heap.size (.slice (some ⟨g', 0, none⟩) L cap) xs) := ho
  have HB : Hid (Below w.heap.size w w1) := ((belowRefl w).alloc (Nat.le_refl _) _).trans hb
  clear hL ho hb
  go_wp2
  go_ret
  exact ⟨_, cap, L, rfl, HL.out, HO.out, HB.out⟩
set_option maxRecDepth 100000 in
set_option maxHeartbeats 1000000 in
theorem idxS (ss : List ByteArray) (a : Option Addr) (c n : Nat) (s : ByteArray) (hx : n = ss.length) (hn : n ≤ 100000000) (w : World) (hp : GRow encS w a ss) :
  Calls Tryz.prog 102 #[.slice a n c, .string s] w fun e w' => e = .returned (.int .i64 (idxN ss s 0)) ∧ Below w.heap.size w w' := by
 have HP : Hid (GRow encS w a ss) := hp
 have HX : Hid (n = ss.length) := hx
 clear hp hx
 go_enter Tryz.func102, Tryz.ntmps102
 go_wp2
 go_loopw [8] (fun t wr => ∃ k : Nat, k ≤ n ∧ t = .int .i64 k ∧ Hid (idxN (ss.drop k) s k = idxN ss s 0) ∧ w = wr) (fun t _ => n - (intOf t).toNat)
 case atStart => exact ⟨0, Nat.zero_le _, rfl, rfl, rfl⟩
 case round =>
  obtain ⟨k, hk, rfl, HI, rfl⟩ := hrel
  by_cases hlt : k < n
  ·have hlt' : (k : Int) < (n : Int) := by omega
   have h0 : (0 : Int) ≤ (k : Int) := by omega
   have hkl : k < ss.length := by rw [← HX.out]; exact hlt
   obtain ⟨b, off, rfl, hbl, hc⟩ := HP.out (by omega)
   have r0 := sat hc k hkl
   have HY : Hid ((s.toList == ss[k].toList) = true → (k : Int) = idxN ss s 0) := fun h => by show _ = _; rw [← HI.out]; exact (idx_yes hkl (by rw [beq_comm_list]; exact h)).symm
   have HN : Hid ((s.toList == ss[k].toList) = false → idxN (ss.drop (k + 1)) s (k + 1) = idxN ss s 0) := fun h => by show _ = _; rw [← HI.out]; exact (idx_no hkl (by rw [beq_comm_list]; exact h)).symm
   obtain ⟨x, hx⟩ : ∃ x, x = ss[k] := ⟨_, rfl⟩
   rw [← hx] at r0 HY HN
   clear hx hc hbl HI
   cases hq : (s.toList == x.toList)
   ·have HR := hide (HN.out hq)
    clear HY HN
    go_wp2
    go_roundw
    case rel => exact ⟨k + 1, by omega, by go_num, HR, trivial⟩
    case measure => simp [intOf]; omega
   ·have HR : Hid ((k : Int) = idxN ss s 0) := HY.out hq
    clear HY HN
    go_wp2
    go_ret
    exact ⟨ret_int HR.out, belowRefl w⟩
  ·have hd : ¬ (k : Int) < (n : Int) := by omega
   have HR : Hid ((-1 : Int) = idxN ss s 0) := by show _ = _; rw [← HI.out]; exact (idx_end (by rw [← HX.out]; omega)).symm
   clear HI
   go_wp2
   go_ret
   exact ⟨ret_int HR.out, belowRefl w⟩

def ckeysB (m : List Rg) : List ByteArray := m.map (·.1)
theorem ckeysB_len (m : List Rg) : (ckeysB m).length = m.length := by simp [ckeysB]
set_option maxRecDepth 100000 in
set_option maxHeartbeats 1000000 in
theorem keys64 (xs : List Rg) (a : Option Addr) (c n : Nat) (hx : n = xs.length) (hn : n ≤ 10000000) (w : World) (hp : GRow encR w a xs) :
  Calls Tryz.prog 103 #[.agg #[.slice a n c, .func (.func 86) #[] #[]]] w fun e w' => ∃ (a1 : Option Addr) (c1 : Nat), e = .returned (.slice a1 n c1) ∧ GOwn encS 9 w' w.heap.size (.slice a1 n c1) (ckeysB xs) ∧ Below w.heap.size w w' := by
 have BA0 : Hid (Bx (w.alloc (.cells #[.slice a n c, .func (.func 86) #[] #[]] 137)) w.heap.size [.slice a n c, .func (.func 86) #[] #[]]) := Bx.new w [.slice a n c, .func (.func 86) #[] #[]] 137
 have HB0 : Hid (Below w.heap.size w (w.alloc (.cells #[.slice a n c, .func (.func 86) #[] #[]] 137))) := (belowRefl w).alloc (Nat.le_refl _) _
 have HP : Hid (GRow encR w a xs) := hp
 have HX : Hid (n = xs.length) := hx
 clear hp hx
 go_enter Tryz.func103, Tryz.ntmps103
 go_upto_region 1 with fail
 generalize (w.alloc (.cells #[.slice a n c, .func (.func 86) #[] #[]] 137)) = w0 at *
 have x0 := BA0.out.c0
 go_wp2
 go_loopw [3, 9] (fun v t wr => ∃ k : Nat, k ≤ n ∧ t = .int .i64 k ∧ Hid (GOwn encS 9 wr (w.heap.size + 1) v (ckeysB (xs.take k))) ∧ Hid (Below w.heap.size w wr) ∧ Hid (Bx wr w.heap.size [.slice a n c, .func (.func 86) #[] #[]])) (fun _ t _ => n - (intOf t).toNat)
 case atStart => exact ⟨0, Nat.zero_le _, rfl, GOwn.nil _ _, HB0, BA0⟩
 case round =>
  clear BA0 HB0 x0
  obtain ⟨k, hk, rfl, HO, HB, BA⟩ := hrel
  by_cases hlt : k < n
  ·have hlt' : (k : Int) < (n : Int) := by omega
   have h0 : (0 : Int) ≤ (k : Int) := by omega
   have hkx : k < xs.length := by rw [← HX.out]; exact hlt
   obtain ⟨b, off, rfl, hbl, hc⟩ := (HP.out.below HB.out) (by omega)
   have r0 := (rat hc k hkx).1
   have r1 := (rat hc k hkx).2
   have HNX : Hid (ckeysB (xs.take (k + 1)) = ckeysB (xs.take k) ++ [xs[k].1]) := by
    show _ = _
    unfold ckeysB
    rw [List.take_add_one, List.getElem?_eq_getElem hkx, List.map_append]
    rfl
   have HLn : Hid ((ckeysB (xs.take k)).length ≤ 100000000) := by show _ ≤ _; rw [ckeysB_len]; exact Nat.le_trans (List.length_take_le _ _) (by omega)
   obtain ⟨x, hx⟩ : ∃ x, x = xs[k] := ⟨_, rfl⟩
   rw [← hx] at r0 r1 HNX
   clear hx hkx hc
   obtain ⟨F, hF⟩ : ∃ F, F = ckeysB (xs.take k) := ⟨_, rfl⟩
   rw [← hF] at HO HNX HLn
   clear hF
   have hln := HLn.out
   have HB1 : Hid (Below w.heap.size w (wr.alloc (.cells #[.string x.1, .string x.2] 98))) := HB.out.alloc HB.out.size _
   have BX1 : Hid (Bx (wr.alloc (.cells #[.string x.1, .string x.2] 98)) wr.heap.size [.string x.1, .string x.2]) := Bx.new wr [.string x.1, .string x.2] 98
   have BA1 : Hid (Bx (wr.alloc (.cells #[.string x.1, .string x.2] 98)) w.heap.size [.slice (some ⟨b, off, none⟩) n c, .func (.func 86) #[] #[]]) := BA.out.alloc _
   have O1 := hide (HO.out.alloc (.cells #[.string x.1, .string x.2] 98))
   go_upto_region 5 with fail
   clear r0 r1 BA HO HB
   generalize (wr.alloc (.cells #[.string x.1, .string x.2] 98)) = w1 at *
   have y1 := BA1.out.c1
   have x0 := BX1.out.c0
   have x1 := BX1.out.c1
   go_wp2_with fail
   refine (key48 x _).mono ?_
   rintro e w2 ⟨rfl, hb2⟩
   have HB2 : Hid (Below w.heap.size w w2) := HB1.out.trans (hb2.mono HB1.out.size)
   have O2 := hide (O1.out.below hb2)
   have BA2 := hide (BA1.out.below hb2)
   have hsz2 := BA2.out.lt
   clear hb2 y1 x0 x1
   go_wp2_with (at_builtin; refine wpAppS rfl _ _ rfl x.1 rfl O2.out rfl hln (Nat.succ_le_of_lt hsz2) ?_)
   intro v' w3 ho3 hb3
   have O3 : Hid (GOwn encS 9 w3 (w.heap.size + 1) v' (F ++ [x.1])) := ho3
   have HB3 : Hid (Below w.heap.size w w3) := HB2.out.trans (hb3.mono (Nat.le_succ _))
   have BA3 := hide (bx_low BA2.out hb3 (Nat.lt_succ_self _))
   clear ho3 hb3
   go_wp2
   go_roundw
   case rel => exact ⟨k + 1, by omega, by go_num, by rw [HNX.out]; exact O3, HB3, BA3⟩
   case measure => simp [intOf]; omega
  ·have hd : ¬ (k : Int) < (n : Int) := by omega
   have HE : Hid (xs.take k = xs) := List.take_of_length_le (by rw [← HX.out]; omega)
   rw [HE.out] at HO
   have HL : Hid ((ckeysB xs).length = n) := by show _ = _; rw [ckeysB_len, HX.out]
   obtain ⟨a1, c1, rfl, _⟩ := HO.out.row
   rw [HL.out] at HO ⊢
   go_wp2
   go_ret
   exact ⟨a1, c1, rfl, GOwn.mono HO.out (Nat.le_succ _), HB.out⟩
set_option maxRecDepth 100000 in
set_option maxHeartbeats 1000000 in
theorem place52 (xs : List Rg) (a : Option Addr) (c n : Nat) (s : ByteArray) (hx : n = xs.length) (hn : n ≤ 10000000) (w : World) (hp : GRow encR w a xs) :
  Calls Tryz.prog 90 #[.agg #[.slice a n c, .func (.func 86) #[] #[]], .string s] w fun e w' => e = .returned (.int .i64 (idxN (ckeysB xs) s 0)) ∧ Below w.heap.size w w' := by
 have HB0 : Hid (Below w.heap.size w (w.alloc (.cells #[.slice a n c, .func (.func 86) #[] #[]] 137))) := (belowRefl w).alloc (Nat.le_refl _) _
 have BA0 : Hid (Bx (w.alloc (.cells #[.slice a n c, .func (.func 86) #[] #[]] 137)) w.heap.size [.slice a n c, .func (.func 86) #[] #[]]) := Bx.new w [.slice a n c, .func (.func 86) #[] #[]] 137
 have H := hide (keys64 xs a c n hx hn (w.alloc (.cells #[.slice a n c, .func (.func 86) #[] #[]] 137)) (hp.below HB0.out))
 have HX : Hid (n = (ckeysB xs).length) := by show _ = _; rw [ckeysB_len, hx]
 clear hp hx
 go_enter Tryz.func90, Tryz.ntmps90
 go_wp2_with fail
 refine H.out.mono ?_
 rintro e w1 ⟨a1, c1, rfl, ho, hb1⟩
 have HB1 : Hid (Below w.heap.size w w1) := HB0.out.trans (hb1.mono HB0.out.size)
 have RO : Hid (GRow encS w1 a1 (ckeysB xs)) := by have h := ho; rw [HX.out] at h; exact h.grow
 clear ho hb1
 go_wp2_with fail
 refine (idxS (ckeysB xs) a1 c1 n s HX.out (by omega) _ RO.out).mono ?_
 rintro e w2 ⟨rfl, hb2⟩
 have HB2 : Hid (Below w.heap.size w w2) := HB1.out.trans (hb2.mono HB1.out.size)
 clear hb2
 go_wp2
 go_ret
 exact ⟨rfl, HB2.out⟩
end Go.Proofs.YtnmggknpllnjiaaGreat

namespace Go.Proofs.YtnmggknpllnjiaaGreat
open Go.RowKit
open KM
open VM
attribute [local go_sem ↓] Go.wp_at_zero Go.wp_at_succ

theorem not_leC (a b : ByteArray) : (!(Op.bytesLess a.toList b.toList || a.toList == b.toList)) = lt b a := by
 have h := not_lt b a
 unfold le at h
 rw [← h]
 unfold lt
 simp
theorem gt_lt (a b : ByteArray) : (!Op.bytesLess a.toList b.toList && !(a.toList == b.toList)) = lt b a := by
 rw [← Bool.not_or]
 exact not_leC a b
set_option maxRecDepth 100000 in
set_option maxHeartbeats 1000000 in
theorem with54 (x : Rg) (s : ByteArray) (v : Value) (lb kb : Nat) (w : World) (hl : Bx w lb [v, .func (.func 86) #[] #[]]) (hk : Bx w kb [.string s]) :
  Calls Tryz.prog 92 #[.agg #[.string x.1, .string x.2], .pointer (some ⟨lb, 0, none⟩), .pointer (some ⟨kb, 0, none⟩)] w fun e w' => e = .returned (.bool (lt s x.1)) ∧ Below w.heap.size w w' := by
 have X0 : Hid (Bx (w.alloc (.cells #[.string x.1, .string x.2] 98)) w.heap.size [.string x.1, .string x.2]) := Bx.new w [.string x.1, .string x.2] 98
 have HB0 : Hid (Below w.heap.size w (w.alloc (.cells #[.string x.1, .string x.2] 98))) := (belowRefl w).alloc (Nat.le_refl _) _
 have L0 : Hid (Bx (w.alloc (.cells #[.string x.1, .string x.2] 98)) lb [v, .func (.func 86) #[] #[]]) := hl.alloc _
 have K0 : Hid (Bx (w.alloc (.cells #[.string x.1, .string x.2] 98)) kb [.string s]) := hk.alloc _
 clear hl hk
 go_enter Tryz.func92, Tryz.ntmps92
 go_upto_region 1 with fail
 generalize (w.alloc (.cells #[.string x.1, .string x.2] 98)) = w0 at *
 have y0 := X0.out.c0
 have y1 := X0.out.c1
 have l1 := L0.out.c1
 have k0 := K0.out.c0
 refine wp_region_held_drew (S := fun w' => w'.cell? ⟨w.heap.size, 0, none⟩ = some (.string x.1) ∧ w'.cell? ⟨w.heap.size, 1, none⟩ = some (.string x.2) ∧ w'.cell? ⟨lb, 1, none⟩ = some (.func (.func 86) #[] #[]) ∧ w'.cell? ⟨kb, 0, none⟩ = some (.string s)) (by kernel_rfl) ⟨y0, y1, l1, k0⟩ (fun hHeld => ?_)
 (refine tk 0 ?_ rfl (Or.inl ⟨by rfl, ?_⟩) ?_; rotate_left; (focus (intro w h; (try dsimp only at h); go_simp; (try with_reducible rfl))); simp only [Act.put, tA, tB, tD, tE, tF])
 (refine tk 1 ?_ rfl (Or.inl ⟨by rfl, ?_⟩) ?_; rotate_left; (focus (intro w h; (try dsimp only at h); go_simp; (try with_reducible rfl))); simp only [Act.put, tA, tB, tC, tD, tE, tF])
 (refine tk 2 ?_ rfl (Or.inl ⟨by rfl, ?_⟩) ?_; rotate_left; (focus (intro w h; (try dsimp only at h); go_simp; (try with_reducible rfl))); simp only [Act.put, tA, tB, tC, tD, tE, tF])
 (refine tk 4 ?_ rfl (Or.inl ⟨by rfl, ?_⟩) ?_; rotate_left; (focus (intro w h; (try dsimp only at h); go_simp; (try with_reducible rfl))); simp only [Act.put, tA, tB, tC, tD, tE, tF])
 refine wpAnyH_ready (rs := [3]) (by kernel_rfl) (by simp) ?_
 refine AllReadyH.cons rfl (fun K hK => ?_) AllReadyH.nil
 go_simp
 go_wp2_with fail
 refine (key48 x _).mono ?_
 rintro e w1 ⟨rfl, hb1⟩
 have hbu1 := undrew hb1
 have HB1 : Hid (Below w.heap.size w w1) := HB0.out.trans (hbu1.mono HB0.out.size)
 have X1 := hide (X0.out.below hbu1)
 have L1 := hide (L0.out.below hbu1)
 have K1 := hide (K0.out.below hbu1)
 go_wp2_with fail
 refine hK.out _ _ ⟨X1.out.c0, X1.out.c1, L1.out.c1, K1.out.c0⟩ (fun hHeld1 => ?_)
 clear hK K hb1 hbu1
 (refine tk 5 ?_ rfl (Or.inl ⟨by rfl, ?_⟩) ?_; rotate_left; (focus (intro w h; (try dsimp only at h); go_simp; (try with_reducible rfl))); simp only [Act.put, tA, tB, tC, tD, tE, tF])
 (refine tk 6 ?_ rfl (Or.inl ⟨by rfl, ?_⟩) ?_; rotate_left; (focus (intro w h; (try dsimp only at h); go_simp; (try with_reducible rfl))); simp only [Act.put, tA, tB, tC, tD, tE, tF])
 refine wpAnyH_done (by kernel_rfl) ?_ _
 go_wp2
 go_ret
 exact ⟨by rw [← gt_lt x.1 s]; rfl, HB1.out⟩
def idxG : List Rg → ByteArray → Nat → Int
 | [], _, _ => -1
 | x :: l, s, k => if lt s x.1 = true then (k : Int) else idxG l s (k + 1)
theorem idxG_yes {l : List Rg} {s : ByteArray} {k : Nat} (hk : k < l.length) (h : lt s l[k].1 = true) : idxG (l.drop k) s k = (k : Int) := by
 rw [List.drop_eq_getElem_cons hk]
 unfold idxG
 rw [if_pos h]
theorem idxG_no {l : List Rg} {s : ByteArray} {k : Nat} (hk : k < l.length) (h : lt s l[k].1 = false) : idxG (l.drop k) s k = idxG (l.drop (k + 1)) s (k + 1) := by
 rw [List.drop_eq_getElem_cons hk]
 conv => lhs; unfold idxG
 rw [if_neg (by rw [h]; simp)]
theorem idxG_end {l : List Rg} {s : ByteArray} {k : Nat} (hk : l.length ≤ k) : idxG (l.drop k) s k = -1 := by
 rw [List.drop_of_length_le hk]
 rfl
set_option maxRecDepth 100000 in
set_option maxHeartbeats 1000000 in
theorem idxF53 (xs : List Rg) (a : Option Addr) (c n : Nat) (s : ByteArray) (v : Value) (lb kb : Nat) (hx : n = xs.length) (hn : n ≤ 10000000) (w : World) (hp : GRow encR w a xs) (hl : Bx w lb [v, .func (.func 86) #[] #[]]) (hk : Bx w kb [.string s]) :
  Calls Tryz.prog 91 #[.slice a n c, .func (.func 92) #[] #[.pointer (some ⟨lb, 0, none⟩), .pointer (some ⟨kb, 0, none⟩)]] w fun e w' => e = .returned (.int .i64 (idxG xs s 0)) ∧ Below w.heap.size w w' := by
 have HP : Hid (GRow encR w a xs) := hp
 have HL := hide hl
 have HK := hide hk
 have HX : Hid (n = xs.length) := hx
 clear hp hx hl hk
 go_enter Tryz.func91, Tryz.ntmps91
 go_wp2
 go_loopw [8] (fun t wr => ∃ k : Nat, k ≤ n ∧ t = .int .i64 k ∧ Hid (idxG (xs.drop k) s k = idxG xs s 0) ∧ Hid (Below w.heap.size w wr)) (fun t _ => n - (intOf t).toNat)
 case atStart => exact ⟨0, Nat.zero_le _, rfl, rfl, belowRefl w⟩
 case round =>
  obtain ⟨k, hk, rfl, HI, HB⟩ := hrel
  by_cases hlt : k < n
  ·have hlt' : (k : Int) < (n : Int) := by omega
   have h0 : (0 : Int) ≤ (k : Int) := by omega
   have hkx : k < xs.length := by rw [← HX.out]; exact hlt
   obtain ⟨b, off, rfl, hbl, hc⟩ := (HP.out.below HB.out) (by omega)
   have r0 := (rat hc k hkx).1
   have r1 := (rat hc k hkx).2
   have HY : Hid (lt s xs[k].1 = true → (k : Int) = idxG xs s 0) := fun h => by show _ = _; rw [← HI.out]; exact (idxG_yes hkx h).symm
   have HN : Hid (lt s xs[k].1 = false → idxG (xs.drop (k + 1)) s (k + 1) = idxG xs s 0) := fun h => by show _ = _; rw [← HI.out]; exact (idxG_no hkx h).symm
   obtain ⟨x, hx⟩ : ∃ x, x = xs[k] := ⟨_, rfl⟩
   rw [← hx] at r0 r1 HY HN
   clear hx hkx hc HI
   cases hq : lt s x.1
   ·have HR := hide (HN.out hq)
    clear HY HN
    go_wp2_with fail
    refine (with54 x s v lb kb _ (HL.out.below HB.out) (HK.out.below HB.out)).mono ?_
    rintro e w2 ⟨rfl, hb2⟩
    have HB2 : Hid (Below w.heap.size w w2) := HB.out.trans (hb2.mono HB.out.size)
    rw [hq]
    clear hb2 r0 r1 HB hq
    go_wp2
    go_roundw
    case rel => exact ⟨k + 1, by omega, by go_num, HR, HB2⟩
    case measure => simp [intOf]; omega
   ·have HR : Hid ((k : Int) = idxG xs s 0) := HY.out hq
    clear HY HN
    go_wp2_with fail
    refine (with54 x s v lb kb _ (HL.out.below HB.out) (HK.out.below HB.out)).mono ?_
    rintro e w2 ⟨rfl, hb2⟩
    have HB2 : Hid (Below w.heap.size w w2) := HB.out.trans (hb2.mono HB.out.size)
    rw [hq]
    clear hb2 r0 r1 HB hq
    go_wp2
    go_ret
    exact ⟨ret_int HR.out, HB2.out⟩
  ·have hd : ¬ (k : Int) < (n : Int) := by omega
   have HR : Hid ((-1 : Int) = idxG xs s 0) := by show _ = _; rw [← HI.out]; exact (idxG_end (by rw [← HX.out]; omega)).symm
   clear HI
   go_wp2
   go_ret
   exact ⟨ret_int HR.out, HB.out⟩
end Go.Proofs.YtnmggknpllnjiaaGreat

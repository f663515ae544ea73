/- What laws.markText, markStringS, markPutS, markDisk, heldStringS, heldPutS and heldDisk do. -/
import Derived.Test.YtekjpoenbcnhdaaGreatPa02
import Derived.Lib.ItoaNum
import Derived.Lib.ItoaLen
import Derived.Lib.Strings
import Derived.Lib.Builder
import Derived.Lib.AppendStr
namespace Go.Proofs.YtekjpoenbcnhdaaGreat
open Go.RowKit
open DM
attribute [local go_sem ↓] Go.wp_at_zero Go.wp_at_succ

theorem Own.str {w : World} {base : Nat} {v : Value} {l : List UInt8} (h : Own w base v l) :
  (convert 22 9 v).run Tryz.prog w = .ok (.string ⟨l.toArray⟩) w := by
 have h0 := h
 rcases h.2 with ⟨rfl, h1⟩ | ⟨g, cap, cur, rfl, hg, hh, hnc, hcp, hcs, htake⟩
 ·obtain rfl : l = [] := List.length_eq_zero_iff.1 h1
  rw [run_convert_bytes_string w 22 9 5 none 0 0 Tryz.underlying22 Tryz.underlying5 Tryz.underlying9]
  rfl
 ·refine run_convert_bytes_back (P := Tryz.prog) w 22 9 5 ⟨g, 0, none⟩ cap l Tryz.underlying22 Tryz.underlying5 Tryz.underlying9 ?_
  intro j hj
  rw [Addr.add_lit, Nat.zero_add, World.ownsRow.cellAt h0 j (by omega)]
  simp [bv, hj]
theorem toNat_ofNat (x : Nat) (h : x < 256) : ((UInt8.ofNat x).toNat : Int) = (x : Int) := by
 simp only [UInt8.toNat_ofNat']; omega

theorem conv1 (wr : World) (b : UInt8) (x : Int) (hx : x = (b.toNat : Int)) : (convert 22 9 (.slice (some ⟨wr.heap.size, 0, none⟩) 1 1)).run Tryz.prog (wr.alloc (.cells #[.int .u8 x] 5)) = .ok (.string ⟨#[b]⟩) (wr.alloc (.cells #[.int .u8 x] 5)) := by
 subst hx
 have h : Own (wr.alloc (.cells #[.int .u8 (b.toNat : Int)] 5)) wr.heap.size (.slice (some ⟨wr.heap.size, 0, none⟩) 1 1) [b] :=
  World.ownsRow_lit (size := 1) wr #[.int .u8 (b.toNat : Int)] 1 (Nat.le_refl _) (by unfold maxLen; omega) rfl
 exact h.str
/-! marks -/
theorem own_form {w : World} {base e size n c : Nat} {a : Option Addr} {xs : List Value} (h : w.ownsRow base e size (.slice a n c) n xs) (hn : 0 < n) : ∃ g, a = some ⟨g, 0, none⟩ ∧ base ≤ g ∧ g < w.heap.size := by
 obtain ⟨g, cap, hv, h1, h2⟩ := h.form hn
 cases hv
 exact ⟨g, rfl, h1, h2⟩
theorem grown_below {w w' : World} {row : Option Nat} (hb : Below w.heap.size w w') : w.grownBy w' row := ⟨hb.os, hb.tape, hb.output, hb.size, fun k hk _ => hb.block k hk⟩
theorem grown_trans {a b c : World} {row : Option Nat} (h : a.grownBy b row) (k : b.grownBy c row) : a.grownBy c row :=
 ⟨k.os.trans h.os, k.tape.trans h.tape, k.output.trans h.output, Nat.le_trans h.size k.size, fun j hj hne => (k.block j (Nat.lt_of_lt_of_le hj h.size) hne).trans (h.block j hj hne)⟩
theorem grown_refl (w : World) (row : Option Nat) : w.grownBy w row := ⟨rfl, rfl, rfl, Nat.le_refl _, fun _ _ _ => rfl⟩

theorem own_apart {w : World} {b b' e e' s s' n n' : Nat} {v v' : Value} {xs xs' : List Value} (h : w.ownsRow b e s v n xs) (h' : w.ownsRow b' e' s' v' n' xs') (hne : e ≠ e') : v.ownBlock = none ∨ v.ownBlock ≠ v'.ownBlock := by
 rcases h.2 with ⟨rfl, _⟩ | ⟨g, cap, cur, rfl, _, hh, _⟩
 ·exact Or.inl rfl
 ·right
  intro he
  rcases h'.2 with ⟨rfl, _⟩ | ⟨g', cap', cur', rfl, _, hh', _⟩
  ·cases he
  ·simp only [Value.ownBlock, Option.some.injEq] at he
   rw [he, hh'] at hh
   simp only [Option.some.injEq, Obj.cells.injEq] at hh
   exact hne hh.2.1.symm

structure Kept2 (w w' : World) (v1 v2 : Value) : Prop where
 os : w'.os = w.os
 tape : w'.tape = w.tape
 output : w'.output = w.output
 size : w.heap.size ≤ w'.heap.size
 block : ∀ k, k < w.heap.size → some k ≠ v1.ownBlock → some k ≠ v2.ownBlock → w'.heap[k]? = w.heap[k]?

theorem Kept2.below {w w' : World} {v1 v2 : Value} (h : Kept2 w w' v1 v2) (B : Nat) (hB : B ≤ w.heap.size) (h1 : ∀ k, v1.ownBlock = some k → B ≤ k) (h2 : ∀ k, v2.ownBlock = some k → B ≤ k) : Below B w w' :=
 ⟨h.os, h.tape, h.output, h.size, fun k hk => h.block k (Nat.lt_of_lt_of_le hk hB) (fun e => by have := h1 k e.symm; omega) (fun e => by have := h2 k e.symm; omega)⟩

/-! held -/
end Go.Proofs.YtekjpoenbcnhdaaGreat

namespace Go.Proofs.YtekjpoenbcnhdaaGreat
open Go.RowKit
attribute [local go_sem ↓] Go.wp_at_zero Go.wp_at_succ

theorem Own.nil (w : World) (base : Nat) : Own w base (.slice none 0 0) [] := World.ownsRow_nil _ _ _ _

theorem Own.empty (w : World) (base : Nat) (hb : base ≤ w.heap.size) : Own (w.alloc (.cells #[] 5)) base (.slice (some ⟨w.heap.size, 0, none⟩) 0 0) [] :=
 World.ownsRow_lit (size := 1) w #[] 0 hb (by unfold maxLen; omega) rfl

theorem wpApp {ops : Array Oper} {rest : List Oper} {o : Oper} {a : Act} {Q : Exit → Act → World → Prop} (hgd : o.guard = none) (s x : Operand)
  (ho : o.op = .call { callee := .builtin .append, args := #[s, x], argTypes := #[22, 22] }) {wr : World} {cs : Array Value} (w0 : World) {base : Nat} {v : Value} {pre : List UInt8} (news : List UInt8)
  (hs : a.eval s = v) (hown : Own wr base v pre) (hx : a.eval x = .slice (some ⟨wr.heap.size, 0, none⟩) news.length news.length) (hcs : cs.toList = bv news)
  (hlen : pre.length + news.length ≤ 140737488355328) (hb : Below base w0 wr) (hB : base ≤ w0.heap.size)
  (h : ∀ v' w', Own w' base v' (pre ++ news) → Below base w0 w' → (wr.alloc (.cells cs 5)).grownBy w' v.ownBlock → wpList Tryz.prog ops Q rest (a.put o.dst v') w') :
  wpList Tryz.prog ops Q (o :: rest) a (wr.alloc (.cells cs 5)) := by
 obtain ⟨i0, hi, hz0, hz1, hz2⟩ := info_parts Tryz.info5
 have hsz := hb.size
 refine wpList_append_own _ hgd s x 22 ho base 5 i0 (.int .u8 0) 1 1 Tryz.underlying22 hi hz0 hz1 hz2 rfl (by decide) v pre.length (bv pre) hs (World.ownsRow.alloc hown _) ⟨wr.heap.size, 0, none⟩ news.length news.length (bv news) hx (by rw [bv_len]; omega) ?_ ?_ (by unfold maxLen; omega) (by omega) (by simp; omega) ?_
 ·intro j u hj
  have hc : (wr.alloc (.cells cs 5)).cell? ⟨wr.heap.size, j, none⟩ = cs[j]? := World.cell?_alloc_mark wr cs 5 (0, 0) j
  rw [Addr.add_lit, Nat.zero_add, hc, ← hj, ← hcs]
  simp
 ·intro u hu
  simp only [bv, List.mem_map] at hu
  obtain ⟨b, _, rfl⟩ := hu
  rfl
 ·intro v' w' h1 h2 _
  refine h v' w' ?_ ((hb.alloc (by omega) _).grown h2 (by simp; omega) (fun j hj => (World.ownsRow.lt hown j hj).1)) h2
  unfold Own
  simpa [bv] using h1

theorem byteCell (x : Int) (b : UInt8) (h : x = (b.toNat : Int)) : #[Value.int .u8 x].toList = bv [b] := by subst h; rfl

theorem ofNatCell (x : Int) (n : Nat) (hn : n < 256) (h : x = (n : Int)) : #[Value.int .u8 x].toList = bv [UInt8.ofNat n] := byteCell _ _ (by rw [toNat_ofNat n hn]; exact h)

theorem pre_len {n m : Nat} {pre : List UInt8} (hn : n ≤ 1000000000) (h : pre ++ WM.varL m = WM.varL n) : pre.length ≤ 10 := by
 have h1 := WM.varL_len5 n (by omega)
 have h2 := congrArg List.length h
 simp at h2
 omega

set_option maxHeartbeats 400000 in
theorem var28 (n : Nat) (hn : n ≤ 1000000000) (w : World) :
  Calls Tryz.prog 81 #[.int .i64 n] w fun e w' => e = .returned (.string ⟨(WM.varL n).toArray⟩) ∧ Below w.heap.size w w' := by
 go_enter Tryz.func81, Tryz.ntmps81
 go_wp2
 go_loopw [0, 3] (fun t v wr => ∃ (m : Nat) (pre : List UInt8), m ≤ n ∧ t = .int .i64 m ∧ Own wr w.heap.size v pre ∧ Hid (pre ++ WM.varL m = WM.varL n) ∧ Below w.heap.size w wr) (fun t _ _ => (intOf t).toNat)
 case atStart =>
  exact ⟨n, [], Nat.le_refl _, rfl, Own.empty _ _ (Nat.le_refl _), rfl, (Below.refl _ _).alloc (Nat.le_refl _) _⟩
 case round =>
  obtain ⟨m, pre, hm, rfl, hown, HE, hb⟩ := hrel
  have hlen := pre_len hn HE.out
  by_cases hlt : 127 < m
  ·go_wp2_with (at_builtin; refine wpApp rfl _ _ rfl w [UInt8.ofNat (m % 128 + 128)] rfl hown rfl (ofNatCell _ _ (by omega) (by omega)) (by simp; omega) hb (Nat.le_refl _) ?_)
   intro v' w1 hown1 hb1 _
   clear hown hb
   go_wp2
   go_roundw
   case rel => exact ⟨m / 128, _, by omega, by go_num, hown1, by have := HE.out; rw [WM.varL_big m hlt] at this; simpa [Hid] using this, hb1⟩
   case measure => simp [intOf]; omega
  ·go_wp2_with (at_builtin; refine wpApp rfl _ _ rfl w [UInt8.ofNat m] rfl hown rfl (ofNatCell _ _ (by omega) (by omega)) (by simp; omega) hb (Nat.le_refl _) ?_)
   intro v' w1 hown1 hb1 _
   clear hown hb
   have hst := hown1.str
   go_wp2
   go_ret
   refine ⟨?_, hb1⟩
   have := HE.out
   rw [WM.varL_small m (by omega)] at this
   rw [this]
   rfl

set_option maxHeartbeats 400000 in
theorem ivar_yes (n : Nat) (hn : n ≤ 1000000000) (w : World) :
  Calls Tryz.prog 93 #[.int .i64 n] w fun e w' => e = .returned (.tuple #[.string ⟨(WM.varL n).toArray⟩, .bool true]) ∧ Below w.heap.size w w' := by
 have h0 : (0 : Int) ≤ (n : Int) := by omega
 have h1 : (n : Int) ≤ 1000000000 := by omega
 go_enter Tryz.func93, Tryz.ntmps93
 go_wp2
 go_loopw [0, 4] (fun t v wr => ∃ (m : Nat) (pre : List UInt8), m ≤ n ∧ t = .int .i64 m ∧ Own wr w.heap.size v pre ∧ Hid (pre ++ WM.varL m = WM.varL n) ∧ Below w.heap.size w wr) (fun t _ _ => (intOf t).toNat)
 case atStart =>
  exact ⟨n, [], Nat.le_refl _, rfl, Own.nil _ _, rfl, Below.refl _ _⟩
 case round =>
  obtain ⟨m, pre, hm, rfl, hown, HE, hb⟩ := hrel
  have hlen := pre_len hn HE.out
  by_cases hlt : 127 < m
  ·go_wp2_with (at_builtin; refine wpApp rfl _ _ rfl w [UInt8.ofNat (m % 128 + 128)] rfl hown rfl (ofNatCell _ _ (by omega) (by omega)) (by simp; omega) hb (Nat.le_refl _) ?_)
   intro v' w1 hown1 hb1 _
   clear hown hb
   go_wp2
   go_roundw
   case rel => exact ⟨m / 128, _, by omega, by go_num, hown1, by have := HE.out; rw [WM.varL_big m hlt] at this; simpa [Hid] using this, hb1⟩
   case measure => simp [intOf]; omega
  ·go_wp2_with (at_builtin; refine wpApp rfl _ _ rfl w [UInt8.ofNat m] rfl hown rfl (ofNatCell _ _ (by omega) (by omega)) (by simp; omega) hb (Nat.le_refl _) ?_)
   intro v' w1 hown1 hb1 _
   clear hown hb
   have hst := hown1.str
   go_wp2
   go_ret2
   refine ⟨?_, hb1⟩
   have := HE.out
   rw [WM.varL_small m (by omega)] at this
   rw [this]
   rfl

def rvV (at' : Nat) : Option (Nat × Nat) → Value
 | none => .tuple #[.int .i64 0, .int .i64 0, .bool false]
 | some (n, k) => .tuple #[.int .i64 (n : Int), .int .i64 ((at' + k : Nat) : Int), .bool true]

theorem drop_at (s : ByteArray) (q : Nat) (h : q < s.size) : s.data.toList.drop q = s[q] :: s.data.toList.drop (q + 1) := by
 rw [List.drop_eq_getElem_cons (by simpa using h)]
 rfl

theorem rv_hi {s : ByteArray} {p k N W : Nat} {R : Option (Nat × Nat)} (hk : k < 5) (hlt : p + k < s.size) (hW : W = 128 ^ k) (hx : (127 : Int) < (s[p + k].toNat : Int))
  (h : WM.rvGo (5 - k) N k (s.data.toList.drop (p + k)) = R) : WM.rvGo (5 - (k + 1)) (N + s[p + k].toNat % 128 * W) (k + 1) (s.data.toList.drop (p + (k + 1))) = R := by
 rw [drop_at s (p + k) hlt, show 5 - k = (5 - (k + 1)) + 1 by omega] at h
 rw [WM.rvGo, if_neg (by omega), ← hW] at h
 exact h

theorem rv_lo {s : ByteArray} {p k N W : Nat} {R : Option (Nat × Nat)} (hk : k < 5) (hlt : p + k < s.size) (hW : W = 128 ^ k) (hx : (s[p + k].toNat : Int) ≤ 127)
  (h : WM.rvGo (5 - k) N k (s.data.toList.drop (p + k)) = R) :
  (if 1000000000 < N + s[p + k].toNat % 128 * W ∨ (s[p + k].toNat = 0 ∧ 0 < k) then none else some (N + s[p + k].toNat % 128 * W, k + 1)) = R := by
 rw [drop_at s (p + k) hlt, show 5 - k = (5 - (k + 1)) + 1 by omega] at h
 rw [WM.rvGo, if_pos (by omega), ← hW] at h
 exact h

theorem rv_out {s : ByteArray} {p k N : Nat} {R : Option (Nat × Nat)} (hlt : ¬ p + k < s.size)
  (h : WM.rvGo (5 - k) N k (s.data.toList.drop (p + k)) = R) : R = none := by
 rw [List.drop_of_length_le (by simp only [Array.length_toList]; exact Nat.le_of_not_lt hlt)] at h
 rw [← h]
 cases 5 - k <;> simp [WM.rvGo]

theorem rv_five {s : ByteArray} {p k N : Nat} {R : Option (Nat × Nat)} (hk : k = 5)
  (h : WM.rvGo (5 - k) N k (s.data.toList.drop (p + k)) = R) : R = none := by
 subst hk
 rw [← h]
 rfl

theorem mul_bd (x W : Nat) (hW : W ≤ 34359738368) : 0 ≤ (x : Int) % 128 * (W : Int) ∧ (x : Int) % 128 * (W : Int) ≤ 4398046511104 := by
 have h1 : x % 128 * W ≤ 128 * 34359738368 := Nat.mul_le_mul (by omega) hW
 have h2 : ((x % 128 * W : Nat) : Int) = (x : Int) % 128 * (W : Int) := by simp
 rw [← h2]
 omega

theorem mul_cast (N x W : Nat) : (N : Int) + (x : Int) % 128 * (W : Int) = ((N + x % 128 * W : Nat) : Int) := by simp

theorem mul_zero' (N W x : Nat) (h : x = 0) : (N : Int) + (x : Int) % 128 * (W : Int) = (N : Int) := by subst h; simp

theorem mul_lt (N x W : Nat) (h : N < W) : N + x % 128 * W < W * 128 := by
 have : x % 128 * W ≤ 127 * W := Nat.mul_le_mul_right _ (by omega)
 omega

theorem pow_five {k W : Nat} (hW : W = 128 ^ k) (hk : k ≤ 5) (h : ¬ W ≤ 1000000000) : k = 5 := by
 rcases (show k = 0 ∨ k = 1 ∨ k = 2 ∨ k = 3 ∨ k = 4 ∨ k = 5 by omega) with rfl | rfl | rfl | rfl | rfl | rfl <;> omega

theorem pow_lt {k W : Nat} (hW : W = 128 ^ k) (hk : k ≤ 5) (h : W ≤ 1000000000) : k < 5 := by
 rcases (show k = 0 ∨ k = 1 ∨ k = 2 ∨ k = 3 ∨ k = 4 ∨ k = 5 by omega) with rfl | rfl | rfl | rfl | rfl | rfl <;> omega

theorem ret_rv {p : Nat} {R : Option (Nat × Nat)} {a b : Int} {c : Bool} {r : Option (Nat × Nat)} (h : r = R) (e : rvV p r = .tuple #[.int .i64 a, .int .i64 b, .bool c]) :
  Ending.returned (.tuple #[.int .i64 a, .int .i64 b, .bool c]) = .returned (rvV p R) := by rw [← h, e]

set_option maxHeartbeats 400000 in
theorem irv (s : ByteArray) (p : Nat) (h : p ≤ s.size) (hs : s.size ≤ 1048576) (w : World) :
  Calls Tryz.prog 104 #[.string s, .int .i64 p] w fun e w' => e = .returned (rvV p (WM.rv (s.data.toList.drop p))) ∧ w' = w := by
 have h0 : (0 : Int) ≤ (p : Int) := by omega
 have h1 : (p : Int) ≤ (s.size : Int) := by omega
 have hd0 : decide ((p : Int) < 0) = false := by simp
 have hd1 : decide (s.size < p) = false := by simp; omega
 go_enter Tryz.func104, Tryz.ntmps104
 go_wp2
 go_loop [7, 8, 9] (fun tn tw ti => ∃ k N W : Nat, k ≤ 5 ∧ p + k ≤ s.size ∧ ti = .int .i64 ((p + k : Nat) : Int) ∧ tn = .int .i64 (N : Int) ∧ tw = .int .i64 (W : Int) ∧ Hid (W = 128 ^ k) ∧ N < W ∧ Hid (WM.rvGo (5 - k) N k (s.data.toList.drop (p + k)) = WM.rv (s.data.toList.drop p))) (fun _ _ ti => s.size - (intOf ti).toNat)
 case atStart =>
  exact ⟨0, 0, 1, by omega, by omega, rfl, rfl, rfl, rfl, by omega, rfl⟩
 case round =>
  obtain ⟨k, N, W, hk, hpk, rfl, rfl, rfl, HW, hN, HE⟩ := hrel
  have hWb : W ≤ 34359738368 := by
   rw [HW.out]
   exact Nat.le_trans (Nat.pow_le_pow_right (by omega) hk) (by omega)
  by_cases hlt : p + k < s.size
  ·have hlt' : (p : Int) + (k : Int) < (s.size : Int) := by omega
   by_cases hk5 : W ≤ 1000000000
   ·have hk5' : (W : Int) ≤ 1000000000 := by omega
    have hklt := pow_lt HW.out hk hk5
    have hP := mul_bd s[p + k].toNat W hWb
    have hP1 := hP.1
    have hP2 := hP.2
    clear hP
    by_cases hx : (127 : Int) < (s[p + k].toNat : Int)
    ·have HE2 := rv_hi hklt hlt HW.out hx HE.out
     have HE3 : Hid _ := HE2
     clear HE2
     go_wp2
     go_round
     case rel =>
      refine ⟨k + 1, N + s[p + k].toNat % 128 * W, W * 128, by omega, by omega, by go_num, by rw [← mul_cast], by simp, ?_, mul_lt _ _ _ hN, HE3⟩
      show W * 128 = 128 ^ (k + 1)
      rw [HW.out, Nat.pow_succ]
     case measure => simp [intOf]; omega
    ·have hx' : (s[p + k].toNat : Int) ≤ 127 := by omega
     have HE2 := rv_lo hklt hlt HW.out hx' HE.out
     have HE3 : Hid _ := HE2
     clear HE2 hx
     by_cases hbig : 1000000000 < (N : Int) + (s[p + k].toNat : Int) % 128 * (W : Int)
     ·go_wp2
      go_ret3
      refine ⟨ret_rv HE3.out ?_, rfl⟩
      rw [if_pos (Or.inl (by rw [mul_cast] at hbig; omega))]
      rfl
     ·have hbig' : (N : Int) + (s[p + k].toNat : Int) % 128 * (W : Int) ≤ 1000000000 := by omega
      have hbn : ¬ 1000000000 < N + s[p + k].toNat % 128 * W := by rw [mul_cast] at hbig'; omega
      have HB : Hid (¬ 1000000000 < N + s[p + k].toNat % 128 * W) := hbn
      clear hbn hbig
      by_cases hz : (s[p + k].toNat : Int) ≤ 0
      ·by_cases hk0 : 0 < k
       ·go_wp2
        go_ret3
        refine ⟨ret_rv HE3.out ?_, rfl⟩
        rw [if_pos (Or.inr ⟨by omega, hk0⟩)]
        rfl
       ·go_wp2
        go_ret3
        refine ⟨ret_rv HE3.out ?_, rfl⟩
        rw [if_neg (by have := HB.out; omega)]
        simp only [rvV]
        rw [← mul_cast, mul_zero' N W s[p + k].toNat (by omega)]
        rfl
      ·go_wp2
       go_ret3
       refine ⟨ret_rv HE3.out ?_, rfl⟩
       rw [if_neg (by have := HB.out; omega)]
       simp only [rvV]
       rw [← mul_cast]
       rfl
   ·have := pow_five HW.out hk hk5
    have hk5' : decide ((W : Int) ≤ 1000000000) = false := by simp; omega
    have HE2 := rv_five this HE.out
    have HE3 : Hid _ := HE2
    clear HE2 this
    go_wp2
    go_ret3
    exact ⟨by rw [HE3.out]; rfl, rfl⟩
  ·have hlt' : decide ((p : Int) + (k : Int) < (s.size : Int)) = false := by simp; omega
   have HE2 := rv_out hlt HE.out
   have HE3 : Hid _ := HE2
   clear HE2
   go_wp2
   go_ret3
   exact ⟨by rw [HE3.out]; rfl, rfl⟩

theorem var28i (a : Int) (h0 : 0 ≤ a) (h1 : a ≤ 1000000000) (w : World) :
  Calls Tryz.prog 81 #[.int .i64 a] w fun e w' => e = .returned (.string ⟨(WM.varL a.toNat).toArray⟩) ∧ Below w.heap.size w w' := by
 obtain ⟨n, rfl⟩ := Int.eq_ofNat_of_zero_le h0
 rw [Int.toNat_natCast]
 exact var28 n (by omega) w

set_option maxHeartbeats 400000 in
theorem in27 (x a b : Int) (h0 : a ≤ x) (h1 : x ≤ b) (w : World) :
  Calls Tryz.prog 83 #[.int .i64 x, .int .i64 a, .int .i64 b] w fun e w' => e = .returned (.bool true) ∧ w' = w := by
 go_enter Tryz.func83, Tryz.ntmps83
 go_wp2
 go_ret
 exact ⟨rfl, rfl⟩

def Pre (s : ByteArray) (p k N : Nat) : Prop := N = WM.val ((s.data.toList.drop p).take k) ∧ ∀ c ∈ (s.data.toList.drop p).take k, 128 ≤ c.toNat

theorem take_more (s : ByteArray) (p k : Nat) (hlt : p + k < s.size) : (s.data.toList.drop p).take (k + 1) = (s.data.toList.drop p).take k ++ [s[p + k]] := by
 have hl : k < (s.data.toList.drop p).length := by simp only [List.length_drop, Array.length_toList]; show k < s.size - p; omega
 rw [List.take_succ_eq_append_getElem hl]
 simp only [List.getElem_drop]
 rfl

theorem Pre.more {s : ByteArray} {p k N W : Nat} (hlt : p + k < s.size) (hW : W = 128 ^ k) (h : Pre s p k N) (hx : ¬ (s[p + k].toNat : Int) < 128) : Pre s p (k + 1) (N + s[p + k].toNat % 128 * W) := by
 have hl : ((s.data.toList.drop p).take k).length = k := by
  rw [List.length_take, List.length_drop, Array.length_toList]
  exact Nat.min_eq_left (by show k ≤ s.size - p; omega)
 refine ⟨?_, ?_⟩
 ·rw [take_more s p k hlt, WM.val_snoc, ← h.1, hl, hW]
 ·intro c hc
  rw [take_more s p k hlt] at hc
  rcases List.mem_append.1 hc with hc | hc
  ·exact h.2 c hc
  ·simp at hc; subst hc; omega

theorem cmp_val {s : ByteArray} {p k N W : Nat} (hlt : p + k < s.size) (hW : W = 128 ^ k) (h : Pre s p k N) (hx : (s[p + k].toNat : Int) < 128) :
  (WM.varL ((N : Int) + (s[p + k].toNat : Int) % 128 * (W : Int)).toNat == (s.extract p ((p : Int) + (k : Int) + 1).toNat).toList) = decide (¬ (s[p + k].toNat = 0 ∧ 0 < k)) := by
 have hl : ((s.data.toList.drop p).take k).length = k := by
  rw [List.length_take, List.length_drop, Array.length_toList]
  exact Nat.min_eq_left (by show k ≤ s.size - p; omega)
 have e1 : ((N : Int) + (s[p + k].toNat : Int) % 128 * (W : Int)).toNat = WM.val ((s.data.toList.drop p).take k ++ [s[p + k]]) := by
  rw [WM.val_snoc, ← h.1, hl, mul_cast, Int.toNat_natCast, hW]
 have e2 : (s.extract p ((p : Int) + (k : Int) + 1).toNat).toList = (s.data.toList.drop p).take k ++ [s[p + k]] := by
  rw [ByteArray.toList_eq, Lib.extract_data, ← take_more s p k hlt, show ((p : Int) + (k : Int) + 1).toNat - p = k + 1 by omega]
 rw [e1, e2]
 have hv := WM.var_val ((s.data.toList.drop p).take k) s[p + k] h.2 (by omega)
 rw [hl] at hv
 rw [Bool.eq_iff_iff, beq_iff_eq, decide_eq_true_iff]
 exact hv

set_option maxRecDepth 100000 in
set_option maxHeartbeats 400000 in
theorem srv (s : ByteArray) (p : Nat) (h : p ≤ s.size) (hs : s.size ≤ 1048576) (w : World) :
  Calls Tryz.prog 106 #[.string s, .int .i64 p] w fun e w' => e = .returned (rvV p (WM.rv (s.data.toList.drop p))) ∧ Below w.heap.size w w' := by
 have h0 : (0 : Int) ≤ (p : Int) := by omega
 have h1 : (p : Int) ≤ (s.size : Int) := by omega
 go_enter Tryz.func106, Tryz.ntmps106
 go_wp2_with (go_at_call 83; refine (in27 _ _ _ h0 h1 _).mono ?_; rintro e w' ⟨rfl, rfl⟩)
 go_loop [7, 8, 9] (fun tn tw ti => ∃ k N W : Nat, k ≤ 5 ∧ p + k ≤ s.size ∧ ti = .int .i64 ((p + k : Nat) : Int) ∧ tn = .int .i64 (N : Int) ∧ tw = .int .i64 (W : Int) ∧ Hid (W = 128 ^ k) ∧ N < W ∧ Pre s p k N ∧ Hid (WM.rvGo (5 - k) N k (s.data.toList.drop (p + k)) = WM.rv (s.data.toList.drop p))) (fun _ _ ti => s.size - (intOf ti).toNat)
 case atStart =>
  exact ⟨0, 0, 1, by omega, by omega, rfl, rfl, rfl, rfl, by omega, ⟨rfl, by simp⟩, rfl⟩
 case round =>
  obtain ⟨k, N, W, hk, hpk, rfl, rfl, rfl, HW, hN, HP, HE⟩ := hrel
  have hWb : W ≤ 34359738368 := by
   rw [HW.out]
   exact Nat.le_trans (Nat.pow_le_pow_right (by omega) hk) (by omega)
  by_cases hlt : p + k < s.size
  ·have hlt' : (p : Int) + (k : Int) < (s.size : Int) := by omega
   by_cases hk5 : k < 5
   ·have hk5' : (p : Int) + (k : Int) < (p : Int) + 5 := by omega
    have hP := mul_bd s[p + k].toNat W hWb
    have hP1 := hP.1
    have h255 : (s[p + k].toNat : Int) ≤ 255 := by have := s[p + k].toNat_lt; omega
    have hP2 := hP.2
    clear hP
    by_cases hx : (s[p + k].toNat : Int) < 128
    ·have hx' : (s[p + k].toNat : Int) ≤ 127 := by omega
     have HE2 := rv_lo hk5 hlt HW.out hx' HE.out
     have HE3 : Hid _ := HE2
     clear HE2 hx'
     by_cases hbig : 1000000000 < (N : Int) + (s[p + k].toNat : Int) % 128 * (W : Int)
     ·go_wp2
      go_quiet (fail)
      go_wp2
      go_ret3
      refine ⟨ret_rv HE3.out ?_, ?_⟩
      ·rw [if_pos (Or.inl (by rw [mul_cast] at hbig; omega))]
       rfl
      ·exact below_drewN (Below.refl _ _) _
     ·have hbig' : (N : Int) + (s[p + k].toNat : Int) % 128 * (W : Int) ≤ 1000000000 := by omega
      have hbn : ¬ 1000000000 < N + s[p + k].toNat % 128 * W := by rw [mul_cast] at hbig'; omega
      have HB : Hid (¬ 1000000000 < N + s[p + k].toNat % 128 * W) := hbn
      clear hbn hbig
      have hbd : decide ((1000000000 : Int) < (N : Int) + (s[p + k].toNat : Int) % 128 * (W : Int)) = false := by simp; omega
      have b0 : IntKind.i64.wrap ((p : Int) + (k : Int) + 1) = (p : Int) + (k : Int) + 1 := by rw [IntKind.wrap_i64]; omega
      have b1 : (p : Int) ≤ (p : Int) + (k : Int) + 1 := by omega
      have b2 : (p : Int) + (k : Int) + 1 ≤ (s.size : Int) := by omega
      have HC : Hid _ := cmp_val hlt HW.out HP hx
      go_wp2
      go_region_held3 (fun _ => True) (trivial) ((go_at_call 81; refine (var28i _ (by omega) (by omega) _).mono ?_; rintro e w' ⟨rfl, hb⟩))
      go_wp2
      ·have ht : (!WM.varL ((N : Int) + (s[p + k].toNat : Int) % 128 * (W : Int)).toNat == (s.extract p ((p : Int) + (k : Int) + 1).toNat).toList) = true := by assumption
       rw [HC.out] at ht
       go_ret3
       refine ⟨ret_rv HE3.out ?_, ((Below.refl _ _).drew).trans hb⟩
       rw [if_pos (Or.inr (by simp at ht; omega))]
       rfl
      ·have ht : (!WM.varL ((N : Int) + (s[p + k].toNat : Int) % 128 * (W : Int)).toNat == (s.extract p ((p : Int) + (k : Int) + 1).toNat).toList) = false := by assumption
       rw [HC.out] at ht
       go_ret3
       refine ⟨ret_rv HE3.out ?_, ((Below.refl _ _).drew).trans hb⟩
       rw [if_neg (by have := HB.out; simp at ht; omega)]
       simp only [rvV]
       rw [← mul_cast]
       rfl
    ·have HE2 := rv_hi hk5 hlt HW.out (by omega) HE.out
     have HE3 : Hid _ := HE2
     clear HE2
     go_wp2
     go_round
     case rel =>
      refine ⟨k + 1, N + s[p + k].toNat % 128 * W, W * 128, by omega, by omega, by go_num, by rw [← mul_cast], by simp, ?_, mul_lt _ _ _ hN, HP.more hlt HW.out (by omega), HE3⟩
      show W * 128 = 128 ^ (k + 1)
      rw [HW.out, Nat.pow_succ]
     case measure => simp [intOf]; omega
   ·have hk55 : k = 5 := by omega
    have hk5' : decide ((p : Int) + (k : Int) < (p : Int) + 5) = false := by simp; omega
    have HE2 := rv_five hk55 HE.out
    have HE3 : Hid _ := HE2
    clear HE2 hk55
    go_wp2
    go_ret3
    exact ⟨by rw [HE3.out]; rfl, Below.refl _ _⟩
  ·have hlt' : decide ((p : Int) + (k : Int) < (s.size : Int)) = false := by simp; omega
   have HE2 := rv_out hlt HE.out
   have HE3 : Hid _ := HE2
   clear HE2
   go_wp2
   go_ret3
   exact ⟨by rw [HE3.out]; rfl, Below.refl _ _⟩

theorem irv_none (s : ByteArray) (p : Nat) (h : p ≤ s.size) (hs : s.size ≤ 1048576) (hR : WM.rv (s.data.toList.drop p) = none) (w : World) :
  Calls Tryz.prog 104 #[.string s, .int .i64 p] w fun e w' => e = .returned (.tuple #[.int .i64 0, .int .i64 0, .bool false]) ∧ w = w' :=
 (irv s p h hs w).mono fun e w' ⟨h1, h2⟩ => ⟨by rw [h1, hR]; rfl, h2.symm⟩

theorem irv_some (s : ByteArray) (p : Nat) (h : p ≤ s.size) (hs : s.size ≤ 1048576) (n k : Nat) (hR : WM.rv (s.data.toList.drop p) = some (n, k)) (w : World) :
  Calls Tryz.prog 104 #[.string s, .int .i64 p] w fun e w' => e = .returned (.tuple #[.int .i64 n, .int .i64 ((p + k : Nat) : Int), .bool true]) ∧ w = w' :=
 (irv s p h hs w).mono fun e w' ⟨h1, h2⟩ => ⟨by rw [h1, hR]; rfl, h2.symm⟩

theorem srv_none (s : ByteArray) (p : Nat) (h : p ≤ s.size) (hs : s.size ≤ 1048576) (hR : WM.rv (s.data.toList.drop p) = none) (w : World) :
  Calls Tryz.prog 106 #[.string s, .int .i64 p] w fun e w' => e = .returned (.tuple #[.int .i64 0, .int .i64 0, .bool false]) ∧ Below w.heap.size w w' :=
 (srv s p h hs w).mono fun e w' ⟨h1, h2⟩ => ⟨by rw [h1, hR]; rfl, h2⟩

theorem srv_some (s : ByteArray) (p : Nat) (h : p ≤ s.size) (hs : s.size ≤ 1048576) (n k : Nat) (hR : WM.rv (s.data.toList.drop p) = some (n, k)) (w : World) :
  Calls Tryz.prog 106 #[.string s, .int .i64 p] w fun e w' => e = .returned (.tuple #[.int .i64 n, .int .i64 ((p + k : Nat) : Int), .bool true]) ∧ Below w.heap.size w w' :=
 (srv s p h hs w).mono fun e w' ⟨h1, h2⟩ => ⟨by rw [h1, hR]; rfl, h2⟩

set_option maxHeartbeats 400000 in
theorem ssh_none (s : ByteArray) (p : Nat) (h : p ≤ s.size) (hs : s.size ≤ 1048576) (hR : Hid (WM.rv (s.data.toList.drop p) = none)) (w : World) :
  Calls Tryz.prog 100 #[.string s, .int .i64 p] w fun e w' => e = .returned (.tuple #[.string ⟨#[]⟩, .int .i64 0, .bool false]) ∧ Below w.heap.size w w' := by
 go_enter Tryz.func100, Tryz.ntmps100
 go_wp2_with (go_at_call 106; refine (srv_none s p h hs hR.out _).mono ?_; rintro e w' ⟨rfl, hb⟩)
 go_ret3
 exact ⟨rfl, hb⟩

set_option maxHeartbeats 400000 in
theorem ssh_big (s : ByteArray) (p : Nat) (h : p ≤ s.size) (hs : s.size ≤ 1048576) (n k : Nat) (hR : Hid (WM.rv (s.data.toList.drop p) = some (n, k))) (hn : n ≤ 1000000000) (hk : p + k ≤ s.size)
  (hbig : 20000 < n ∨ s.size < p + k + n) (w : World) :
  Calls Tryz.prog 100 #[.string s, .int .i64 p] w fun e w' => e = .returned (.tuple #[.string ⟨#[]⟩, .int .i64 0, .bool false]) ∧ Below w.heap.size w w' := by
 by_cases h1 : 20000 < n
 ·clear hbig
  go_enter Tryz.func100, Tryz.ntmps100
  go_wp2_with (go_at_call 106; refine (srv_some s p h hs n k hR.out _).mono ?_; rintro e w' ⟨rfl, hb⟩)
  go_ret3
  exact ⟨rfl, hb⟩
 ·have h2 : (s.size : Int) - ((p : Int) + (k : Int)) < (n : Int) := by omega
  clear hbig
  go_enter Tryz.func100, Tryz.ntmps100
  go_wp2_with (go_at_call 106; refine (srv_some s p h hs n k hR.out _).mono ?_; rintro e w' ⟨rfl, hb⟩)
  go_ret3
  exact ⟨rfl, hb⟩

theorem size_piece (s : ByteArray) (a b : Nat) (h : a ≤ b) (hb : b ≤ s.size) : (s.extract a b).size = b - a := by
 simp; omega

set_option maxHeartbeats 400000 in
theorem ssh_ok (s : ByteArray) (p : Nat) (h : p ≤ s.size) (hs : s.size ≤ 1048576) (n k : Nat) (hR : Hid (WM.rv (s.data.toList.drop p) = some (n, k))) (hn : n ≤ 20000) (hk : p + k + n ≤ s.size) (w : World) :
  Calls Tryz.prog 100 #[.string s, .int .i64 p] w fun e w' => e = .returned (.tuple #[.string (s.extract (p + k) (p + k + n)), .int .i64 ((p + k + n : Nat) : Int), .bool true]) ∧ Below w.heap.size w w' := by
 have h2 : (n : Int) ≤ (s.size : Int) - ((p : Int) + (k : Int)) := by omega
 have h3 : (p : Int) + (k : Int) + (n : Int) ≤ (s.size : Int) := by omega
 go_enter Tryz.func100, Tryz.ntmps100
 go_wp2_with (go_at_call 106; refine (srv_some s p h hs n k hR.out _).mono ?_; rintro e w' ⟨rfl, hb⟩)
 go_ret3
 exact ⟨rfl, hb⟩
end Go.Proofs.YtekjpoenbcnhdaaGreat

namespace Go.Proofs.YtekjpoenbcnhdaaGreat
open Go.RowKit
attribute [local go_sem ↓] Go.wp_at_zero Go.wp_at_succ

def rec1 (s : ByteArray) (p : Nat) : Option (ByteArray × Nat) :=
 match WM.rv (s.data.toList.drop p) with
 | none => none
 | some (n, k) => if n = 0 ∨ s.size < p + k + n then none else some (s.extract (p + k) (p + k + n), p + k + n)

def Rs (s : ByteArray) (p : Nat) (t : ByteArray) (q : Int) (ok : Bool) : Prop :=
 (ok = false ∧ rec1 s p = none) ∨ (ok = true ∧ t = ⟨#[]⟩ ∧ rec1 s p = none) ∨ (∃ q' : Nat, q = (q' : Int) ∧ ok = true ∧ 0 < t.size ∧ q' ≤ s.size ∧ rec1 s p = some (t, q'))

def Ri (s : ByteArray) (p : Nat) (t : ByteArray) (q : Int) (ok : Bool) : Prop :=
 (ok = false ∧ rec1 s p = none) ∨ (∃ q' : Nat, q = (q' : Int) ∧ ok = true ∧ 0 < t.size ∧ q' ≤ s.size ∧ rec1 s p = some (t, q'))

theorem rec1_none {s : ByteArray} {p : Nat} (h : WM.rv (s.data.toList.drop p) = none) : rec1 s p = none := by simp [rec1, h]
theorem rec1_bad {s : ByteArray} {p n k : Nat} (h : WM.rv (s.data.toList.drop p) = some (n, k)) (hb : n = 0 ∨ s.size < p + k + n) : rec1 s p = none := by simp only [rec1, h]; exact if_pos hb
theorem rec1_ok {s : ByteArray} {p n k : Nat} (h : WM.rv (s.data.toList.drop p) = some (n, k)) (hb : ¬ (n = 0 ∨ s.size < p + k + n)) : rec1 s p = some (s.extract (p + k) (p + k + n), p + k + n) := by simp only [rec1, h]; exact if_neg hb
theorem rec1_le {s : ByteArray} {p : Nat} {t : ByteArray} {q : Nat} (h : rec1 s p = some (t, q)) : q ≤ s.size ∧ p < q ∧ 0 < t.size := by
 unfold rec1 at h
 split at h
 ·cases h
 ·rename_i n k hr
  split at h
  ·cases h
  ·rename_i hc
   have hc1 : n ≠ 0 ∧ ¬ s.size < p + k + n := ⟨fun e => hc (Or.inl e), fun e => hc (Or.inr e)⟩
   cases h
   refine ⟨by omega, by omega, ?_⟩
   rw [size_piece s _ _ (by omega) (by omega)]
   omega

theorem rv_bd {s : ByteArray} {p n k : Nat} (hp : p ≤ s.size) (h : WM.rv (s.data.toList.drop p) = some (n, k)) : n ≤ 1000000000 ∧ p + k ≤ s.size := by
 have hbd := WM.rvGo_bd 5 0 0 _ _ h
 rw [List.length_drop, Array.length_toList] at hbd
 have h1 : k ≤ 0 + (s.size - p) := hbd.2.2
 exact ⟨hbd.1, by omega⟩

theorem srs64 (s : ByteArray) (p : Nat) (h : p ≤ s.size) (hs : s.size ≤ 20000) (w : World) :
  Calls Tryz.prog 100 #[.string s, .int .i64 p] w fun e w' => ∃ t q ok, e = .returned (.tuple #[.string t, .int .i64 q, .bool ok]) ∧ Rs s p t q ok ∧ Below w.heap.size w w' := by
 cases hR : WM.rv (s.data.toList.drop p) with
 | none =>
  refine (ssh_none s p h (by omega) hR w).mono ?_
  rintro e w' ⟨rfl, hb⟩
  exact ⟨_, _, _, rfl, Or.inl ⟨rfl, rec1_none hR⟩, hb⟩
 | some r =>
  obtain ⟨n, k⟩ := r
  have hbd := rv_bd h hR
  by_cases hb : s.size < p + k + n
  ·refine (ssh_big s p h (by omega) n k hR hbd.1 hbd.2 (Or.inr hb) w).mono ?_
   rintro e w' ⟨rfl, hb2⟩
   exact ⟨_, _, _, rfl, Or.inl ⟨rfl, rec1_bad hR (Or.inr hb)⟩, hb2⟩
  ·refine (ssh_ok s p h (by omega) n k hR (by omega) (by omega) w).mono ?_
   rintro e w' ⟨rfl, hb2⟩
   have hz := size_piece s (p + k) (p + k + n) (by omega) (by omega)
   by_cases h0 : n = 0
   ·exact ⟨_, _, _, rfl, Or.inr (Or.inl ⟨rfl, ba_nil (by omega), rec1_bad hR (Or.inl h0)⟩), hb2⟩
   ·exact ⟨_, _, _, rfl, Or.inr (Or.inr ⟨p + k + n, rfl, rfl, by omega, by omega, rec1_ok hR (by omega)⟩), hb2⟩

set_option maxHeartbeats 1000000 in
theorem irc66 (s : ByteArray) (p : Nat) (h : p ≤ s.size) (hs : s.size ≤ 20000) (w : World) :
  Calls Tryz.prog 92 #[.string s, .int .i64 p] w fun e w' => ∃ t q ok, e = .returned (.tuple #[.string t, .int .i64 q, .bool ok]) ∧ Ri s p t q ok ∧ Below w.heap.size w w' := by
 have hm : s.size ≤ 1048576 := by omega
 cases hR : WM.rv (s.data.toList.drop p) with
 | none =>
  have HR : Hid (WM.rv (s.data.toList.drop p) = none) := hR
  clear hR
  go_enter Tryz.func92, Tryz.ntmps92
  go_wp2_with (go_at_call 104; refine (irv_none s p h hm HR.out _).mono ?_; rintro e w' ⟨rfl, rfl⟩)
  go_ret3
  exact ⟨_, _, _, rfl, Or.inl ⟨rfl, rec1_none HR.out⟩, belowRefl _⟩
 | some r =>
  obtain ⟨n, k⟩ := r
  have hbd := rv_bd h hR
  have hn := hbd.1
  have hk := hbd.2
  have HR : Hid (WM.rv (s.data.toList.drop p) = some (n, k)) := hR
  clear hR hbd
  by_cases h0 : n = 0
  ·have e0 : ((n : Int) == 0) = true := by subst h0; rfl
   have HN : Hid (rec1 s p = none) := rec1_bad HR.out (Or.inl h0)
   clear h0
   go_enter Tryz.func92, Tryz.ntmps92
   go_wp2_with (go_at_call 104; refine (irv_some s p h hm n k HR.out _).mono ?_; rintro e w' ⟨rfl, rfl⟩)
   go_ret3
   exact ⟨_, _, _, rfl, Or.inl ⟨rfl, HN.out⟩, belowRefl _⟩
  ·have e0 : ((n : Int) == 0) = false := by rw [beq_eq_false_iff_ne]; omega
   by_cases hb : s.size < p + k + n
   ·have h2 : (s.size : Int) - ((p : Int) + (k : Int)) < (n : Int) := by omega
    have HN : Hid (rec1 s p = none) := rec1_bad HR.out (Or.inr hb)
    clear hb h0
    go_enter Tryz.func92, Tryz.ntmps92
    go_wp2_with (go_at_call 104; refine (irv_some s p h hm n k HR.out _).mono ?_; rintro e w' ⟨rfl, rfl⟩)
    go_ret3
    exact ⟨_, _, _, rfl, Or.inl ⟨rfl, HN.out⟩, belowRefl _⟩
   ·have h2 : (n : Int) ≤ (s.size : Int) - ((p : Int) + (k : Int)) := by omega
    have h3 : (p : Int) + (k : Int) + (n : Int) ≤ (s.size : Int) := by omega
    have hz := size_piece s (p + k) (p + k + n) (by omega) (by omega)
    have HZ : Hid ((s.extract (p + k) (p + k + n)).size ≤ 281474976710656) := by show _ ≤ _; omega
    have HZ2 : Hid (0 < (s.extract (p + k) (p + k + n)).size) := by show _ < _; omega
    have HQ : Hid (p + k + n ≤ s.size) := by show _ ≤ _; omega
    have HN : Hid (rec1 s p = some (s.extract (p + k) (p + k + n), p + k + n)) := rec1_ok HR.out (by omega)
    clear hb h0 hz
    go_enter Tryz.func92, Tryz.ntmps92
    go_wp2_with (first | (go_at_call 104; refine (irv_some s p h hm n k HR.out _).mono ?_; rintro e w' ⟨rfl, rfl⟩) | (go_at_call 98; refine (clone54 _ HZ.out _).mono ?_; rintro e w2 ⟨rfl, hb2⟩))
    go_ret3
    exact ⟨_, _, _, rfl, Or.inr ⟨p + k + n, by simp, rfl, HZ2.out, HQ.out, HN.out⟩, hb2⟩

def recsGo (s : ByteArray) : Nat → List ByteArray → Nat → Option (List ByteArray × Nat)
 | 0, acc, p => some (acc, p)
 | c + 1, acc, p => match rec1 s p with
  | none => none
  | some (t, q) => recsGo s c (acc ++ [t]) q
theorem recs_none {s : ByteArray} {c : Nat} {acc : List ByteArray} {p : Nat} {R : Option (List ByteArray × Nat)} (h : recsGo s (c + 1) acc p = R) (hr : rec1 s p = none) : R = none := by
 rw [← h]; simp [recsGo, hr]
theorem recs_some {s : ByteArray} {c : Nat} {acc : List ByteArray} {p : Nat} {R : Option (List ByteArray × Nat)} {t : ByteArray} {q : Nat} (h : recsGo s (c + 1) acc p = R) (hr : rec1 s p = some (t, q)) : recsGo s c (acc ++ [t]) q = R := by
 rw [← h]; simp [recsGo, hr]
end Go.Proofs.YtekjpoenbcnhdaaGreat

namespace Go.Proofs.YtekjpoenbcnhdaaGreat
open Go.RowKit
open DM
attribute [local go_sem ↓] Go.wp_at_zero Go.wp_at_succ

theorem info92 : (Tryz.prog.info? 113).map (·.size) = some 2 := by kernel_rfl
theorem lies92 : liesAt Tryz.prog Tryz.prog.depth 113 (2 / Tryz.prog.cellsOf 113) 0 113 1 = true := by kernel_rfl

set_option maxHeartbeats 1000000 in
set_option maxRecDepth 100000 in
theorem check85_used (b : Nat) (w : World) (h0 : w.cell? ⟨b, 0, none⟩ = some (.pointer (some ⟨b, 0, none⟩))) :
  Calls Tryz.prog 107 #[.pointer (some ⟨b, 0, none⟩)] w fun e w' => e = .returned (.tuple #[]) ∧ w' = w := by
 obtain ⟨j, hj, _⟩ := Option.map_eq_some_iff.1 info92
 go_enter Tryz.func107, Tryz.ntmps107
 go_wp2
 rw [Lib.run_neq_ptr_same w _ Tryz.underlying111 hj]
 go_wp2
 go_end0
 exact ⟨rfl, rfl⟩

set_option maxHeartbeats 1000000 in
set_option maxRecDepth 100000 in
theorem check85_fresh (b : Nat) (w : World) (h0 : w.cell? ⟨b, 0, none⟩ = some (.pointer none)) (hsh : w.shape? b = some (113, 2)) (hfz : w.frozen? ⟨b, 0, none⟩ = false) :
  Calls Tryz.prog 107 #[.pointer (some ⟨b, 0, none⟩)] w fun e w' => e = .returned (.tuple #[]) ∧ w' = w.setCell ⟨b, 0, none⟩ (.pointer (some ⟨b, 0, none⟩)) := by
 obtain ⟨j, hj, hjs⟩ := Option.map_eq_some_iff.1 info92
 go_enter Tryz.func107, Tryz.ntmps107
 go_wp2
 rw [Lib.run_to_unsafe w ⟨b, 0, none⟩ Tryz.underlying111 Tryz.underlying121 hj (by rw [hjs]; decide) hsh (Nat.zero_lt_succ 1)]
 simp only [Result.andThen]
 rw [Oper.upon_value]
 go_wp2
 rw [run_callFunc_extern Tryz.func108 (by kernel_rfl) (by kernel_rfl) (by kernel_rfl) (e := Extern.AbiNoEscape.same) (by kernel_rfl)]
 rw [Lib.run_noEscape]
 simp only [Result.andThen]
 rw [Oper.upon_value]
 go_wp2
 rw [Lib.run_from_unsafe w ⟨b, 0, none⟩ Tryz.underlying121 Tryz.underlying111 hj hsh lies92]
 simp only [Result.andThen]
 rw [Oper.upon_value]
 go_wp2
 go_end0
 exact ⟨rfl, rfl⟩

theorem check85 (B b : Nat) (bs : List Value) (w : World) (h : Lib.IsBuilder 113 5 B b bs w) :
  Calls Tryz.prog 107 #[.pointer (some ⟨b, 0, none⟩)] w fun e w' => e = .returned (.tuple #[]) ∧ (Lib.BuilderAt 113 5 B b (.pointer (some ⟨b, 0, none⟩)) bs w' ∧ Below B w w') := by
 rcases h with h | h
 ·refine (check85_fresh b w h.cell0 h.shape h.frozen0).mono ?_
  rintro e w' ⟨rfl, rfl⟩
  exact ⟨rfl, h.used _, (Below.refl B w).setCell (p := ⟨b, 0, none⟩) h.1 _⟩
 ·refine (check85_used b w h.cell0).mono ?_
  rintro e w' ⟨rfl, rfl⟩
  exact ⟨rfl, h, Below.refl B _⟩

set_option maxHeartbeats 2000000 in
set_option maxRecDepth 100000 in
theorem write69 (B b : Nat) (l : List UInt8) (s : ByteArray) (w : World) (h : Lib.IsBuilder 113 5 B b (bv l) w) (hlen : l.length + s.size ≤ 1000000000) (hBw : B ≤ w.heap.size) :
  Calls Tryz.prog 102 #[.pointer (some ⟨b, 0, none⟩), .string s] w fun e w' => e = .returned (.tuple #[.int .i64 s.size, .nilIface]) ∧ (Lib.BuilderAt 113 5 B b (.pointer (some ⟨b, 0, none⟩)) (bv (l ++ s.data.toList)) w' ∧ Below B w w') := by
 obtain ⟨i0, hi, hz0, hz1, hz2⟩ := info_parts Tryz.info5
 have hl := bv_len l
 have HL : Hid ((bv l).length = l.length) := hl
 have HI : Hid (Lib.IsBuilder 113 5 B b (bv l) w) := h
 clear hl h
 go_enter Tryz.func102, Tryz.ntmps102
 go_wp2_with (go_at_call 107; refine (check85 B b (bv l) _ HI.out).mono ?_)
 rintro e w1 ⟨rfl, h1, hb1⟩
 obtain ⟨hB, v, hbk, hown, hne⟩ := h1
 have c0 : w1.cell? ⟨b, 0, none⟩ = some (.pointer (some ⟨b, 0, none⟩)) := by rw [Lib.cell_of_heap hbk]; rfl
 have c1 : w1.cell? ⟨b, 1, none⟩ = some v := by rw [Lib.cell_of_heap hbk]; rfl
 have hBw1 : B ≤ w1.heap.size := Nat.le_trans hBw hb1.size
 go_wp2_with (at_builtin; refine Lib.wpList_append_own_string _ rfl _ _ 22 9 rfl B 5 i0 Tryz.underlying22 Tryz.underlying9 hi hz0 hz1 hz2 _ _ _ rfl hown s rfl ?c3 ?c4 ?c5 ?_)
 case c3 => rw [HL.out]; unfold maxLen; omega
 case c4 => rw [HL.out]; omega
 case c5 => exact hBw1
 intro v' w2 hown' hgrow _
 have hlt : b < w1.heap.size := by
  rcases Nat.lt_or_ge b w1.heap.size with h' | h'
  ·exact h'
  ·simp [Array.getElem?_eq_none h'] at hbk
 have hb2 : w2.heap[b]? = some (.cells #[.pointer (some ⟨b, 0, none⟩), v] 113 (0, 0)) := by
  rw [hgrow.block b hlt (fun e => hne e.symm)]
  exact hbk
 have d0 : w2.cell? ⟨b, 0, none⟩ = some (.pointer (some ⟨b, 0, none⟩)) := by rw [Lib.cell_of_heap hb2]; rfl
 have d1 : w2.cell? ⟨b, 1, none⟩ = some v := by rw [Lib.cell_of_heap hb2]; rfl
 have f1 : w2.frozen? ⟨b, 1, none⟩ = false := Lib.frozen_of_heap hb2 1
 obtain ⟨ao, n', cap, rfl⟩ : ∃ ao n' cap, v' = .slice ao n' cap := by
  rcases hown'.2 with ⟨hv, _⟩ | ⟨g, cap, cur, hv, _⟩
  ·exact ⟨_, _, _, hv⟩
  ·exact ⟨_, _, _, hv⟩
 have e1 : bv (l ++ s.data.toList) = bv l ++ Lib.strCells s := by
  unfold bv Lib.strCells
  rw [List.map_append]
 have E1 : Hid (bv (l ++ s.data.toList) = bv l ++ Lib.strCells s) := e1
 clear e1
 go_wp2
 go_ret2
 refine ⟨rfl, ?_, ?_⟩
 ·rw [E1.out]
  exact Lib.BuilderAt.put (T := 113) (e := 5) hB hb2 (bs' := bv l ++ Lib.strCells s) (by simpa [Lib.strCells_length] using hown') (by decide)
 ·exact (hb1.grown hgrow hBw1 (fun k hk => (hown.lt k hk).1)).setCell (p := ⟨b, 1, none⟩) hB _
end Go.Proofs.YtekjpoenbcnhdaaGreat

/- What laws.markText, markStringS, markPutS, markDisk, heldStringS, heldPutS and heldDisk do. -/
import Derived.Test.YtnfkecefkkdedaaA3
import Derived.Lib.ItoaNum
import Derived.Lib.ItoaLen
namespace Go.Proofs.Ytnfkecefkkdedaa
open Go.RowKit
open DM
attribute [local go_sem ↓] Go.wp_at_zero Go.wp_at_succ

/-- 'string(v)' of owned bytes -/
theorem Own.str {w : World} {base : Nat} {v : Value} {l : List UInt8} (h : Own w base v l) :
    (convert 22 9 v).run Try.prog w = .ok (.string ⟨l.toArray⟩) w := by
  have h0 := h
  rcases h.2 with ⟨rfl, h1⟩ | ⟨g, cap, cur, rfl, hg, hh, hnc, hcp, hcs, htake⟩
  · obtain rfl : l = [] := List.length_eq_zero_iff.1 h1
    rw [run_convert_bytes_string w 22 9 5 none 0 0 Try.underlying22 Try.underlying5 Try.underlying9]
    rfl
  · refine run_convert_bytes_back (P := Try.prog) w 22 9 5 ⟨g, 0, none⟩ cap l Try.underlying22 Try.underlying5 Try.underlying9 ?_
    intro j hj
    rw [Addr.add_lit, Nat.zero_add, World.ownsRow.cellAt h0 j (by omega)]
    simp [bv, hj]
theorem toNat_ofNat (x : Nat) (h : x < 256) : ((UInt8.ofNat x).toNat : Int) = (x : Int) := by
  simp only [UInt8.toNat_ofNat']; omega

/-- the decimal figures of m, none of 0 -/
def dd (m : Nat) : List UInt8 := if m = 0 then [] else Go.Lib.decDigits m
theorem dd_step (m : Nat) (h : 0 < m) : dd m = dd (m / 10) ++ [UInt8.ofNat (48 + m % 10)] := by
  unfold dd
  rw [if_neg (by omega)]
  by_cases hs : m < 10
  · rw [if_pos (by omega), Go.Lib.decDigits_one hs, show m % 10 = m by omega]; rfl
  · rw [if_neg (by omega), Go.Lib.decDigits, dif_neg hs]
/-- the mark of k -/
def mkB (k : Nat) : ByteArray := ⟨#[109]⟩ ++ ⟨(dd k).toArray⟩
theorem dd_len (m : Nat) (h : m < 18446744073709551616) : (dd m).length ≤ 20 := by
  unfold dd
  split
  · simp
  · rw [Lib.decDigits_length]; exact Lib.nDigits_le20 m h
theorem app_data (b : UInt8) (s : ByteArray) : ((⟨#[b]⟩ : ByteArray) ++ s).data.toList = b :: s.data.toList := by simp
theorem dd_round {m N : Nat} {s : ByteArray} (hm : 0 < m) (h : dd m ++ s.data.toList = dd N) : dd (m / 10) ++ ((⟨#[UInt8.ofNat (48 + m % 10)]⟩ : ByteArray) ++ s).data.toList = dd N := by
  rw [app_data, ← h, dd_step m hm]; simp
theorem round_size {m N : Nat} {s : ByteArray} (hN : N < 18446744073709551616) (h : dd m ++ s.data.toList = dd N) : s.size ≤ 20 := by
  have h1 := dd_len N hN
  have h2 := congrArg List.length h
  simp at h2
  omega
theorem conv1 (wr : World) (b : UInt8) (x : Int) (hx : x = (b.toNat : Int)) : (convert 22 9 (.slice (some ⟨wr.heap.size, 0, none⟩) 1 1)).run Try.prog (wr.alloc (.cells #[.int .u8 x] 5)) = .ok (.string ⟨#[b]⟩) (wr.alloc (.cells #[.int .u8 x] 5)) := by
  subst hx
  have h : Own (wr.alloc (.cells #[.int .u8 (b.toNat : Int)] 5)) wr.heap.size (.slice (some ⟨wr.heap.size, 0, none⟩) 1 1) [b] :=
    World.ownsRow_lit (size := 1) wr #[.int .u8 (b.toNat : Int)] 1 (Nat.le_refl _) (by unfold maxLen; omega) rfl
  exact h.str
theorem ret_str {a b : ByteArray} (h : a.data.toList = b.data.toList) : Ending.returned (.string a) = .returned (.string b) := by
  have : a = b := by
    apply ByteArray.ext
    exact Array.toList_inj.1 h
  rw [this]

/-! marks -/
def marks (k n : Nat) : List ByteArray := (List.range n).map fun j => mkB (k + j)
theorem marks_len (k n : Nat) : (marks k n).length = n := by simp [marks]
theorem marks_at (k n j : Nat) (h : j < n) : (marks k n)[j]'(by rw [marks_len]; exact h) = mkB (k + j) := by simp [marks]
def pmarks (k n : Nat) : List Wr := (List.range n).map fun (j : Nat) => (((k + 2 * j : Nat) : Int), mkB (k + 2 * j + 1))
theorem pmarks_len (k n : Nat) : (pmarks k n).length = n := by simp [pmarks]
theorem pmarks_at (k n j : Nat) (h : j < n) : (pmarks k n)[j]'(by rw [pmarks_len]; exact h) = (((k + 2 * j : Nat) : Int), mkB (k + 2 * j + 1)) := by simp [pmarks]

theorem own_form {w : World} {base e size n c : Nat} {a : Option Addr} {xs : List Value} (h : w.ownsRow base e size (.slice a n c) n xs) (hn : 0 < n) : ∃ g, a = some ⟨g, 0, none⟩ ∧ base ≤ g ∧ g < w.heap.size := by
  obtain ⟨g, cap, hv, h1, h2⟩ := h.form hn
  cases hv
  exact ⟨g, rfl, h1, h2⟩
theorem grown_below {w w' : World} {row : Option Nat} (hb : Below w.heap.size w w') : w.grownBy w' row := ⟨hb.os, hb.tape, hb.output, hb.size, fun k hk _ => hb.block k hk⟩
theorem grown_trans {a b c : World} {row : Option Nat} (h : a.grownBy b row) (k : b.grownBy c row) : a.grownBy c row :=
  ⟨k.os.trans h.os, k.tape.trans h.tape, k.output.trans h.output, Nat.le_trans h.size k.size, fun j hj hne => (k.block j (Nat.lt_of_lt_of_le hj h.size) hne).trans (h.block j hj hne)⟩
theorem grown_refl (w : World) (row : Option Nat) : w.grownBy w row := ⟨rfl, rfl, rfl, Nat.le_refl _, fun _ _ _ => rfl⟩

theorem sown_ext {w : World} {base n c : Nat} {a : Option Addr} {xs : List Value} {ss : List ByteArray} (hn : ss.length = n) (h : w.ownsRow base 9 1 (.slice a n c) n xs) (hx : ∀ j, j < n → xs[j]? = (scs ss)[j]?) : SOwn w base (.slice a n c) ss := by
  have e : xs = scs ss := by
    apply List.ext_getElem?
    intro j
    by_cases hj : j < n
    · exact hx j hj
    · rw [List.getElem?_eq_none (by have := h.1; omega), List.getElem?_eq_none (by rw [scs_len]; omega)]
  unfold SOwn
  rw [e] at h
  rw [hn]
  exact h
theorem pown_ext {w : World} {base n c : Nat} {a : Option Addr} {xs : List Value} {ps : List Wr} (hn : ps.length = n) (h : w.ownsRow base 70 2 (.slice a n c) n xs) (hx : ∀ j, j < n * 2 → xs[j]? = (pcs ps)[j]?) : POwn w base (.slice a n c) ps := by
  have e : xs = pcs ps := by
    apply List.ext_getElem?
    intro j
    by_cases hj : j < n * 2
    · exact hx j hj
    · rw [List.getElem?_eq_none (by have := h.1; omega), List.getElem?_eq_none (by rw [pcs_len]; omega)]
  unfold POwn
  rw [e] at h
  rw [hn]
  exact h

theorem own_apart {w : World} {b b' e e' s s' n n' : Nat} {v v' : Value} {xs xs' : List Value} (h : w.ownsRow b e s v n xs) (h' : w.ownsRow b' e' s' v' n' xs') (hne : e ≠ e') : v.ownBlock = none ∨ v.ownBlock ≠ v'.ownBlock := by
  rcases h.2 with ⟨rfl, _⟩ | ⟨g, cap, cur, rfl, _, hh, _⟩
  · exact Or.inl rfl
  · right
    intro he
    rcases h'.2 with ⟨rfl, _⟩ | ⟨g', cap', cur', rfl, _, hh', _⟩
    · cases he
    · simp only [Value.ownBlock, Option.some.injEq] at he
      rw [he, hh'] at hh
      simp only [Option.some.injEq, Obj.cells.injEq] at hh
      exact hne hh.2.1.symm

/-- all blocks but those of two slices are as they were -/
structure Kept2 (w w' : World) (v1 v2 : Value) : Prop where
  os : w'.os = w.os
  tape : w'.tape = w.tape
  output : w'.output = w.output
  size : w.heap.size ≤ w'.heap.size
  block : ∀ k, k < w.heap.size → some k ≠ v1.ownBlock → some k ≠ v2.ownBlock → w'.heap[k]? = w.heap[k]?

theorem Kept2.below {w w' : World} {v1 v2 : Value} (h : Kept2 w w' v1 v2) (B : Nat) (hB : B ≤ w.heap.size) (h1 : ∀ k, v1.ownBlock = some k → B ≤ k) (h2 : ∀ k, v2.ownBlock = some k → B ≤ k) : Below B w w' :=
  ⟨h.os, h.tape, h.output, h.size, fun k hk => h.block k (Nat.lt_of_lt_of_le hk hB) (fun e => by have := h1 k e.symm; omega) (fun e => by have := h2 k e.symm; omega)⟩

/-! held -/
end Go.Proofs.Ytnfkecefkkdedaa

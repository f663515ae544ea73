/- Several disks at once: which of them stay where one is marked. -/
import Derived.Test.YtnfkfhpmhhmbaaaPb03
import Derived.Test.YtnfkfhpmhhmbaaaPb07
import Derived.Lib.ItoaNum
namespace Go.Proofs.Ytnfkfhpmhhmbaaa
open Go.RowKit
open DM

def Bxs (w : World) (L : List (Nat × Value × Value)) : Prop := ∀ q ∈ L, Bx w q.1 q.2.1 q.2.2
theorem Bxs.nil (w : World) : Bxs w [] := fun q h => by cases h
theorem Bxs.keep {w w' : World} {L : List (Nat × Value × Value)} (h : Bxs w L) (hb : Below w.heap.size w w') : Bxs w' L := fun q hq => (h q hq).keep hb (h q hq).lt
theorem Bxs.new {w : World} {L : List (Nat × Value × Value)} (h : Bxs w L) (x y : Value) (t : TypeId) : Bxs (w.alloc (.cells #[x, y] t)) ((w.heap.size, x, y) :: L) := fun q hq => by
  rcases List.mem_cons.1 hq with rfl | hq
  · exact Bx.new w x y t
  · exact (h q hq).alloc _
theorem Bxs.hd {w : World} {b : Nat} {x y : Value} {L : List (Nat × Value × Value)} (h : Bxs w ((b, x, y) :: L)) : Bx w b x y := h (b, x, y) (List.mem_cons_self ..)
theorem Bxs.tl {w : World} {q : Nat × Value × Value} {L : List (Nat × Value × Value)} (h : Bxs w (q :: L)) : Bxs w L := fun p hp => h p (List.mem_cons_of_mem _ hp)
theorem Bxs.drew {w : World} {L : List (Nat × Value × Value)} (h : Bxs w L) : Bxs w.drew L := fun q hq => (h q hq).drew
theorem Bxs.kept2 {w w' : World} {L : List (Nat × Value × Value)} {v1 v2 : Value} (h : Bxs w L) (k : Kept2 w w' v1 v2) (lo hi : Nat) (h1 : ∀ k, v1.ownBlock = some k → lo ≤ k ∧ k < hi) (h2 : ∀ k, v2.ownBlock = some k → lo ≤ k ∧ k < hi) (hL : ∀ q ∈ L, q.1 < lo ∨ hi ≤ q.1) : Bxs w' L := fun q hq => by
  have b := h q hq
  have e := k.block q.1 b.lt (fun e => by have := h1 _ e.symm; rcases hL q hq with h | h <;> omega) (fun e => by have := h2 _ e.symm; rcases hL q hq with h | h <;> omega)
  exact ⟨(World.cell?_of_block (w := w) (a := ⟨q.1, 0, none⟩) e).trans b.c0, (World.cell?_of_block (w := w) (a := ⟨q.1, 1, none⟩) e).trans b.c1, fun j => (World.frozen?_of_block (w := w) (a := ⟨q.1, j, none⟩) e).trans (b.fz j), Nat.lt_of_lt_of_le b.lt k.size⟩

structure DR (w : World) (lo hi : Nat) (a1 : Option Addr) (c1 : Nat) (a2 : Option Addr) (c2 : Nat) (ss : List ByteArray) (ps : List Wr) : Prop where
  d : DOwn w lo a1 c1 a2 c2 ss ps
  u1 : ∀ k, (Value.slice a1 ss.length c1).ownBlock = some k → lo ≤ k ∧ k < hi
  u2 : ∀ k, (Value.slice a2 ps.length c2).ownBlock = some k → lo ≤ k ∧ k < hi
theorem DOwn.dr {w : World} {lo : Nat} {a1 a2 : Option Addr} {c1 c2 : Nat} {ss : List ByteArray} {ps : List Wr} (h : DOwn w lo a1 c1 a2 c2 ss ps) : DR w lo w.heap.size a1 c1 a2 c2 ss ps :=
  ⟨h, World.ownsRow.lt h.s, World.ownsRow.lt h.p⟩
theorem DR.keep {w w' : World} {lo hi : Nat} {a1 a2 : Option Addr} {c1 c2 : Nat} {ss : List ByteArray} {ps : List Wr} (h : DR w lo hi a1 c1 a2 c2 ss ps) (hb : Below w.heap.size w w') : DR w' lo hi a1 c1 a2 c2 ss ps := ⟨h.d.below hb, h.u1, h.u2⟩
theorem DR.alloc {w : World} {lo hi : Nat} {a1 a2 : Option Addr} {c1 c2 : Nat} {ss : List ByteArray} {ps : List Wr} (h : DR w lo hi a1 c1 a2 c2 ss ps) (o : Obj) : DR (w.alloc o) lo hi a1 c1 a2 c2 ss ps := h.keep ((belowRefl w).alloc (Nat.le_refl _) o)
theorem DR.drew {w : World} {lo hi : Nat} {a1 a2 : Option Addr} {c1 c2 : Nat} {ss : List ByteArray} {ps : List Wr} (h : DR w lo hi a1 c1 a2 c2 ss ps) : DR w.drew lo hi a1 c1 a2 c2 ss ps := h.keep (belowRefl w).drew

theorem own_block {w w' : World} {b e s n : Nat} {v : Value} {xs : List Value} (h : w.ownsRow b e s v n xs) (hb : ∀ k, v.ownBlock = some k → w'.heap[k]? = w.heap[k]?) : w'.ownsRow b e s v n xs := by
  refine ⟨h.1, ?_⟩
  rcases h.2 with h1 | ⟨g, cap, cur, rfl, h2, h3, r⟩
  · exact Or.inl h1
  · exact Or.inr ⟨g, cap, cur, rfl, h2, (hb g rfl).trans h3, r⟩

theorem DR.kept2 {w w' : World} {lo hi lo' hi' : Nat} {a1 a2 : Option Addr} {c1 c2 : Nat} {ss : List ByteArray} {ps : List Wr} {v1 v2 : Value} (h : DR w lo' hi' a1 c1 a2 c2 ss ps) (k : Kept2 w w' v1 v2)
    (h1 : ∀ k, v1.ownBlock = some k → lo ≤ k ∧ k < hi) (h2 : ∀ k, v2.ownBlock = some k → lo ≤ k ∧ k < hi) (ha : hi' ≤ lo ∨ hi ≤ lo') : DR w' lo' hi' a1 c1 a2 c2 ss ps := by
  refine ⟨⟨own_block h.d.s fun j hj => ?_, own_block h.d.p fun j hj => ?_⟩, h.u1, h.u2⟩
  · have q := h.u1 j hj
    exact k.block j (World.ownsRow.lt h.d.s j hj).2 (fun e => by have := h1 _ e.symm; omega) (fun e => by have := h2 _ e.symm; omega)
  · have q := h.u2 j hj
    exact k.block j (World.ownsRow.lt h.d.p j hj).2 (fun e => by have := h1 _ e.symm; omega) (fun e => by have := h2 _ e.symm; omega)
end Go.Proofs.Ytnfkfhpmhhmbaaa

namespace Go.Proofs.Ytnfkfhpmhhmbaaa
open Go.RowKit
open DM
attribute [local go_sem ↓] Go.wp_at_zero Go.wp_at_succ

theorem ret_int' {a b : Int} (h : a = b) : Ending.returned (.int .i64 a) = .returned (.int .i64 b) := by rw [h]

def isA (a : Int) : Bool := decide (0 ≤ a ∧ a ≤ 1)
theorem isA_iff {a : Int} : isA a = true ↔ a = 0 ∨ a = 1 := by simp only [isA, decide_eq_true_eq]; omega
theorem isA_no {a : Int} (h0 : a ≠ 0) (h1 : a ≠ 1) : isA a = false := by simp only [isA, decide_eq_false_iff_not]; omega
def af (a : Int) : Int := if isA a = true then 1 + a * 48 else 0
theorem af_no {a : Int} (h : isA a = false) : af a = 0 := if_neg (by simp [h])

set_option maxHeartbeats 400000 in
theorem isa50 (a : Int) (b : Bool) (hb : isA a = b) (w : World) :
    Calls Try.prog 72 #[.int .i64 a] w fun e w' => e = .returned (.bool b) ∧ w' = w := by
  by_cases h0 : a = 0
  · subst h0; subst hb
    go_enter Try.func72, Try.ntmps72
    go_wp2
    go_ret
    exact ⟨rfl, rfl⟩
  · by_cases h1 : a = 1
    · subst h1; subst hb
      go_enter Try.func72, Try.ntmps72
      go_wp2
      go_ret
      exact ⟨rfl, rfl⟩
    · have HB : Hid (isA a = b) := hb
      have HN : Hid (isA a = false) := isA_no h0 h1
      have e0 : (a == 0) = false := by simpa using h0
      have e1 : (a == 1) = false := by simpa using h1
      clear hb h0 h1
      go_enter Try.func72, Try.ntmps72
      go_wp2
      go_ret
      exact ⟨ret_bool (HN.out.symm.trans HB.out), rfl⟩

set_option maxHeartbeats 400000 in
theorem saf14 (a : Int) (w : World) : Calls Try.prog 56 #[.int .i64 a] w fun e w' => e = .returned (.int .i64 (af a)) ∧ w' = w := by
  by_cases h0 : a = 0
  · subst h0
    go_enter Try.func56, Try.ntmps56
    go_wp2_with (go_at_call 59; refine (in57 _ _ _ true (by decide) _).mono ?_; rintro e w2 ⟨rfl, rfl⟩)
    go_ret
    exact ⟨rfl, rfl⟩
  · by_cases h1 : a = 1
    · subst h1
      go_enter Try.func56, Try.ntmps56
      go_wp2_with (go_at_call 59; refine (in57 _ _ _ true (by decide) _).mono ?_; rintro e w2 ⟨rfl, rfl⟩)
      go_ret
      exact ⟨rfl, rfl⟩
    · have HN : Hid (isA a = false) := isA_no h0 h1
      clear h0 h1
      go_enter Try.func56, Try.ntmps56
      go_wp2_with (go_at_call 59; refine (in57 _ _ _ false HN.out _).mono ?_; rintro e w2 ⟨rfl, rfl⟩)
      go_ret
      exact ⟨ret_int' (af_no HN.out).symm, rfl⟩

set_option maxHeartbeats 400000 in
theorem iaf15 (a : Int) (w : World) : Calls Try.prog 66 #[.int .i64 a] w fun e w' => e = .returned (.int .i64 (af a)) ∧ w' = w := by
  by_cases h0 : a = 0
  · subst h0
    go_enter Try.func66, Try.ntmps66
    go_wp2_with (go_at_call 72; refine (isa50 _ true rfl _).mono ?_; rintro e w2 ⟨rfl, rfl⟩)
    go_ret
    exact ⟨rfl, rfl⟩
  · by_cases h1 : a = 1
    · subst h1
      go_enter Try.func66, Try.ntmps66
      go_wp2_with (go_at_call 72; refine (isa50 _ true rfl _).mono ?_; rintro e w2 ⟨rfl, rfl⟩)
      go_ret
      exact ⟨rfl, rfl⟩
    · have HN : Hid (isA a = false) := isA_no h0 h1
      clear h0 h1
      go_enter Try.func66, Try.ntmps66
      go_wp2_with (go_at_call 72; refine (isa50 _ false HN.out _).mono ?_; rintro e w2 ⟨rfl, rfl⟩)
      go_ret
      exact ⟨ret_int' (af_no HN.out).symm, rfl⟩

def fb (t : ByteArray) : Int := if h : 0 < t.size then (t[0].toNat : Int) else 0
theorem fb_pos {t : ByteArray} (h : 0 < t.size) : fb t = (t[0].toNat : Int) := dif_pos h
theorem fb_le (t : ByteArray) : 0 ≤ fb t ∧ fb t ≤ 255 := by
  unfold fb
  split
  · have := t[0].toNat_lt
    omega
  · omega
theorem ne_nil {t : ByteArray} (h : 0 < t.size) : t.toList.isEmpty = false := by
  rw [ByteArray.toList_eq]
  cases hd : t.data.toList with
  | nil =>
    have : t.data.toList.length = t.size := by simp
    rw [hd] at this
    simp at this
    omega
  | cons a l => rfl
theorem ba_nil {t : ByteArray} (h : ¬ 0 < t.size) : t = ⟨#[]⟩ := by
  apply ByteArray.ext
  apply Array.eq_empty_of_size_eq_zero
  show t.size = 0
  omega

set_option maxHeartbeats 1000000 in
theorem sby61 (ss : List ByteArray) (ps : List Wr) (at' : Int) (a1 a2 : Option Addr) (c1 c2 : Nat) (hn : ss.length ≤ 100000000) (hm : ps.length ≤ 100000000) (w : World) (hs : SRow w a1 ss) (hp : PRow w a2 ps) :
    Calls Try.prog 52 #[.agg #[.slice a1 ss.length c1, .slice a2 ps.length c2], .int .i64 at'] w fun e w' => e = .returned (.int .i64 (fb (rdR ss ps at'))) ∧ Below w.heap.size w w' := by
  have b0 : Below w.heap.size w (w.alloc (.cells #[.slice a1 ss.length c1, .slice a2 ps.length c2] 30)) := (belowRefl w).alloc (Nat.le_refl _) _
  have HC : Hid (Calls Try.prog 79 #[.agg #[.slice a1 ss.length c1, .slice a2 ps.length c2], .int .i64 at'] (w.alloc (.cells #[.slice a1 ss.length c1, .slice a2 ps.length c2] 30)) fun e w' => e = .returned (.tuple #[.string (rdR ss ps at'), .bool (hasB at' ss.length)]) ∧ Below (w.alloc (.cells #[.slice a1 ss.length c1, .slice a2 ps.length c2] 30)).heap.size (w.alloc (.cells #[.slice a1 ss.length c1, .slice a2 ps.length c2] 30)) w') := srd20_any ss ps at' a1 a2 c1 c2 hn hm _ (hs.below b0) (hp.below b0)
  have HB0 : Hid (Below w.heap.size w (w.alloc (.cells #[.slice a1 ss.length c1, .slice a2 ps.length c2] 30))) := b0
  have HZ : Hid (hasB at' ss.length = false → rdR ss ps at' = ⟨#[]⟩) := fun h => if_neg (by simp [h])
  clear hs hp b0
  generalize rdR ss ps at' = t at *
  generalize hasB at' ss.length = b at *
  go_enter Try.func52, Try.ntmps52
  go_wp2_with fail
  refine HC.out.mono ?_
  rintro e w2 ⟨rfl, hb2⟩
  have HB2 : Hid (Below w.heap.size w w2) := HB0.out.trans (hb2.mono (by simp))
  clear hb2 HC
  cases b with
  | true =>
    clear HZ
    by_cases h0 : 0 < t.size
    · have h0' : (0 : Int) < (t.size : Int) := by omega
      have HF2 : Hid (fb t = (t[0].toNat : Int)) := fb_pos h0
      have hne : t.toList.isEmpty = false := ne_nil h0
      have h255 : (t[0].toNat : Int) ≤ 255 := by have := t[0].toNat_lt; omega
      go_wp2
      go_ret
      exact ⟨ret_int' HF2.out.symm, HB2.out⟩
    · obtain rfl := ba_nil h0
      go_wp2
      go_ret
      exact ⟨rfl, HB2.out⟩
  | false =>
    obtain rfl := HZ.out rfl
    go_wp2
    go_ret
    exact ⟨rfl, HB2.out⟩

set_option maxHeartbeats 1000000 in
theorem iby62 (ss : List ByteArray) (ps : List Wr) (at' : Int) (a1 a2 : Option Addr) (c1 c2 : Nat) (hn : ss.length ≤ 100000000) (hm : ps.length ≤ 100000000) (hls : ∀ s ∈ ss, s.size ≤ 1000000000) (hlp : ∀ p ∈ ps, p.2.size ≤ 1000000000) (w : World) (hs : SRow w a1 ss) (hp : PRow w a2 ps) :
    Calls Try.prog 62 #[.agg #[.slice a1 ss.length c1, .slice a2 ps.length c2], .int .i64 at'] w fun e w' => e = .returned (.int .i64 (fb (rdR ss ps at'))) ∧ Below w.heap.size w w' := by
  have b0 : Below w.heap.size w (w.alloc (.cells #[.slice a1 ss.length c1, .slice a2 ps.length c2] 30)) := (belowRefl w).alloc (Nat.le_refl _) _
  have HC : Hid (Calls Try.prog 83 #[.agg #[.slice a1 ss.length c1, .slice a2 ps.length c2], .int .i64 at'] (w.alloc (.cells #[.slice a1 ss.length c1, .slice a2 ps.length c2] 30)) fun e w' => e = .returned (.tuple #[.string (rdR ss ps at'), .bool (hasB at' ss.length)]) ∧ Below (w.alloc (.cells #[.slice a1 ss.length c1, .slice a2 ps.length c2] 30)).heap.size (w.alloc (.cells #[.slice a1 ss.length c1, .slice a2 ps.length c2] 30)) w') := ird21_any ss ps at' a1 a2 c1 c2 hn hm hls hlp _ (hs.below b0) (hp.below b0)
  have HB0 : Hid (Below w.heap.size w (w.alloc (.cells #[.slice a1 ss.length c1, .slice a2 ps.length c2] 30))) := b0
  have HZ : Hid (hasB at' ss.length = false → rdR ss ps at' = ⟨#[]⟩) := fun h => if_neg (by simp [h])
  clear hs hp b0 hls hlp
  generalize rdR ss ps at' = t at *
  generalize hasB at' ss.length = b at *
  go_enter Try.func62, Try.ntmps62
  go_wp2_with fail
  refine HC.out.mono ?_
  rintro e w2 ⟨rfl, hb2⟩
  have HB2 : Hid (Below w.heap.size w w2) := HB0.out.trans (hb2.mono (by simp))
  clear hb2 HC
  cases b with
  | true =>
    clear HZ
    by_cases h0 : 0 < t.size
    · have h0' : (0 : Int) < (t.size : Int) := by omega
      have HF2 : Hid (fb t = (t[0].toNat : Int)) := fb_pos h0
      have hne : t.toList.isEmpty = false := ne_nil h0
      have h255 : (t[0].toNat : Int) ≤ 255 := by have := t[0].toNat_lt; omega
      go_wp2
      go_ret
      exact ⟨ret_int' HF2.out.symm, HB2.out⟩
    · obtain rfl := ba_nil h0
      go_wp2
      go_ret
      exact ⟨rfl, HB2.out⟩
  | false =>
    obtain rfl := HZ.out rfl
    go_wp2
    go_ret
    exact ⟨rfl, HB2.out⟩

end Go.Proofs.Ytnfkfhpmhhmbaaa

namespace Go.Proofs.Ytnfkfhpmhhmbaaa
open Go.RowKit
open DM
attribute [local go_sem ↓] Go.wp_at_zero Go.wp_at_succ

def act (ss : List ByteArray) (ps : List Wr) : Int := fb (rdR ss ps 0) % 2
theorem act_01 (ss : List ByteArray) (ps : List Wr) : isA (act ss ps) = true := by
  have : 0 ≤ fb (rdR ss ps 0) % 2 ∧ fb (rdR ss ps 0) % 2 < 2 := ⟨Int.emod_nonneg _ (by decide), Int.emod_lt_of_pos _ (by decide)⟩
  rw [isA_iff, act]
  omega
def cnt (ss : List ByteArray) (ps : List Wr) (a : Int) : Int := if isA a = true then fb (rdR ss ps (af a)) else 0
theorem cnt_le (ss : List ByteArray) (ps : List Wr) (a : Int) : 0 ≤ cnt ss ps a ∧ cnt ss ps a ≤ 255 := by
  unfold cnt
  split
  · exact fb_le _
  · omega
theorem tmod2 (x : Int) (h : 0 ≤ x) : x.tmod 2 = x % 2 := Int.tmod_eq_emod_of_nonneg h

set_option maxHeartbeats 1000000 in
theorem sac25 (ss : List ByteArray) (ps : List Wr) (a1 a2 : Option Addr) (c1 c2 : Nat) (hn : ss.length ≤ 100000000) (hm : ps.length ≤ 100000000) (w : World) (hs : SRow w a1 ss) (hp : PRow w a2 ps) :
    Calls Try.prog 24 #[.agg #[.slice a1 ss.length c1, .slice a2 ps.length c2]] w fun e w' => e = .returned (.int .i64 (act ss ps)) ∧ Below w.heap.size w w' := by
  have b0 : Below w.heap.size w (w.alloc (.cells #[.slice a1 ss.length c1, .slice a2 ps.length c2] 30)) := (belowRefl w).alloc (Nat.le_refl _) _
  have HC : Hid (Calls Try.prog 52 #[.agg #[.slice a1 ss.length c1, .slice a2 ps.length c2], .int .i64 0] (w.alloc (.cells #[.slice a1 ss.length c1, .slice a2 ps.length c2] 30)) fun e w' => e = .returned (.int .i64 (fb (rdR ss ps 0))) ∧ Below (w.alloc (.cells #[.slice a1 ss.length c1, .slice a2 ps.length c2] 30)).heap.size (w.alloc (.cells #[.slice a1 ss.length c1, .slice a2 ps.length c2] 30)) w') := sby61 ss ps 0 a1 a2 c1 c2 hn hm _ (hs.below b0) (hp.below b0)
  have HB0 : Hid (Below w.heap.size w (w.alloc (.cells #[.slice a1 ss.length c1, .slice a2 ps.length c2] 30))) := b0
  have hf := fb_le (rdR ss ps 0)
  have h0 := hf.1
  have h1 := hf.2
  have HM : Hid ((fb (rdR ss ps 0)).tmod 2 = act ss ps) := tmod2 _ h0
  have HM2 : Hid (fb (rdR ss ps 0) % 2 = act ss ps) := rfl
  clear hs hp b0 hf
  generalize fb (rdR ss ps 0) = t at *
  go_enter Try.func24, Try.ntmps24
  go_wp2_with (go_at_call 52; refine HC.out.mono ?_; rintro e w2 ⟨rfl, hb2⟩)
  go_ret
  exact ⟨ret_int' (by first | exact HM2.out | exact HM.out), HB0.out.trans (hb2.mono (by simp))⟩

set_option maxHeartbeats 1000000 in
theorem iac26 (ss : List ByteArray) (ps : List Wr) (a1 a2 : Option Addr) (c1 c2 : Nat) (hn : ss.length ≤ 100000000) (hm : ps.length ≤ 100000000) (hls : ∀ s ∈ ss, s.size ≤ 1000000000) (hlp : ∀ p ∈ ps, p.2.size ≤ 1000000000) (w : World) (hs : SRow w a1 ss) (hp : PRow w a2 ps) :
    Calls Try.prog 32 #[.agg #[.slice a1 ss.length c1, .slice a2 ps.length c2]] w fun e w' => e = .returned (.int .i64 (act ss ps)) ∧ Below w.heap.size w w' := by
  have b0 : Below w.heap.size w (w.alloc (.cells #[.slice a1 ss.length c1, .slice a2 ps.length c2] 30)) := (belowRefl w).alloc (Nat.le_refl _) _
  have HC : Hid (Calls Try.prog 62 #[.agg #[.slice a1 ss.length c1, .slice a2 ps.length c2], .int .i64 0] (w.alloc (.cells #[.slice a1 ss.length c1, .slice a2 ps.length c2] 30)) fun e w' => e = .returned (.int .i64 (fb (rdR ss ps 0))) ∧ Below (w.alloc (.cells #[.slice a1 ss.length c1, .slice a2 ps.length c2] 30)).heap.size (w.alloc (.cells #[.slice a1 ss.length c1, .slice a2 ps.length c2] 30)) w') := iby62 ss ps 0 a1 a2 c1 c2 hn hm hls hlp _ (hs.below b0) (hp.below b0)
  have HB0 : Hid (Below w.heap.size w (w.alloc (.cells #[.slice a1 ss.length c1, .slice a2 ps.length c2] 30))) := b0
  have hf := fb_le (rdR ss ps 0)
  have h0 := hf.1
  have h1 := hf.2
  have HM : Hid ((fb (rdR ss ps 0)).tmod 2 = act ss ps) := tmod2 _ h0
  have HM2 : Hid (fb (rdR ss ps 0) % 2 = act ss ps) := rfl
  clear hs hp b0 hf hls hlp
  generalize fb (rdR ss ps 0) = t at *
  go_enter Try.func32, Try.ntmps32
  go_wp2_with (go_at_call 62; refine HC.out.mono ?_; rintro e w2 ⟨rfl, hb2⟩)
  go_ret
  exact ⟨ret_int' (by first | exact HM2.out | exact HM.out), HB0.out.trans (hb2.mono (by simp))⟩

set_option maxHeartbeats 2000000 in
theorem scn27 (ss : List ByteArray) (ps : List Wr) (a : Int) (a1 a2 : Option Addr) (c1 c2 : Nat) (hn : ss.length ≤ 100000000) (hm : ps.length ≤ 100000000) (w : World) (hs : SRow w a1 ss) (hp : PRow w a2 ps) :
    Calls Try.prog 29 #[.agg #[.slice a1 ss.length c1, .slice a2 ps.length c2], .int .i64 a] w fun e w' => e = .returned (.int .i64 (cnt ss ps a)) ∧ Below w.heap.size w w' := by
  have b0 : Below w.heap.size w (w.alloc (.cells #[.slice a1 ss.length c1, .slice a2 ps.length c2] 30)) := (belowRefl w).alloc (Nat.le_refl _) _
  cases hA : isA a with
  | true =>
    have HC : Hid (Calls Try.prog 52 #[.agg #[.slice a1 ss.length c1, .slice a2 ps.length c2], .int .i64 (af a)] ((w.alloc (.cells #[.slice a1 ss.length c1, .slice a2 ps.length c2] 30))).drew fun e w' => e = .returned (.int .i64 (fb (rdR ss ps (af a)))) ∧ Below ((w.alloc (.cells #[.slice a1 ss.length c1, .slice a2 ps.length c2] 30))).drew.heap.size ((w.alloc (.cells #[.slice a1 ss.length c1, .slice a2 ps.length c2] 30))).drew w') := sby61 ss ps (af a) a1 a2 c1 c2 hn hm _ (hs.below b0).drew (hp.below b0).drew
    have HB0 : Hid (Below w.heap.size w ((w.alloc (.cells #[.slice a1 ss.length c1, .slice a2 ps.length c2] 30))).drew) := b0.drew
    have HM : Hid (fb (rdR ss ps (af a)) = cnt ss ps a) := (if_pos hA).symm
    have HA : Hid (isA a = true) := hA
    have HF : Hid (∀ w : World, Calls Try.prog 56 #[.int .i64 a] w fun e w' => e = .returned (.int .i64 (af a)) ∧ w' = w) := saf14 a
    clear hs hp b0 hA
    generalize af a = q at *
    generalize fb (rdR ss ps q) = t at *
    go_enter Try.func29, Try.ntmps29
    go_wp2_with (go_at_call 59; refine (in57 _ _ _ true HA.out _).mono ?_; rintro e w2 ⟨rfl, rfl⟩)
    go_region_held3 (fun w' => w'.cell? ⟨w.heap.size, 0, none⟩ = some (.slice a1 ss.length c1) ∧ w'.cell? ⟨w.heap.size, 1, none⟩ = some (.slice a2 ps.length c2)) (first | go_keep | exact t4.out) ((first | (go_at_call 56; refine (HF.out _).mono ?_; rintro e w3 ⟨rfl, rfl⟩) | (go_at_call 52; refine HC.out.mono ?_; rintro e w4 ⟨rfl, hb4⟩; have t4 : Hid (w4.cell? ⟨w.heap.size, 0, none⟩ = some (.slice a1 ss.length c1) ∧ w4.cell? ⟨w.heap.size, 1, none⟩ = some (.slice a2 ps.length c2)) := ⟨(hb4.cell (p := ⟨w.heap.size, 0, none⟩) (by simp)).trans (by simp [go_sem]), (hb4.cell (p := ⟨w.heap.size, 1, none⟩) (by simp)).trans (by simp [go_sem])⟩)))
    all_goals
      go_wp2
      go_ret
      exact ⟨ret_int' HM.out, HB0.out.trans (hb4.mono (by simp))⟩
  | false =>
    have HM : Hid (0 = cnt ss ps a) := (if_neg (by simp [hA])).symm
    have HA : Hid (isA a = false) := hA
    have HB0 : Hid (Below w.heap.size w (w.alloc (.cells #[.slice a1 ss.length c1, .slice a2 ps.length c2] 30))) := b0
    clear hs hp b0 hA
    go_enter Try.func29, Try.ntmps29
    go_wp2_with (go_at_call 59; refine (in57 _ _ _ false HA.out _).mono ?_; rintro e w2 ⟨rfl, rfl⟩)
    go_ret
    exact ⟨ret_int' HM.out, HB0.out⟩

set_option maxHeartbeats 2000000 in
theorem icn28 (ss : List ByteArray) (ps : List Wr) (a : Int) (a1 a2 : Option Addr) (c1 c2 : Nat) (hn : ss.length ≤ 100000000) (hm : ps.length ≤ 100000000) (hls : ∀ s ∈ ss, s.size ≤ 1000000000) (hlp : ∀ p ∈ ps, p.2.size ≤ 1000000000) (w : World) (hs : SRow w a1 ss) (hp : PRow w a2 ps) :
    Calls Try.prog 36 #[.agg #[.slice a1 ss.length c1, .slice a2 ps.length c2], .int .i64 a] w fun e w' => e = .returned (.int .i64 (cnt ss ps a)) ∧ Below w.heap.size w w' := by
  have b0 : Below w.heap.size w (w.alloc (.cells #[.slice a1 ss.length c1, .slice a2 ps.length c2] 30)) := (belowRefl w).alloc (Nat.le_refl _) _
  cases hA : isA a with
  | true =>
    have HC : Hid (Calls Try.prog 62 #[.agg #[.slice a1 ss.length c1, .slice a2 ps.length c2], .int .i64 (af a)] ((w.alloc (.cells #[.slice a1 ss.length c1, .slice a2 ps.length c2] 30))).drew fun e w' => e = .returned (.int .i64 (fb (rdR ss ps (af a)))) ∧ Below ((w.alloc (.cells #[.slice a1 ss.length c1, .slice a2 ps.length c2] 30))).drew.heap.size ((w.alloc (.cells #[.slice a1 ss.length c1, .slice a2 ps.length c2] 30))).drew w') := iby62 ss ps (af a) a1 a2 c1 c2 hn hm hls hlp _ (hs.below b0).drew (hp.below b0).drew
    have HB0 : Hid (Below w.heap.size w ((w.alloc (.cells #[.slice a1 ss.length c1, .slice a2 ps.length c2] 30))).drew) := b0.drew
    have HM : Hid (fb (rdR ss ps (af a)) = cnt ss ps a) := (if_pos hA).symm
    have HA : Hid (isA a = true) := hA
    have HF : Hid (∀ w : World, Calls Try.prog 66 #[.int .i64 a] w fun e w' => e = .returned (.int .i64 (af a)) ∧ w' = w) := iaf15 a
    clear hs hp b0 hA hls hlp
    generalize af a = q at *
    generalize fb (rdR ss ps q) = t at *
    go_enter Try.func36, Try.ntmps36
    go_wp2_with (go_at_call 72; refine (isa50 _ true HA.out _).mono ?_; rintro e w2 ⟨rfl, rfl⟩)
    go_region_held3 (fun w' => w'.cell? ⟨w.heap.size, 0, none⟩ = some (.slice a1 ss.length c1) ∧ w'.cell? ⟨w.heap.size, 1, none⟩ = some (.slice a2 ps.length c2)) (first | go_keep | exact t4.out) ((first | (go_at_call 66; refine (HF.out _).mono ?_; rintro e w3 ⟨rfl, rfl⟩) | (go_at_call 62; refine HC.out.mono ?_; rintro e w4 ⟨rfl, hb4⟩; have t4 : Hid (w4.cell? ⟨w.heap.size, 0, none⟩ = some (.slice a1 ss.length c1) ∧ w4.cell? ⟨w.heap.size, 1, none⟩ = some (.slice a2 ps.length c2)) := ⟨(hb4.cell (p := ⟨w.heap.size, 0, none⟩) (by simp)).trans (by simp [go_sem]), (hb4.cell (p := ⟨w.heap.size, 1, none⟩) (by simp)).trans (by simp [go_sem])⟩)))
    all_goals
      go_wp2
      go_ret
      exact ⟨ret_int' HM.out, HB0.out.trans (hb4.mono (by simp))⟩
  | false =>
    have HM : Hid (0 = cnt ss ps a) := (if_neg (by simp [hA])).symm
    have HA : Hid (isA a = false) := hA
    have HB0 : Hid (Below w.heap.size w (w.alloc (.cells #[.slice a1 ss.length c1, .slice a2 ps.length c2] 30))) := b0
    clear hs hp b0 hA hls hlp
    go_enter Try.func36, Try.ntmps36
    go_wp2_with (go_at_call 72; refine (isa50 _ false HA.out _).mono ?_; rintro e w2 ⟨rfl, rfl⟩)
    go_ret
    exact ⟨ret_int' HM.out, HB0.out⟩
end Go.Proofs.Ytnfkfhpmhhmbaaa

namespace Go.Proofs.Ytnfkfhpmhhmbaaa
namespace WM

def varF : Nat → Nat → List UInt8
  | 0, n => [UInt8.ofNat n]
  | f + 1, n => if 127 < n then UInt8.ofNat (n % 128 + 128) :: varF f (n / 128) else [UInt8.ofNat n]

def varL (n : Nat) : List UInt8 := varF n n

theorem varF_eq : ∀ f n, n ≤ f → ∀ g, n ≤ g → varF f n = varF g n := by
  intro f
  induction f with
  | zero =>
    intro n hn g hg
    obtain rfl : n = 0 := by omega
    cases g <;> simp [varF]
  | succ f ih =>
    intro n hn g hg
    cases g with
    | zero =>
      obtain rfl : n = 0 := by omega
      simp [varF]
    | succ g =>
      simp only [varF]
      by_cases h : 127 < n
      · rw [if_pos h, if_pos h, ih (n / 128) (by omega) g (by omega)]
      · rw [if_neg h, if_neg h]

theorem varL_big (n : Nat) (h : 127 < n) : varL n = UInt8.ofNat (n % 128 + 128) :: varL (n / 128) := by
  unfold varL
  cases n with
  | zero => omega
  | succ m =>
    rw [varF, if_pos h, varF_eq m ((m + 1) / 128) (by omega) ((m + 1) / 128) (Nat.le_refl _)]

theorem varL_small (n : Nat) (h : n ≤ 127) : varL n = [UInt8.ofNat n] := by
  unfold varL
  cases n with
  | zero => rfl
  | succ m => rw [varF, if_neg (by omega)]

theorem varL_pos (n : Nat) : 1 ≤ (varL n).length := by
  by_cases h : 127 < n
  · rw [varL_big n h]; simp
  · rw [varL_small n (by omega)]; simp

theorem varL_len5 (n : Nat) (h : n < 34359738368) : (varL n).length ≤ 5 := by
  have step : ∀ k m, m < k * 128 → (∀ j, j < k → (varL j).length ≤ 4) → (varL m).length ≤ 5 := by
    intro k m hm hj
    by_cases h : 127 < m
    · rw [varL_big m h]; simp; exact hj _ (by omega)
    · rw [varL_small m (by omega)]; simp
  have s1 : ∀ m, m < 128 → (varL m).length ≤ 1 := fun m hm => by rw [varL_small m (by omega)]; simp
  have s2 : ∀ m, m < 16384 → (varL m).length ≤ 2 := fun m hm => by
    by_cases h : 127 < m
    · rw [varL_big m h]; have := s1 (m / 128) (by omega); simp; omega
    · have := s1 m (by omega); omega
  have s3 : ∀ m, m < 2097152 → (varL m).length ≤ 3 := fun m hm => by
    by_cases h : 127 < m
    · rw [varL_big m h]; have := s2 (m / 128) (by omega); simp; omega
    · have := s1 m (by omega); omega
  have s4 : ∀ m, m < 268435456 → (varL m).length ≤ 4 := fun m hm => by
    by_cases h : 127 < m
    · rw [varL_big m h]; have := s3 (m / 128) (by omega); simp; omega
    · have := s1 m (by omega); omega
  exact step 268435456 n h s4

def val : List UInt8 → Nat
  | [] => 0
  | b :: t => b.toNat % 128 + 128 * val t

theorem val_snoc (l : List UInt8) (b : UInt8) : val (l ++ [b]) = val l + b.toNat % 128 * 128 ^ l.length := by
  induction l with
  | nil => simp [val]
  | cons c t ih =>
    simp only [List.cons_append, val, ih, List.length_cons, Nat.pow_succ]
    rw [Nat.mul_add, Nat.mul_comm (128 ^ t.length) 128, ← Nat.mul_assoc, Nat.mul_comm 128 (b.toNat % 128), ← Nat.mul_assoc]
    omega

theorem ofNat_high (c : UInt8) (h : 128 ≤ c.toNat) : UInt8.ofNat (c.toNat % 128 + 128) = c := by
  apply UInt8.toNat_inj.1
  have := c.toNat_lt
  simp only [UInt8.toNat_ofNat']
  omega

theorem var_val : ∀ (pre : List UInt8) (b : UInt8), (∀ c ∈ pre, 128 ≤ c.toNat) → b.toNat < 128 →
    (varL (val (pre ++ [b])) = pre ++ [b] ↔ ¬ (b.toNat = 0 ∧ 0 < pre.length)) := by
  intro pre
  induction pre with
  | nil =>
    intro b _ hb
    have e : val ([] ++ [b]) = b.toNat := by simp [val]; omega
    rw [e, varL_small _ (by omega)]
    simp
  | cons c p ih =>
    intro b hc hb
    have hcc := hc c (by simp)
    have ih' := ih b (fun d hd => hc d (by simp [hd])) hb
    have hclt := c.toNat_lt
    have e : val ((c :: p) ++ [b]) = c.toNat % 128 + 128 * val (p ++ [b]) := by simp [val]
    rw [e]
    by_cases hm : val (p ++ [b]) = 0
    · rw [hm, varL_small _ (by omega)]
      have hb0 : b.toNat = 0 := by
        rw [val_snoc] at hm
        have hp : 0 < 128 ^ p.length := Nat.pow_pos (by omega)
        have : b.toNat % 128 * 128 ^ p.length = 0 := by omega
        rcases Nat.mul_eq_zero.1 this with h | h
        · omega
        · omega
      constructor
      · intro h
        have := congrArg List.length h
        simp at this
      · intro h; exact absurd ⟨hb0, by simp⟩ h
    · rw [varL_big _ (by omega)]
      have e1 : (c.toNat % 128 + 128 * val (p ++ [b])) % 128 = c.toNat % 128 := by omega
      have e2 : (c.toNat % 128 + 128 * val (p ++ [b])) / 128 = val (p ++ [b]) := by omega
      rw [e1, e2, ofNat_high c hcc]
      constructor
      · intro h
        have h' : varL (val (p ++ [b])) = p ++ [b] := by
          have := List.cons.inj h
          exact this.2
        have n1 := ih'.1 h'
        intro ⟨hb0, _⟩
        by_cases hp : p = []
        · subst hp
          simp [val, hb0] at hm
        · exact n1 ⟨hb0, by cases p with | nil => exact absurd rfl hp | cons _ _ => simp⟩
      · intro h
        have : varL (val (p ++ [b])) = p ++ [b] := by
          apply ih'.2
          intro ⟨h1, h2⟩
          exact h ⟨h1, by simp⟩
        rw [this]; rfl

def rvGo : Nat → Nat → Nat → List UInt8 → Option (Nat × Nat)
  | 0, _, _, _ => none
  | _ + 1, _, _, [] => none
  | f + 1, n, k, b :: t =>
    if b.toNat < 128 then
      (if 1000000000 < n + b.toNat % 128 * 128 ^ k ∨ (b.toNat = 0 ∧ 0 < k) then none else some (n + b.toNat % 128 * 128 ^ k, k + 1))
    else rvGo f (n + b.toNat % 128 * 128 ^ k) (k + 1) t

def rv (l : List UInt8) : Option (Nat × Nat) := rvGo 5 0 0 l

theorem rvGo_bd : ∀ f n k l r, rvGo f n k l = some r → r.1 ≤ 1000000000 ∧ k < r.2 ∧ r.2 ≤ k + l.length := by
  intro f
  induction f with
  | zero => intro n k l r h; simp [rvGo] at h
  | succ f ih =>
    intro n k l r h
    cases l with
    | nil => simp [rvGo] at h
    | cons b t =>
      simp only [rvGo] at h
      split at h
      · split at h
        · cases h
        · cases h; simp only [List.length_cons]; omega
      · have := ih _ _ _ _ h
        simp only [List.length_cons]
        omega

end WM
end Go.Proofs.Ytnfkfhpmhhmbaaa

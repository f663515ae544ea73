/- What AreaFirst, the first byte of a sector, ActiveOf and CountIn return, on both sides. -/
import Derived.Test.YtnfkecefkkdedaaB1
namespace Go.Proofs.Ytnfkecefkkdedaa
open Go.RowKit
open DM
attribute [local go_sem ↓] Go.wp_at_zero Go.wp_at_succ

theorem ret_int' {a b : Int} (h : a = b) : Ending.returned (.int .i64 a) = .returned (.int .i64 b) := by rw [h]

/-- is it an area? -/
def isA (a : Int) : Bool := decide (0 ≤ a ∧ a ≤ 1)
theorem isA_iff {a : Int} : isA a = true ↔ a = 0 ∨ a = 1 := by simp only [isA, decide_eq_true_eq]; omega
theorem isA_no {a : Int} (h0 : a ≠ 0) (h1 : a ≠ 1) : isA a = false := by simp only [isA, decide_eq_false_iff_not]; omega
/-- its first sector -/
def af (a : Int) : Int := if isA a = true then 1 + a * 48 else 0
theorem af_0 : af 0 = 1 := rfl
theorem af_1 : af 1 = 49 := rfl
theorem af_no {a : Int} (h : isA a = false) : af a = 0 := if_neg (by simp [h])

set_option maxHeartbeats 400000 in
theorem isa50 (a : Int) (b : Bool) (hb : isA a = b) (w : World) :
    Calls Try.prog 76 #[.int .i64 a] w fun e w' => e = .returned (.bool b) ∧ w' = w := by
  by_cases h0 : a = 0
  · subst h0; subst hb
    go_enter Try.func76, Try.ntmps76
    go_wp2
    go_ret
    exact ⟨rfl, rfl⟩
  · by_cases h1 : a = 1
    · subst h1; subst hb
      go_enter Try.func76, Try.ntmps76
      go_wp2
      go_ret
      exact ⟨rfl, rfl⟩
    · have HB : Hid (isA a = b) := hb
      have HN : Hid (isA a = false) := isA_no h0 h1
      have e0 : (a == 0) = false := by simpa using h0
      have e1 : (a == 1) = false := by simpa using h1
      clear hb h0 h1
      go_enter Try.func76, Try.ntmps76
      go_wp2
      go_ret
      exact ⟨ret_bool (HN.out.symm.trans HB.out), rfl⟩

set_option maxHeartbeats 400000 in
theorem saf14 (a : Int) (w : World) : Calls Try.prog 51 #[.int .i64 a] w fun e w' => e = .returned (.int .i64 (af a)) ∧ w' = w := by
  by_cases h0 : a = 0
  · subst h0
    go_enter Try.func51, Try.ntmps51
    go_wp2_with (go_at_call 62; refine (in57 _ _ _ true (by decide) _).mono ?_; rintro e w2 ⟨rfl, rfl⟩)
    go_ret
    exact ⟨rfl, rfl⟩
  · by_cases h1 : a = 1
    · subst h1
      go_enter Try.func51, Try.ntmps51
      go_wp2_with (go_at_call 62; refine (in57 _ _ _ true (by decide) _).mono ?_; rintro e w2 ⟨rfl, rfl⟩)
      go_ret
      exact ⟨rfl, rfl⟩
    · have HN : Hid (isA a = false) := isA_no h0 h1
      clear h0 h1
      go_enter Try.func51, Try.ntmps51
      go_wp2_with (go_at_call 62; refine (in57 _ _ _ false HN.out _).mono ?_; rintro e w2 ⟨rfl, rfl⟩)
      go_ret
      exact ⟨ret_int' (af_no HN.out).symm, rfl⟩

set_option maxHeartbeats 400000 in
theorem iaf15 (a : Int) (w : World) : Calls Try.prog 50 #[.int .i64 a] w fun e w' => e = .returned (.int .i64 (af a)) ∧ w' = w := by
  by_cases h0 : a = 0
  · subst h0
    go_enter Try.func50, Try.ntmps50
    go_wp2_with (go_at_call 76; refine (isa50 _ true rfl _).mono ?_; rintro e w2 ⟨rfl, rfl⟩)
    go_ret
    exact ⟨rfl, rfl⟩
  · by_cases h1 : a = 1
    · subst h1
      go_enter Try.func50, Try.ntmps50
      go_wp2_with (go_at_call 76; refine (isa50 _ true rfl _).mono ?_; rintro e w2 ⟨rfl, rfl⟩)
      go_ret
      exact ⟨rfl, rfl⟩
    · have HN : Hid (isA a = false) := isA_no h0 h1
      clear h0 h1
      go_enter Try.func50, Try.ntmps50
      go_wp2_with (go_at_call 76; refine (isa50 _ false HN.out _).mono ?_; rintro e w2 ⟨rfl, rfl⟩)
      go_ret
      exact ⟨ret_int' (af_no HN.out).symm, rfl⟩

/-- the first byte of a text -/
def fb (t : ByteArray) : Int := if h : 0 < t.size then (t[0].toNat : Int) else 0
theorem fb_pos {t : ByteArray} (h : 0 < t.size) : fb t = (t[0].toNat : Int) := dif_pos h
theorem fb_nil : fb ⟨#[]⟩ = 0 := rfl
theorem fb_le (t : ByteArray) : 0 ≤ fb t ∧ fb t ≤ 255 := by
  unfold fb
  split
  · have := t[0].toNat_lt
    omega
  · omega
theorem ne_nil {t : ByteArray} (h : 0 < t.size) : t.toList.isEmpty = false := by
  rw [ByteArray.toList_eq]
  cases hd : t.data.toList with
  | nil =>
    have : t.data.toList.length = t.size := by simp
    rw [hd] at this
    simp at this
    omega
  | cons a l => rfl
theorem ba_nil {t : ByteArray} (h : ¬ 0 < t.size) : t = ⟨#[]⟩ := by
  apply ByteArray.ext
  apply Array.eq_empty_of_size_eq_zero
  show t.size = 0
  omega

set_option maxHeartbeats 1000000 in
theorem sby61 (ss : List ByteArray) (ps : List Wr) (at' : Int) (a1 a2 : Option Addr) (c1 c2 : Nat) (hn : ss.length ≤ 100000000) (hm : ps.length ≤ 100000000) (w : World) (hs : SRow w a1 ss) (hp : PRow w a2 ps) :
    Calls Try.prog 79 #[.agg #[.slice a1 ss.length c1, .slice a2 ps.length c2], .int .i64 at'] w fun e w' => e = .returned (.int .i64 (fb (rdR ss ps at'))) ∧ Below w.heap.size w w' := by
  have b0 : Below w.heap.size w (w.alloc (.cells #[.slice a1 ss.length c1, .slice a2 ps.length c2] 27)) := (belowRefl w).alloc (Nat.le_refl _) _
  have HC : Hid (Calls Try.prog 15 #[.agg #[.slice a1 ss.length c1, .slice a2 ps.length c2], .int .i64 at'] (w.alloc (.cells #[.slice a1 ss.length c1, .slice a2 ps.length c2] 27)) fun e w' => e = .returned (.tuple #[.string (rdR ss ps at'), .bool (hasB at' ss.length)]) ∧ Below (w.alloc (.cells #[.slice a1 ss.length c1, .slice a2 ps.length c2] 27)).heap.size (w.alloc (.cells #[.slice a1 ss.length c1, .slice a2 ps.length c2] 27)) w') := srd20_any ss ps at' a1 a2 c1 c2 hn hm _ (hs.below b0) (hp.below b0)
  have HB0 : Hid (Below w.heap.size w (w.alloc (.cells #[.slice a1 ss.length c1, .slice a2 ps.length c2] 27))) := b0
  have HZ : Hid (hasB at' ss.length = false → rdR ss ps at' = ⟨#[]⟩) := fun h => if_neg (by simp [h])
  clear hs hp b0
  generalize rdR ss ps at' = t at *
  generalize hasB at' ss.length = b at *
  go_enter Try.func79, Try.ntmps79
  go_wp2_with fail
  refine HC.out.mono ?_
  rintro e w2 ⟨rfl, hb2⟩
  have HB2 : Hid (Below w.heap.size w w2) := HB0.out.trans (hb2.mono (by simp))
  clear hb2 HC
  cases b with
  | true =>
    clear HZ
    by_cases h0 : 0 < t.size
    · have h0' : (0 : Int) < (t.size : Int) := by omega
      have HF2 : Hid (fb t = (t[0].toNat : Int)) := fb_pos h0
      have hne : t.toList.isEmpty = false := ne_nil h0
      have h255 : (t[0].toNat : Int) ≤ 255 := by have := t[0].toNat_lt; omega
      go_wp2
      go_ret
      exact ⟨ret_int' HF2.out.symm, HB2.out⟩
    · obtain rfl := ba_nil h0
      go_wp2
      go_ret
      exact ⟨rfl, HB2.out⟩
  | false =>
    obtain rfl := HZ.out rfl
    go_wp2
    go_ret
    exact ⟨rfl, HB2.out⟩

set_option maxHeartbeats 1000000 in
theorem iby62 (ss : List ByteArray) (ps : List Wr) (at' : Int) (a1 a2 : Option Addr) (c1 c2 : Nat) (hn : ss.length ≤ 100000000) (hm : ps.length ≤ 100000000) (hls : ∀ s ∈ ss, s.size ≤ 1000000000) (hlp : ∀ p ∈ ps, p.2.size ≤ 1000000000) (w : World) (hs : SRow w a1 ss) (hp : PRow w a2 ps) :
    Calls Try.prog 75 #[.agg #[.slice a1 ss.length c1, .slice a2 ps.length c2], .int .i64 at'] w fun e w' => e = .returned (.int .i64 (fb (rdR ss ps at'))) ∧ Below w.heap.size w w' := by
  have b0 : Below w.heap.size w (w.alloc (.cells #[.slice a1 ss.length c1, .slice a2 ps.length c2] 27)) := (belowRefl w).alloc (Nat.le_refl _) _
  have HC : Hid (Calls Try.prog 16 #[.agg #[.slice a1 ss.length c1, .slice a2 ps.length c2], .int .i64 at'] (w.alloc (.cells #[.slice a1 ss.length c1, .slice a2 ps.length c2] 27)) fun e w' => e = .returned (.tuple #[.string (rdR ss ps at'), .bool (hasB at' ss.length)]) ∧ Below (w.alloc (.cells #[.slice a1 ss.length c1, .slice a2 ps.length c2] 27)).heap.size (w.alloc (.cells #[.slice a1 ss.length c1, .slice a2 ps.length c2] 27)) w') := ird21_any ss ps at' a1 a2 c1 c2 hn hm hls hlp _ (hs.below b0) (hp.below b0)
  have HB0 : Hid (Below w.heap.size w (w.alloc (.cells #[.slice a1 ss.length c1, .slice a2 ps.length c2] 27))) := b0
  have HZ : Hid (hasB at' ss.length = false → rdR ss ps at' = ⟨#[]⟩) := fun h => if_neg (by simp [h])
  clear hs hp b0 hls hlp
  generalize rdR ss ps at' = t at *
  generalize hasB at' ss.length = b at *
  go_enter Try.func75, Try.ntmps75
  go_wp2_with fail
  refine HC.out.mono ?_
  rintro e w2 ⟨rfl, hb2⟩
  have HB2 : Hid (Below w.heap.size w w2) := HB0.out.trans (hb2.mono (by simp))
  clear hb2 HC
  cases b with
  | true =>
    clear HZ
    by_cases h0 : 0 < t.size
    · have h0' : (0 : Int) < (t.size : Int) := by omega
      have HF2 : Hid (fb t = (t[0].toNat : Int)) := fb_pos h0
      have hne : t.toList.isEmpty = false := ne_nil h0
      have h255 : (t[0].toNat : Int) ≤ 255 := by have := t[0].toNat_lt; omega
      go_wp2
      go_ret
      exact ⟨ret_int' HF2.out.symm, HB2.out⟩
    · obtain rfl := ba_nil h0
      go_wp2
      go_ret
      exact ⟨rfl, HB2.out⟩
  | false =>
    obtain rfl := HZ.out rfl
    go_wp2
    go_ret
    exact ⟨rfl, HB2.out⟩

end Go.Proofs.Ytnfkecefkkdedaa

/- What ActiveOf and CountIn return, on both sides. -/
import Derived.Test.YtnfkecefkkdedaaK1
namespace Go.Proofs.Ytnfkecefkkdedaa
open Go.RowKit
open DM
attribute [local go_sem ↓] Go.wp_at_zero Go.wp_at_succ

/-- the area that counts -/
def act (ss : List ByteArray) (ps : List Wr) : Int := fb (rdR ss ps 0) % 2
theorem act_01 (ss : List ByteArray) (ps : List Wr) : isA (act ss ps) = true := by
  have : 0 ≤ fb (rdR ss ps 0) % 2 ∧ fb (rdR ss ps 0) % 2 < 2 := ⟨Int.emod_nonneg _ (by decide), Int.emod_lt_of_pos _ (by decide)⟩
  rw [isA_iff, act]
  omega
/-- how many records an area has -/
def cnt (ss : List ByteArray) (ps : List Wr) (a : Int) : Int := if isA a = true then fb (rdR ss ps (af a)) else 0
theorem cnt_le (ss : List ByteArray) (ps : List Wr) (a : Int) : 0 ≤ cnt ss ps a ∧ cnt ss ps a ≤ 255 := by
  unfold cnt
  split
  · exact fb_le _
  · omega
theorem tmod2 (x : Int) (h : 0 ≤ x) : x.tmod 2 = x % 2 := Int.tmod_eq_emod_of_nonneg h

set_option maxHeartbeats 1000000 in
theorem sac25 (ss : List ByteArray) (ps : List Wr) (a1 a2 : Option Addr) (c1 c2 : Nat) (hn : ss.length ≤ 100000000) (hm : ps.length ≤ 100000000) (w : World) (hs : SRow w a1 ss) (hp : PRow w a2 ps) :
    Calls Try.prog 37 #[.agg #[.slice a1 ss.length c1, .slice a2 ps.length c2]] w fun e w' => e = .returned (.int .i64 (act ss ps)) ∧ Below w.heap.size w w' := by
  have b0 : Below w.heap.size w (w.alloc (.cells #[.slice a1 ss.length c1, .slice a2 ps.length c2] 27)) := (belowRefl w).alloc (Nat.le_refl _) _
  have HC : Hid (Calls Try.prog 79 #[.agg #[.slice a1 ss.length c1, .slice a2 ps.length c2], .int .i64 0] (w.alloc (.cells #[.slice a1 ss.length c1, .slice a2 ps.length c2] 27)) fun e w' => e = .returned (.int .i64 (fb (rdR ss ps 0))) ∧ Below (w.alloc (.cells #[.slice a1 ss.length c1, .slice a2 ps.length c2] 27)).heap.size (w.alloc (.cells #[.slice a1 ss.length c1, .slice a2 ps.length c2] 27)) w') := sby61 ss ps 0 a1 a2 c1 c2 hn hm _ (hs.below b0) (hp.below b0)
  have HB0 : Hid (Below w.heap.size w (w.alloc (.cells #[.slice a1 ss.length c1, .slice a2 ps.length c2] 27))) := b0
  have hf := fb_le (rdR ss ps 0)
  have h0 := hf.1
  have h1 := hf.2
  have HM : Hid ((fb (rdR ss ps 0)).tmod 2 = act ss ps) := tmod2 _ h0
  have HM2 : Hid (fb (rdR ss ps 0) % 2 = act ss ps) := rfl
  clear hs hp b0 hf
  generalize fb (rdR ss ps 0) = t at *
  go_enter Try.func37, Try.ntmps37
  go_wp2_with (go_at_call 79; refine HC.out.mono ?_; rintro e w2 ⟨rfl, hb2⟩)
  go_ret
  exact ⟨ret_int' (by first | exact HM2.out | exact HM.out), HB0.out.trans (hb2.mono (by simp))⟩

set_option maxHeartbeats 1000000 in
theorem iac26 (ss : List ByteArray) (ps : List Wr) (a1 a2 : Option Addr) (c1 c2 : Nat) (hn : ss.length ≤ 100000000) (hm : ps.length ≤ 100000000) (hls : ∀ s ∈ ss, s.size ≤ 1000000000) (hlp : ∀ p ∈ ps, p.2.size ≤ 1000000000) (w : World) (hs : SRow w a1 ss) (hp : PRow w a2 ps) :
    Calls Try.prog 34 #[.agg #[.slice a1 ss.length c1, .slice a2 ps.length c2]] w fun e w' => e = .returned (.int .i64 (act ss ps)) ∧ Below w.heap.size w w' := by
  have b0 : Below w.heap.size w (w.alloc (.cells #[.slice a1 ss.length c1, .slice a2 ps.length c2] 27)) := (belowRefl w).alloc (Nat.le_refl _) _
  have HC : Hid (Calls Try.prog 75 #[.agg #[.slice a1 ss.length c1, .slice a2 ps.length c2], .int .i64 0] (w.alloc (.cells #[.slice a1 ss.length c1, .slice a2 ps.length c2] 27)) fun e w' => e = .returned (.int .i64 (fb (rdR ss ps 0))) ∧ Below (w.alloc (.cells #[.slice a1 ss.length c1, .slice a2 ps.length c2] 27)).heap.size (w.alloc (.cells #[.slice a1 ss.length c1, .slice a2 ps.length c2] 27)) w') := iby62 ss ps 0 a1 a2 c1 c2 hn hm hls hlp _ (hs.below b0) (hp.below b0)
  have HB0 : Hid (Below w.heap.size w (w.alloc (.cells #[.slice a1 ss.length c1, .slice a2 ps.length c2] 27))) := b0
  have hf := fb_le (rdR ss ps 0)
  have h0 := hf.1
  have h1 := hf.2
  have HM : Hid ((fb (rdR ss ps 0)).tmod 2 = act ss ps) := tmod2 _ h0
  have HM2 : Hid (fb (rdR ss ps 0) % 2 = act ss ps) := rfl
  clear hs hp b0 hf hls hlp
  generalize fb (rdR ss ps 0) = t at *
  go_enter Try.func34, Try.ntmps34
  go_wp2_with (go_at_call 75; refine HC.out.mono ?_; rintro e w2 ⟨rfl, hb2⟩)
  go_ret
  exact ⟨ret_int' (by first | exact HM2.out | exact HM.out), HB0.out.trans (hb2.mono (by simp))⟩

set_option maxHeartbeats 2000000 in
theorem scn27 (ss : List ByteArray) (ps : List Wr) (a : Int) (a1 a2 : Option Addr) (c1 c2 : Nat) (hn : ss.length ≤ 100000000) (hm : ps.length ≤ 100000000) (w : World) (hs : SRow w a1 ss) (hp : PRow w a2 ps) :
    Calls Try.prog 49 #[.agg #[.slice a1 ss.length c1, .slice a2 ps.length c2], .int .i64 a] w fun e w' => e = .returned (.int .i64 (cnt ss ps a)) ∧ Below w.heap.size w w' := by
  have b0 : Below w.heap.size w (w.alloc (.cells #[.slice a1 ss.length c1, .slice a2 ps.length c2] 27)) := (belowRefl w).alloc (Nat.le_refl _) _
  cases hA : isA a with
  | true =>
    have HC : Hid (Calls Try.prog 79 #[.agg #[.slice a1 ss.length c1, .slice a2 ps.length c2], .int .i64 (af a)] ((w.alloc (.cells #[.slice a1 ss.length c1, .slice a2 ps.length c2] 27))).drew fun e w' => e = .returned (.int .i64 (fb (rdR ss ps (af a)))) ∧ Below ((w.alloc (.cells #[.slice a1 ss.length c1, .slice a2 ps.length c2] 27))).drew.heap.size ((w.alloc (.cells #[.slice a1 ss.length c1, .slice a2 ps.length c2] 27))).drew w') := sby61 ss ps (af a) a1 a2 c1 c2 hn hm _ (hs.below b0).drew (hp.below b0).drew
    have HB0 : Hid (Below w.heap.size w ((w.alloc (.cells #[.slice a1 ss.length c1, .slice a2 ps.length c2] 27))).drew) := b0.drew
    have HM : Hid (fb (rdR ss ps (af a)) = cnt ss ps a) := (if_pos hA).symm
    have HA : Hid (isA a = true) := hA
    have HF : Hid (∀ w : World, Calls Try.prog 51 #[.int .i64 a] w fun e w' => e = .returned (.int .i64 (af a)) ∧ w' = w) := saf14 a
    clear hs hp b0 hA
    generalize af a = q at *
    generalize fb (rdR ss ps q) = t at *
    go_enter Try.func49, Try.ntmps49
    go_wp2_with (go_at_call 62; refine (in57 _ _ _ true HA.out _).mono ?_; rintro e w2 ⟨rfl, rfl⟩)
    go_region_held3 (fun w' => w'.cell? ⟨w.heap.size, 0, none⟩ = some (.slice a1 ss.length c1) ∧ w'.cell? ⟨w.heap.size, 1, none⟩ = some (.slice a2 ps.length c2)) (first | go_keep | exact t4.out) ((first | (go_at_call 51; refine (HF.out _).mono ?_; rintro e w3 ⟨rfl, rfl⟩) | (go_at_call 79; refine HC.out.mono ?_; rintro e w4 ⟨rfl, hb4⟩; have t4 : Hid (w4.cell? ⟨w.heap.size, 0, none⟩ = some (.slice a1 ss.length c1) ∧ w4.cell? ⟨w.heap.size, 1, none⟩ = some (.slice a2 ps.length c2)) := ⟨(hb4.cell (p := ⟨w.heap.size, 0, none⟩) (by simp)).trans (by simp [go_sem]), (hb4.cell (p := ⟨w.heap.size, 1, none⟩) (by simp)).trans (by simp [go_sem])⟩)))
    all_goals
      go_wp2
      go_ret
      exact ⟨ret_int' HM.out, HB0.out.trans (hb4.mono (by simp))⟩
  | false =>
    have HM : Hid (0 = cnt ss ps a) := (if_neg (by simp [hA])).symm
    have HA : Hid (isA a = false) := hA
    have HB0 : Hid (Below w.heap.size w (w.alloc (.cells #[.slice a1 ss.length c1, .slice a2 ps.length c2] 27))) := b0
    clear hs hp b0 hA
    go_enter Try.func49, Try.ntmps49
    go_wp2_with (go_at_call 62; refine (in57 _ _ _ false HA.out _).mono ?_; rintro e w2 ⟨rfl, rfl⟩)
    go_ret
    exact ⟨ret_int' HM.out, HB0.out⟩

set_option maxHeartbeats 2000000 in
theorem icn28 (ss : List ByteArray) (ps : List Wr) (a : Int) (a1 a2 : Option Addr) (c1 c2 : Nat) (hn : ss.length ≤ 100000000) (hm : ps.length ≤ 100000000) (hls : ∀ s ∈ ss, s.size ≤ 1000000000) (hlp : ∀ p ∈ ps, p.2.size ≤ 1000000000) (w : World) (hs : SRow w a1 ss) (hp : PRow w a2 ps) :
    Calls Try.prog 39 #[.agg #[.slice a1 ss.length c1, .slice a2 ps.length c2], .int .i64 a] w fun e w' => e = .returned (.int .i64 (cnt ss ps a)) ∧ Below w.heap.size w w' := by
  have b0 : Below w.heap.size w (w.alloc (.cells #[.slice a1 ss.length c1, .slice a2 ps.length c2] 27)) := (belowRefl w).alloc (Nat.le_refl _) _
  cases hA : isA a with
  | true =>
    have HC : Hid (Calls Try.prog 75 #[.agg #[.slice a1 ss.length c1, .slice a2 ps.length c2], .int .i64 (af a)] ((w.alloc (.cells #[.slice a1 ss.length c1, .slice a2 ps.length c2] 27))).drew fun e w' => e = .returned (.int .i64 (fb (rdR ss ps (af a)))) ∧ Below ((w.alloc (.cells #[.slice a1 ss.length c1, .slice a2 ps.length c2] 27))).drew.heap.size ((w.alloc (.cells #[.slice a1 ss.length c1, .slice a2 ps.length c2] 27))).drew w') := iby62 ss ps (af a) a1 a2 c1 c2 hn hm hls hlp _ (hs.below b0).drew (hp.below b0).drew
    have HB0 : Hid (Below w.heap.size w ((w.alloc (.cells #[.slice a1 ss.length c1, .slice a2 ps.length c2] 27))).drew) := b0.drew
    have HM : Hid (fb (rdR ss ps (af a)) = cnt ss ps a) := (if_pos hA).symm
    have HA : Hid (isA a = true) := hA
    have HF : Hid (∀ w : World, Calls Try.prog 50 #[.int .i64 a] w fun e w' => e = .returned (.int .i64 (af a)) ∧ w' = w) := iaf15 a
    clear hs hp b0 hA hls hlp
    generalize af a = q at *
    generalize fb (rdR ss ps q) = t at *
    go_enter Try.func39, Try.ntmps39
    go_wp2_with (go_at_call 76; refine (isa50 _ true HA.out _).mono ?_; rintro e w2 ⟨rfl, rfl⟩)
    go_region_held3 (fun w' => w'.cell? ⟨w.heap.size, 0, none⟩ = some (.slice a1 ss.length c1) ∧ w'.cell? ⟨w.heap.size, 1, none⟩ = some (.slice a2 ps.length c2)) (first | go_keep | exact t4.out) ((first | (go_at_call 50; refine (HF.out _).mono ?_; rintro e w3 ⟨rfl, rfl⟩) | (go_at_call 75; refine HC.out.mono ?_; rintro e w4 ⟨rfl, hb4⟩; have t4 : Hid (w4.cell? ⟨w.heap.size, 0, none⟩ = some (.slice a1 ss.length c1) ∧ w4.cell? ⟨w.heap.size, 1, none⟩ = some (.slice a2 ps.length c2)) := ⟨(hb4.cell (p := ⟨w.heap.size, 0, none⟩) (by simp)).trans (by simp [go_sem]), (hb4.cell (p := ⟨w.heap.size, 1, none⟩) (by simp)).trans (by simp [go_sem])⟩)))
    all_goals
      go_wp2
      go_ret
      exact ⟨ret_int' HM.out, HB0.out.trans (hb4.mono (by simp))⟩
  | false =>
    have HM : Hid (0 = cnt ss ps a) := (if_neg (by simp [hA])).symm
    have HA : Hid (isA a = false) := hA
    have HB0 : Hid (Below w.heap.size w (w.alloc (.cells #[.slice a1 ss.length c1, .slice a2 ps.length c2] 27))) := b0
    clear hs hp b0 hA hls hlp
    go_enter Try.func39, Try.ntmps39
    go_wp2_with (go_at_call 76; refine (isa50 _ false HA.out _).mono ?_; rintro e w2 ⟨rfl, rfl⟩)
    go_ret
    exact ⟨ret_int' HM.out, HB0.out⟩
end Go.Proofs.Ytnfkecefkkdedaa

/- What l01Long, l03Zero and DiskNew return, on both sides. -/
import Derived.Test.YtnneodofajhbcaaPw14
import Derived.Test.YtnneodofajhbcaaPw05
import Derived.Test.YtnneodofajhbcaaPw13
namespace Go.Proofs.Ytnneodofajhbcaa
open Go.RowKit
open DM
attribute [local go_sem ↓] Go.wp_at_zero Go.wp_at_succ

set_option maxRecDepth 100000 in
set_option maxHeartbeats 1000000 in
theorem long84 (n : Nat) (x : UInt8) (hn : n ≤ 30000) (w : World) :
    Calls Try.prog 69 #[.int .i64 (n : Int), .int .u8 (x.toNat : Int)] w fun e w' => e = .returned (.string (longB n x)) ∧ Below w.heap.size w w' := by
  have hmk := mkRow 88 5 1 1 _ Try.underlying88 Try.info5 n (by omega) (by omega)
  go_enter Try.func69, Try.ntmps69
  go_wp2
  clear hmk
  have HO : Hid ((w.alloc (.cells (madeCells #[Value.int .u8 0] n) 5)).ownsRow w.heap.size 5 1 (.slice (some ⟨w.heap.size, 0, none⟩) n n) n (madeCells #[Value.int .u8 0] n).toList) :=
    World.ownsRow_lit w _ _ (Nat.le_refl _) (by unfold maxLen; omega) (by rw [size_madeCells, Nat.mul_one])
  go_loopw [6] (fun t wr => ∃ (k : Nat) (xs : List Value), k ≤ n ∧ t = .int .i64 k ∧ Hid (wr.ownsRow w.heap.size 5 1 (.slice (some ⟨w.heap.size, 0, none⟩) n n) n xs) ∧ Hid (∀ j, j < k → xs[j]? = some (.int .u8 (x.toNat : Int))) ∧ Hid (Below w.heap.size w wr)) (fun t _ => n - (intOf t).toNat)
  case atStart => exact ⟨0, _, Nat.zero_le _, rfl, HO, fun j hj => by omega, (belowRefl w).alloc (Nat.le_refl _) _⟩
  case round =>
    obtain ⟨k, xs, hk, rfl, HX, HA, HB⟩ := hrel
    by_cases hlt : k < n
    · have hlt' : (k : Int) < (n : Int) := by omega
      have h0 : (0 : Int) ≤ (k : Int) := by omega
      have hlen := HX.out.1
      have hq : wr.cell? ⟨w.heap.size, k, none⟩ = some (xs[k]'(by omega)) := by rw [World.ownsRow.cellAt HX.out k (by omega)]; simp
      have hfz := World.ownsRow.frozenAt HX.out k
      have st := World.ownsRow.stored HX.out k (.int .u8 (x.toNat : Int))
      have HX3 : Hid _ := st.1
      have HA2 : Hid (∀ j, j < k + 1 → (xs.set k (.int .u8 (x.toNat : Int)))[j]? = some (.int .u8 (x.toNat : Int))) := fun j hj => by
        by_cases e : j = k
        · subst e; rw [List.getElem?_set_self (by omega)]
        · rw [List.getElem?_set_ne (by omega)]; exact HA.out j (by omega)
      clear st
      go_wp2
      go_roundw
      case rel => exact ⟨k + 1, _, by omega, by go_num, HX3, HA2, HB.out.setCell (Nat.le_refl _) _⟩
      case measure => simp [intOf]; omega
    · have hlt' : ¬ (k : Int) < (n : Int) := by omega
      have HOw : Own wr w.heap.size (.slice (some ⟨w.heap.size, 0, none⟩) n n) (List.replicate n x) := by
        have e : xs = bv (List.replicate n x) := by
          apply List.ext_getElem?
          intro j
          have hlen := HX.out.1
          by_cases hj : j < n
          · rw [HA.out j (by omega)]; simp [bv, hj]
          · rw [List.getElem?_eq_none (by omega), List.getElem?_eq_none (by rw [bv_len]; simp; omega)]
        unfold Own
        rw [← e, List.length_replicate]
        exact HX.out
      have hst := HOw.str
      clear HOw
      go_wp2
      go_ret
      exact ⟨rfl, HB.out⟩

set_option maxHeartbeats 400000 in
theorem zero71 (w : World) : Calls Try.prog 61 #[] w fun e w' => e = .returned (.string (longB 64 0)) ∧ Below w.heap.size w w' := by
  have c := long84 64 0 (by omega) w
  rw [show (((0 : UInt8).toNat : Nat) : Int) = 0 from rfl, show ((64 : Nat) : Int) = 64 from rfl] at c
  go_enter Try.func61, Try.ntmps61
  go_wp2_with fail
  refine c.mono ?_
  clear c
  rintro e w2 ⟨rfl, hb2⟩
  go_wp2
  go_ret
  exact ⟨rfl, hb2⟩

def zerosS (n : Nat) : List ByteArray := List.replicate n (longB 64 0)
theorem zerosS_take (n k : Nat) (h : k < n) : (zerosS n).take (k + 1) = (zerosS n).take k ++ [longB 64 0] := by
  rw [take_succ_b _ k (by simpa [zerosS] using h)]
  simp [zerosS]
def nwB (n : Int) : Bool := decide (1 ≤ n ∧ n ≤ 100)
def nwS (n : Int) : List ByteArray := if nwB n = true then zerosS n.toNat else []
theorem nwS_no {n : Int} (h : nwB n = false) : nwS n = [] := if_neg (by simp [h])
theorem nwS_yes {n : Int} (h : nwB n = true) : nwS n = zerosS n.toNat := if_pos h

theorem flat_rep : ∀ n : Nat, List.replicate (n * 64) (Value.int .u8 0) = flatC (List.replicate n (List.replicate 64 0))
  | 0 => rfl
  | n + 1 => by
    rw [show (n + 1) * 64 = 64 + n * 64 by omega, ← List.replicate_append_replicate, flat_rep n, List.replicate_succ (n := n) (a := List.replicate 64 (0 : UInt8))]
    show _ = bv (List.replicate 64 0) ++ flatC (List.replicate n (List.replicate 64 0))
    congr 1
theorem flat_zero (n : Nat) : (madeCells (Array.replicate 64 (Value.int .u8 0)) (n * 64)).toList = flatC (List.replicate n (List.replicate 64 0)) := by
  rw [← flat_rep]
  apply List.ext_getElem?
  intro j
  by_cases hj : j < n * 64
  · have : j % 64 < 64 := Nat.mod_lt _ (by omega)
    simp [madeCells, hj, this]
  · simp [madeCells, hj]
theorem rows0_64 (n : Nat) : All64 (List.replicate n (List.replicate 64 0)) := fun r hr => by
  rw [(List.mem_replicate.1 hr).2]; simp

set_option maxRecDepth 100000 in
set_option maxHeartbeats 2000000 in
theorem inew36 (n : Int) (w : World) :
    Calls Try.prog 52 #[.int .i64 n] w fun e w' => ∃ b1 d1 b2 d2, e = .returned (.tuple #[.agg #[.slice b1 (nwS n).length d1, .slice b2 ([] : List Wr).length d2], .bool (nwB n)]) ∧ DOwn w' w.heap.size b1 d1 b2 d2 (nwS n) [] ∧ Below w.heap.size w w' := by
  cases hb : nwB n with
  | false =>
    have HE : Hid (nwS n = []) := nwS_no hb
    have hcase : n < 1 ∨ 100 < n := by simp [nwB] at hb; omega
    rcases hcase with h | h
    · have h' : decide (n < 1) = true := by simpa using h
      go_enter Try.func52, Try.ntmps52
      go_wp2
      refine bodyPost_ret (v := .tuple #[.agg #[.slice none 0 0, .slice none 0 0], .bool false]) (by simp [results, Try.results52, go_sem]) rfl ⟨none, 0, none, 0, ?_, ⟨?_, POwn.nil _ _⟩, (belowRefl w).alloc (Nat.le_refl _) _⟩
      · rw [HE.out]; rfl
      · rw [HE.out]; exact SOwn.nil _ _
    · have h' : decide (n < 1) = false := by simp; omega
      have h2 : decide (100 < n) = true := by simpa using h
      go_enter Try.func52, Try.ntmps52
      go_wp2
      refine bodyPost_ret (v := .tuple #[.agg #[.slice none 0 0, .slice none 0 0], .bool false]) (by simp [results, Try.results52, go_sem]) rfl ⟨none, 0, none, 0, ?_, ⟨?_, POwn.nil _ _⟩, (belowRefl w).alloc (Nat.le_refl _) _⟩
      · rw [HE.out]; rfl
      · rw [HE.out]; exact SOwn.nil _ _
  | true =>
    have hin : 1 ≤ n ∧ n ≤ 100 := by simpa [nwB] using hb
    obtain ⟨m, rfl⟩ := Int.eq_ofNat_of_zero_le (show 0 ≤ n by omega)
    have HE : Hid (rtxs (wrt (List.replicate m (List.replicate 64 0)) []) = nwS (m : Int)) := by
      show _ = _
      rw [nwS_yes hb]
      simp [wrt, rtxs, zerosS, longB]
    have h' : decide ((m : Int) < 1) = false := by simp; omega
    have h2 : decide ((100 : Int) < (m : Int)) = false := by simp; omega
    have hmk := mkRow 91 101 64 64 _ Try.underlying91 Try.info101 m (by omega) (by omega)
    have hlen : (List.replicate m (List.replicate 64 (0 : UInt8))).length = m := by simp
    go_enter Try.func52, Try.ntmps52
    go_wp2_with fail
    clear hmk
    have hA : AOwn ((w.alloc (.cells #[.slice none 0 0, .slice none 0 0] 40)).alloc (.cells (madeCells (Array.replicate 64 (Value.int .u8 0)) (m * 64)) 101)) (w.alloc (.cells #[.slice none 0 0, .slice none 0 0] 40)).heap.size (.slice (some ⟨w.heap.size + 1, 0, none⟩) (List.replicate m (List.replicate 64 (0 : UInt8))).length m) (List.replicate m (List.replicate 64 0)) := by
      refine ⟨?_, rows0_64 m⟩
      have h := World.ownsRow_lit (base := (w.alloc (.cells #[.slice none 0 0, .slice none 0 0] 40)).heap.size) (e := 101) (size := 64) (w.alloc (.cells #[.slice none 0 0, .slice none 0 0] 40)) (madeCells (Array.replicate 64 (Value.int .u8 0)) (m * 64)) m (Nat.le_refl _) (by unfold maxLen; omega) (by rw [size_madeCells])
      rw [flat_zero] at h
      rw [hlen]
      simpa using h
    have c := wrt55 (List.replicate m (List.replicate 64 0)) [] (some ⟨w.heap.size + 1, 0, none⟩) none m 0 (by rw [hlen]; omega) (by simp) (fun p hp => by cases hp) (w.alloc (.cells #[.slice none 0 0, .slice none 0 0] 40)) _ ((belowRefl _).alloc (Nat.le_refl _) _) hA (PRow.nil _ _)
    rw [hlen] at c
    refine c.mono ?_
    clear c hA
    rintro e w2 ⟨z1, z2, rfl, hs2, hb2⟩
    have HS2 : Hid (SOwn w2 (w.heap.size + 1) (.slice z1 (nwS (m : Int)).length z2) (nwS (m : Int))) := by
      have h := hs2
      rw [HE.out] at h
      show SOwn _ _ _ _
      simpa using h
    have HL : Hid ((nwS (m : Int)).length = m) := by show _ = _; rw [← HE.out, rtxs_len, wrt_len]; exact hlen
    have R1 : Hid (Bd w2 w.heap.size (.slice none 0 0) (.slice none 0 0)) := (Bd.new w (.slice none 0 0) (.slice none 0 0) 40).keep hb2 (by simp)
    have HB2 : Hid (Below w.heap.size w w2) := ((belowRefl w).alloc (Nat.le_refl _) _).trans (hb2.mono (by simp))
    have t0 := R1.out.c0
    have t1 := R1.out.c1
    have tf := R1.out.fz
    clear hs2 hb2
    go_wp2
    refine bodyPost_ret (v := .tuple #[.agg #[.slice z1 m z2, .slice none 0 0], .bool true]) (by simp [results, Try.results52, go_sem, t0, t1]) rfl ⟨z1, z2, none, 0, ?_, ⟨?_, POwn.nil _ _⟩, ?_⟩
    · rw [HL.out]
    · exact ((HS2.out.set (by show w.heap.size < _; omega) _).set (by show w.heap.size < _; omega) _).mono (by omega)
    · exact (HB2.out.setCell (Nat.le_refl _) _).setCell (Nat.le_refl _) _

set_option maxRecDepth 100000 in
set_option maxHeartbeats 2000000 in
theorem snew39 (n : Int) (w : World) :
    Calls Try.prog 49 #[.int .i64 n] w fun e w' => ∃ b1 d1 b2 d2, e = .returned (.tuple #[.agg #[.slice b1 (nwS n).length d1, .slice b2 ([] : List Wr).length d2], .bool (nwB n)]) ∧ DOwn w' w.heap.size b1 d1 b2 d2 (nwS n) [] ∧ Below w.heap.size w w' := by
  cases hb : nwB n with
  | false =>
    have HE : Hid (nwS n = []) := nwS_no hb
    have HI : Hid (decide ((1 : Int) ≤ n ∧ n ≤ 100) = false) := hb
    go_enter Try.func49, Try.ntmps49
    go_wp2_with (go_at_call 16; refine (in57 _ _ _ false HI.out _).mono ?_; rintro e w2 ⟨rfl, rfl⟩)
    refine bodyPost_ret (v := .tuple #[.agg #[.slice none 0 0, .slice none 0 0], .bool false]) (by simp [results, Try.results49, go_sem]) rfl ⟨none, 0, none, 0, ?_, ⟨?_, POwn.nil _ _⟩, (belowRefl w).alloc (Nat.le_refl _) _⟩
    · rw [HE.out]; rfl
    · rw [HE.out]; exact SOwn.nil _ _
  | true =>
    have hin : 1 ≤ n ∧ n ≤ 100 := by simpa [nwB] using hb
    have HI : Hid (decide ((1 : Int) ≤ n ∧ n ≤ 100) = true) := hb
    obtain ⟨m, rfl⟩ := Int.eq_ofNat_of_zero_le (show 0 ≤ n by omega)
    have HE : Hid (zerosS m = nwS (m : Int)) := by show _ = _; rw [nwS_yes hb]; rfl
    have HX1 : Hid (Bd ((w.alloc (.cells #[.slice none 0 0, .slice none 0 0] 40)).alloc (.cells #[.slice none 0 0, .slice none 0 0] 40)) w.heap.size (.slice none 0 0) (.slice none 0 0)) := (Bd.new w _ _ _).alloc _
    have HX2 : Hid (Bd ((w.alloc (.cells #[.slice none 0 0, .slice none 0 0] 40)).alloc (.cells #[.slice none 0 0, .slice none 0 0] 40)) (w.heap.size + 1) (.slice none 0 0) (.slice none 0 0)) := by
      have h := Bd.new (w.alloc (.cells #[.slice none 0 0, .slice none 0 0] 40)) (.slice none 0 0) (.slice none 0 0) 40
      show Bd _ _ _ _
      simpa using h
    go_enter Try.func49, Try.ntmps49
    go_wp2_with (go_at_call 16; refine (in57 _ _ _ true HI.out _).mono ?_; rintro e w2 ⟨rfl, rfl⟩)
    go_loopw [5] (fun t wr => ∃ (k : Nat) (av : Option Addr) (cv : Nat), k ≤ m ∧ t = .int .i64 k ∧ Hid (Below w.heap.size w wr) ∧ Hid (Bd wr w.heap.size (.slice none 0 0) (.slice none 0 0)) ∧ Hid (Bd wr (w.heap.size + 1) (.slice av k cv) (.slice none 0 0)) ∧ Hid (wr.ownsRow (w.heap.size + 1 + 1) 9 1 (.slice av k cv) k (scs ((zerosS m).take k)))) (fun t _ => m - (intOf t).toNat)
    case atStart => exact ⟨0, none, 0, Nat.zero_le _, rfl, ((belowRefl _).alloc (Nat.le_refl _) _).alloc (by simp) _, HX1, HX2, World.ownsRow_nil _ _ _ _⟩
    case round =>
      clear HX1 HX2
      obtain ⟨k, av, cv, hk, rfl, HB, Y1, Y2, HO⟩ := hrel
      by_cases hlt : k < m
      · have hlt' : (k : Int) < (m : Int) := by omega
        have o0 := Y2.out.c0
        have of0 := Y2.out.fz
        have olt := Y2.out.lt
        go_wp2
        go_region_law (first
          | (refine stepAppH 37 9 1 16 (.string ByteArray.empty) Try.underlying37 Try.info9 rfl (by decide) (by omega) (by rfl) _ _ (by rfl) (base := w.heap.size + 1 + 1) [.string (longB 64 0)] (by rfl) (World.ownsRow.alloc (ownsBelow HO.out HB2.out) _) (by rfl) (by exact heap_alloc_new w2 _) rfl (by simp [Value.oneCell']) (by omega) (by simp; omega) ?_; intro g' cap w3 hown3 hb3 hg3; have Y23 := ((Y2.out.keep HB2.out olt).alloc (.cells #[.string (longB 64 0)] 9)).keep hb3 (by omega); have o3 := Y23.c0; have of3 := Y23.fz; have ol3 := Y23.lt)
          | (go_simp; go_at_call 61; refine (zero71 _).mono ?_; rintro e w2 ⟨rfl, hb2⟩; have HB2 : Hid (Below wr.heap.size wr w2) := undrew hb2; have o2 := (Y2.out.keep HB2.out olt).c0; have ol2 := (Y2.out.keep HB2.out olt).lt))
        all_goals
          have hz : w.heap.size + 1 + 1 ≤ wr.heap.size := olt
          have HB3 : Hid (Below (w.heap.size + 1 + 1) wr w3) := ((HB2.out.mono hz).alloc (Nat.le_trans hz HB2.out.size) _).trans hb3
          have HO3 : Hid ((w3.setCell ⟨w.heap.size + 1, 0, none⟩ (.slice (some ⟨g', 0, none⟩) (k + 1) cap)).ownsRow (w.heap.size + 1 + 1) 9 1 (.slice (some ⟨g', 0, none⟩) (k + 1) cap) (k + 1) (scs ((zerosS m).take (k + 1)))) := by
            rw [zerosS_take m k hlt, scs_app]
            exact ownsRow_setCell_below hown3 (by show _ + 1 < _; omega) _
          have V1 : Hid (Bd (w3.setCell ⟨w.heap.size + 1, 0, none⟩ (.slice (some ⟨g', 0, none⟩) (k + 1) cap)) w.heap.size (.slice none 0 0) (.slice none 0 0)) := (Y1.out.keep HB3.out (by omega)).setO (by show _ + 1 ≠ _; omega) _
          have V2 : Hid (Bd (w3.setCell ⟨w.heap.size + 1, 0, none⟩ (.slice (some ⟨g', 0, none⟩) (k + 1) cap)) (w.heap.size + 1) (.slice (some ⟨g', 0, none⟩) (k + 1) cap) (.slice none 0 0)) := (Y2.out.keep HB3.out (by omega)).set0 _
          have HB4 : Hid (Below w.heap.size w (w3.setCell ⟨w.heap.size + 1, 0, none⟩ (.slice (some ⟨g', 0, none⟩) (k + 1) cap))) := (HB.out.trans (HB3.out.mono (by omega))).setCell (by show _ ≤ _ + 1; omega) _
          clear hown3 hb3 hg3 Y23 o3 of3 ol3 o2 ol2 o0 of0 olt
          go_wp2
          go_roundw
          case rel => exact ⟨k + 1, _, _, by omega, by go_num, HB4, V1, V2, HO3⟩
          case measure => simp [intOf]; omega
      · have hlt' : ¬ (k : Int) < (m : Int) := by omega
        obtain rfl : k = m := by omega
        have HL : Hid ((nwS (k : Int)).length = k) := by show _ = _; rw [← HE.out]; simp [zerosS]
        have HS1 : Hid (SOwn wr (w.heap.size + 1 + 1) (.slice av (nwS (k : Int)).length cv) (nwS (k : Int))) := by
          have h := HO.out
          rw [List.take_of_length_le (by simp [zerosS]), HE.out] at h
          show World.ownsRow _ _ _ _ _ _ _
          rw [HL.out]
          exact h
        have q0 := Y2.out.c0
        have q1 := Y2.out.c1
        have r0 := Y1.out.c0
        have r1 := Y1.out.c1
        have rf := Y1.out.fz
        clear HO
        go_wp2
        refine bodyPost_ret (v := .tuple #[.agg #[.slice av k cv, .slice none 0 0], .bool true]) (by simp [results, Try.results49, go_sem, r0, r1]) rfl ⟨av, cv, none, 0, ?_, ⟨?_, POwn.nil _ _⟩, ?_⟩
        · rw [HL.out]
        · exact ((HS1.out.set (by show w.heap.size < _; omega) _).set (by show w.heap.size < _; omega) _).mono (by omega)
        · exact (HB.out.setCell (Nat.le_refl _) _).setCell (Nat.le_refl _) _
end Go.Proofs.Ytnneodofajhbcaa

namespace Go.Proofs.Ytnneodofajhbcaa
open Go.RowKit
open DM
attribute [local go_sem ↓] Go.wp_at_zero Go.wp_at_succ

def noW (_ : Int) : List Wr := []
theorem snewP (n : Int) (w : World) :
    Calls Try.prog 49 #[.int .i64 n] w fun e w' => ∃ b1 d1 b2 d2, e = .returned (.tuple #[.agg #[.slice b1 (nwS n).length d1, .slice b2 (noW n).length d2], .bool (nwB n)]) ∧ DOwn w' w.heap.size b1 d1 b2 d2 (nwS n) (noW n) ∧ Below w.heap.size w w' := snew39 n w
theorem inewP (n : Int) (w : World) :
    Calls Try.prog 52 #[.int .i64 n] w fun e w' => ∃ b1 d1 b2 d2, e = .returned (.tuple #[.agg #[.slice b1 (nwS n).length d1, .slice b2 (noW n).length d2], .bool (nwB n)]) ∧ DOwn w' w.heap.size b1 d1 b2 d2 (nwS n) (noW n) ∧ Below w.heap.size w w' := inew36 n w

theorem nwS_len (n : Int) : (nwS n).length ≤ 100 := by
  unfold nwS
  split
  · rename_i h
    simp [nwB] at h
    simp [zerosS]
    omega
  · simp

def lgS : List ByteArray := nwS 97
def lgP : List Wr := noW 97

theorem secs52 (w : World) : Calls Try.prog 50 #[] w fun e w' => e = .returned (.int .i64 97) ∧ w' = w := by
  go_enter Try.func50, Try.ntmps50
  go_wp2
  go_ret
  exact ⟨rfl, rfl⟩

set_option maxHeartbeats 1000000 in
theorem slog16 (w : World) :
    Calls Try.prog 33 #[] w fun e w' => ∃ b1 d1 b2 d2, e = .returned (.agg #[.slice b1 lgS.length d1, .slice b2 lgP.length d2]) ∧ DOwn w' w.heap.size b1 d1 b2 d2 lgS lgP ∧ Below w.heap.size w w' := by
  have HC : Hid (∀ w : World, Calls Try.prog 49 #[.int .i64 97] w fun e w' => ∃ b1 d1 b2 d2, e = .returned (.tuple #[.agg #[.slice b1 lgS.length d1, .slice b2 lgP.length d2], .bool true]) ∧ DOwn w' w.heap.size b1 d1 b2 d2 lgS lgP ∧ Below w.heap.size w w') := fun w => snewP 97 w
  generalize lgS = S at *
  generalize lgP = P at *
  go_enter Try.func33, Try.ntmps33
  go_wp2_with (first | (go_at_call 50; refine (secs52 _).mono ?_; rintro e w1 ⟨rfl, rfl⟩) | fail)
  refine (HC.out _).mono ?_
  rintro e w2 ⟨r1, r2, r3, r4, rfl, hd2, hb2⟩
  have X0 : Hid (Bd w2 w.heap.size (.slice none 0 0) (.slice none 0 0)) := (Bd.new w _ _ 40).keep hb2 (by simp)
  have HB2 : Hid (Below w.heap.size w w2) := ((belowRefl w).alloc (Nat.le_refl _) _).trans (hb2.mono (by simp))
  have HD2 : Hid (DOwn w2 (w.heap.size + 1) r1 r2 r3 r4 S P) := by
    have h := hd2
    rw [World.size_alloc] at h
    exact h
  clear hd2 hb2
  have k0 := X0.out.c0
  have k1 := X0.out.c1
  have kf := X0.out.fz
  have kl := X0.out.lt
  have X3 : Hid (Bd (w2.alloc (.cells #[.slice r1 S.length r2, .slice r3 P.length r4] 40)) w.heap.size (.slice none 0 0) (.slice none 0 0)) := X0.out.alloc _
  have q0 := X3.out.c0
  have q1 := X3.out.c1
  have qf := X3.out.fz
  go_wp2
  have X4 : Hid (Bd (((w2.setCell ⟨w.heap.size, 0, none⟩ (.slice r1 S.length r2)).setCell ⟨w.heap.size, 1, none⟩ (.slice r3 P.length r4)).alloc (.cells #[.slice r1 S.length r2, .slice r3 P.length r4] 40)) w.heap.size (.slice r1 S.length r2) (.slice r3 P.length r4)) := ((X0.out.set0 _).set1 _).alloc _
  have y0 := X4.out.c0
  have y1 := X4.out.c1
  refine bodyPost_ret (v := .agg #[.slice r1 S.length r2, .slice r3 P.length r4]) (by simp [results, Try.results33, go_sem, y0, y1]) rfl ⟨r1, r2, r3, r4, rfl, ⟨?_, ?_⟩, ?_⟩
  · exact (((HD2.out.s.set (by show w.heap.size < _; omega) _).set (by show w.heap.size < _; omega) _).alloc _).mono (by omega)
  · exact (((HD2.out.p.set (by show w.heap.size < _; omega) _).set (by show w.heap.size < _; omega) _).alloc _).mono (by omega)
  · exact ((HB2.out.setCell (Nat.le_refl _) _).setCell (Nat.le_refl _) _).alloc (by simp [World.setCell]; omega) _

set_option maxHeartbeats 1000000 in
theorem ilog17 (w : World) :
    Calls Try.prog 35 #[] w fun e w' => ∃ b1 d1 b2 d2, e = .returned (.agg #[.slice b1 lgS.length d1, .slice b2 lgP.length d2]) ∧ DOwn w' w.heap.size b1 d1 b2 d2 lgS lgP ∧ Below w.heap.size w w' := by
  have HC : Hid (∀ w : World, Calls Try.prog 52 #[.int .i64 97] w fun e w' => ∃ b1 d1 b2 d2, e = .returned (.tuple #[.agg #[.slice b1 lgS.length d1, .slice b2 lgP.length d2], .bool true]) ∧ DOwn w' w.heap.size b1 d1 b2 d2 lgS lgP ∧ Below w.heap.size w w') := fun w => inewP 97 w
  generalize lgS = S at *
  generalize lgP = P at *
  go_enter Try.func35, Try.ntmps35
  go_wp2_with fail
  refine (HC.out _).mono ?_
  rintro e w2 ⟨r1, r2, r3, r4, rfl, hd2, hb2⟩
  have X0 : Hid (Bd w2 w.heap.size (.slice none 0 0) (.slice none 0 0)) := (Bd.new w _ _ 40).keep hb2 (by simp)
  have HB2 : Hid (Below w.heap.size w w2) := ((belowRefl w).alloc (Nat.le_refl _) _).trans (hb2.mono (by simp))
  have HD2 : Hid (DOwn w2 (w.heap.size + 1) r1 r2 r3 r4 S P) := by
    have h := hd2
    rw [World.size_alloc] at h
    exact h
  clear hd2 hb2
  have k0 := X0.out.c0
  have k1 := X0.out.c1
  have kf := X0.out.fz
  have kl := X0.out.lt
  have X3 : Hid (Bd (w2.alloc (.cells #[.slice r1 S.length r2, .slice r3 P.length r4] 40)) w.heap.size (.slice none 0 0) (.slice none 0 0)) := X0.out.alloc _
  have q0 := X3.out.c0
  have q1 := X3.out.c1
  have qf := X3.out.fz
  go_wp2
  have X4 : Hid (Bd (((w2.setCell ⟨w.heap.size, 0, none⟩ (.slice r1 S.length r2)).setCell ⟨w.heap.size, 1, none⟩ (.slice r3 P.length r4)).alloc (.cells #[.slice r1 S.length r2, .slice r3 P.length r4] 40)) w.heap.size (.slice r1 S.length r2) (.slice r3 P.length r4)) := ((X0.out.set0 _).set1 _).alloc _
  have y0 := X4.out.c0
  have y1 := X4.out.c1
  refine bodyPost_ret (v := .agg #[.slice r1 S.length r2, .slice r3 P.length r4]) (by simp [results, Try.results35, go_sem, y0, y1]) rfl ⟨r1, r2, r3, r4, rfl, ⟨?_, ?_⟩, ?_⟩
  · exact (((HD2.out.s.set (by show w.heap.size < _; omega) _).set (by show w.heap.size < _; omega) _).alloc _).mono (by omega)
  · exact (((HD2.out.p.set (by show w.heap.size < _; omega) _).set (by show w.heap.size < _; omega) _).alloc _).mono (by omega)
  · exact ((HB2.out.setCell (Nat.le_refl _) _).setCell (Nat.le_refl _) _).alloc (by simp [World.setCell]; omega) _

end Go.Proofs.Ytnneodofajhbcaa

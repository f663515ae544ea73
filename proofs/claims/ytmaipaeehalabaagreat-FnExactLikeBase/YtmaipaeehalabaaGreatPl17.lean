/- strings.Builder inside a textWriter: copyCheck, WriteString and String. -/
import Derived.Test.YtmaipaeehalabaaGreatPl16
import Derived.Lib.Builder
import Derived.Lib.AppendStr
import Derived.WalkLawsBesides
import Derived.Lib.BufferWrite
namespace Go.Proofs.YtmaipaeehalabaaGreat
open Go.RowKit
open KM
attribute [local go_sem ↓] Go.wp_at_zero Go.wp_at_succ

theorem info92 : (Tryz.prog.info? 90).map (·.size) = some 2 := by kernel_rfl
theorem lies92 : liesAt Tryz.prog Tryz.prog.depth 92 (2 / Tryz.prog.cellsOf 92) 0 90 1 = true := by kernel_rfl

theorem toU (b : Nat) (w : World) (hsh : w.shape? b = some (92, 2)) : (convert 87 168 (.pointer (some ⟨b, 0, none⟩))).run Tryz.prog w = .ok (.pointer (some ⟨b, 0, none⟩)) w := by
  obtain ⟨j, hj, hjs⟩ := Option.map_eq_some_iff.1 info92
  have hz : j.size ≠ 0 := by rw [hjs]; decide
  simp [convert, run_underlying Tryz.underlying87, run_underlying Tryz.underlying168, Conv.unsafePointer, Conv.seenAt, viewAt, cellsIn, hsh, sizeOf, typeInfo, hj, hz]
theorem fromU (b : Nat) (w : World) (hsh : w.shape? b = some (92, 2)) : (convert 168 87 (.pointer (some ⟨b, 0, none⟩))).run Tryz.prog w = .ok (.pointer (some ⟨b, 0, none⟩)) w := by
  obtain ⟨j, hj, _⟩ := Option.map_eq_some_iff.1 info92
  have hl := lies92
  simp [convert, run_underlying Tryz.underlying87, run_underlying Tryz.underlying168, Conv.unsafePointer, Conv.seenAt, viewAt, hsh, variablesAt, hl, sizeOf, typeInfo, hj]

set_option maxHeartbeats 1000000 in
set_option maxRecDepth 100000 in
theorem check85_used (b : Nat) (w : World) (h0 : w.cell? ⟨b, 0, none⟩ = some (.pointer (some ⟨b, 0, none⟩))) :
    Calls Tryz.prog 102 #[.pointer (some ⟨b, 0, none⟩)] w fun e w' => e = .returned (.tuple #[]) ∧ w' = w := by
  obtain ⟨j, hj, _⟩ := Option.map_eq_some_iff.1 info92
  go_enter Tryz.func102, Tryz.ntmps102
  go_wp2
  rw [Lib.run_neq_ptr_same w _ Tryz.underlying87 hj]
  go_wp2
  go_end0
  exact ⟨rfl, rfl⟩

set_option maxHeartbeats 1000000 in
set_option maxRecDepth 100000 in
theorem check85_fresh (b : Nat) (w : World) (h0 : w.cell? ⟨b, 0, none⟩ = some (.pointer none)) (hsh : w.shape? b = some (92, 2)) (hfz : w.frozen? ⟨b, 0, none⟩ = false) :
    Calls Tryz.prog 102 #[.pointer (some ⟨b, 0, none⟩)] w fun e w' => e = .returned (.tuple #[]) ∧ w' = w.setCell ⟨b, 0, none⟩ (.pointer (some ⟨b, 0, none⟩)) := by
  obtain ⟨j, hj, hjs⟩ := Option.map_eq_some_iff.1 info92
  go_enter Tryz.func102, Tryz.ntmps102
  go_wp2
  rw [toU b w hsh]
  simp only [Result.andThen]
  rw [Oper.upon_value]
  go_wp2
  rw [run_callFunc_extern Tryz.func118 (by kernel_rfl) (by kernel_rfl) (by kernel_rfl) (e := Extern.AbiNoEscape.same) (by kernel_rfl)]
  rw [Lib.run_noEscape]
  simp only [Result.andThen]
  rw [Oper.upon_value]
  go_wp2
  rw [fromU b w hsh]
  simp only [Result.andThen]
  rw [Oper.upon_value]
  go_wp2
  go_end0
  exact ⟨rfl, rfl⟩

def Keep5 (b : Nat) (w w' : World) : Prop := ∀ e0 cs T z, e0 ≠ b → T ≠ 5 → w.heap[e0]? = some (.cells cs T z) → w'.heap[e0]? = some (.cells cs T z)
theorem Keep5.trans {b : Nat} {w1 w2 w3 : World} (h : Keep5 b w1 w2) (k : Keep5 b w2 w3) : Keep5 b w1 w3 := fun e0 cs T z h1 h2 h3 => k e0 cs T z h1 h2 (h e0 cs T z h1 h2 h3)
theorem Keep5.below {b : Nat} {w w' : World} (h : Below w.heap.size w w') : Keep5 b w w' := fun e0 cs T z _ _ h3 => by
  rw [h.block e0 (Array.getElem?_eq_some_iff.1 h3).1]; exact h3
theorem Keep5.set (b k : Nat) (w : World) (v : Value) : Keep5 b w (w.setCell ⟨b, k, none⟩ v) := fun e0 cs T z h1 _ h3 => by
  rw [Below.heap_setCell _ _ _ _ (fun e => h1 e)]; exact h3
theorem check85 (B b : Nat) (bs : List Value) (w : World) (h : Lib.IsBuilder 92 5 B b bs w) :
    Calls Tryz.prog 102 #[.pointer (some ⟨b, 0, none⟩)] w fun e w' => e = .returned (.tuple #[]) ∧ (Lib.BuilderAt 92 5 B b (.pointer (some ⟨b, 0, none⟩)) bs w' ∧ Below B w w' ∧ Keep5 b w w') := by
  rcases h with h | h
  · refine (check85_fresh b w h.cell0 h.shape h.frozen0).mono ?_
    rintro e w' ⟨rfl, rfl⟩
    exact ⟨rfl, h.used _, (Below.refl B w).setCell (p := ⟨b, 0, none⟩) h.1 _, Keep5.set b 0 w _⟩
  · refine (check85_used b w h.cell0).mono ?_
    rintro e w' ⟨rfl, rfl⟩
    exact ⟨rfl, h, Below.refl B _, fun _ _ _ _ _ _ h => h⟩

set_option maxHeartbeats 2000000 in
set_option maxRecDepth 100000 in
theorem write69 (B b : Nat) (l : List UInt8) (s : ByteArray) (w : World) (h : Lib.IsBuilder 92 5 B b (bv l) w) (hlen : l.length + s.size ≤ 1000000000) (hBw : B ≤ w.heap.size) :
    Calls Tryz.prog 88 #[.pointer (some ⟨b, 0, none⟩), .string s] w fun e w' => e = .returned (.tuple #[.int .i64 s.size, .nilIface]) ∧ (Lib.BuilderAt 92 5 B b (.pointer (some ⟨b, 0, none⟩)) (bv (l ++ s.data.toList)) w' ∧ Below B w w' ∧ Keep5 b w w') := by
  obtain ⟨i0, hi, hz0, hz1, hz2⟩ := info_parts Tryz.info5
  have hl := bv_len l
  have HL : Hid ((bv l).length = l.length) := hl
  have HI : Hid (Lib.IsBuilder 92 5 B b (bv l) w) := h
  clear hl h
  go_enter Tryz.func88, Tryz.ntmps88
  go_wp2_with (go_at_call 102; refine (check85 B b (bv l) _ HI.out).mono ?_)
  rintro e w1 ⟨rfl, h1, hb1, hk1⟩
  have HK1 : Hid (Keep5 b w w1) := hk1
  clear hk1
  obtain ⟨hB, v, hbk, hown, hne⟩ := h1
  have c0 : w1.cell? ⟨b, 0, none⟩ = some (.pointer (some ⟨b, 0, none⟩)) := by rw [Lib.cell_of_heap hbk]; rfl
  have c1 : w1.cell? ⟨b, 1, none⟩ = some v := by rw [Lib.cell_of_heap hbk]; rfl
  have hBw1 : B ≤ w1.heap.size := Nat.le_trans hBw hb1.size
  go_wp2_with (at_builtin; refine Lib.wpList_append_own_string _ rfl _ _ 88 9 rfl B 5 i0 Tryz.underlying88 Tryz.underlying9 hi hz0 hz1 hz2 _ _ _ rfl hown s rfl ?c3 ?c4 ?c5 ?_)
  case c3 => rw [HL.out]; unfold maxLen; omega
  case c4 => rw [HL.out]; omega
  case c5 => exact hBw1
  intro v' w2 hown' hgrow _
  have HK2 : Hid (Keep5 b w1 w2) := fun e0 cs T z h1 h2 h3 => by
    rw [hgrow.block e0 (Array.getElem?_eq_some_iff.1 h3).1 (fun e => Lib.ownBlock_ne hown h3 h2 e.symm)]; exact h3
  have hlt : b < w1.heap.size := by
    rcases Nat.lt_or_ge b w1.heap.size with h' | h'
    · exact h'
    · simp [Array.getElem?_eq_none h'] at hbk
  have hb2 : w2.heap[b]? = some (.cells #[.pointer (some ⟨b, 0, none⟩), v] 92 (0, 0)) := by
    rw [hgrow.block b hlt (fun e => hne e.symm)]
    exact hbk
  have d0 : w2.cell? ⟨b, 0, none⟩ = some (.pointer (some ⟨b, 0, none⟩)) := by rw [Lib.cell_of_heap hb2]; rfl
  have d1 : w2.cell? ⟨b, 1, none⟩ = some v := by rw [Lib.cell_of_heap hb2]; rfl
  have f1 : w2.frozen? ⟨b, 1, none⟩ = false := Lib.frozen_of_heap hb2 1
  obtain ⟨ao, n', cap, rfl⟩ : ∃ ao n' cap, v' = .slice ao n' cap := by
    rcases hown'.2 with ⟨hv, _⟩ | ⟨g, cap, cur, hv, _⟩
    · exact ⟨_, _, _, hv⟩
    · exact ⟨_, _, _, hv⟩
  have e1 : bv (l ++ s.data.toList) = bv l ++ Lib.strCells s := by
    unfold bv Lib.strCells
    rw [List.map_append]
  have E1 : Hid (bv (l ++ s.data.toList) = bv l ++ Lib.strCells s) := e1
  clear e1
  go_wp2
  go_ret2
  refine ⟨rfl, ?_, ?_, (HK1.out.trans HK2.out).trans (Keep5.set b 1 _ _)⟩
  · rw [E1.out]
    exact Lib.BuilderAt.put (T := 92) (e := 5) hB hb2 (bs' := bv l ++ Lib.strCells s) (by simpa [Lib.strCells_length] using hown') (by decide)
  · exact (hb1.grown hgrow hBw1 (fun k hk => (hown.lt k hk).1)).setCell (p := ⟨b, 1, none⟩) hB _

theorem cells5 : Tryz.prog.cellsOf 5 = 1 := by kernel_rfl

set_option maxHeartbeats 2000000 in
set_option maxRecDepth 100000 in
theorem bstring (B b : Nat) (l : List UInt8) (w : World) (h : Lib.IsBuilder 92 5 B b (bv l) w) (h0 : l ≠ []) :
    Calls Tryz.prog 49 #[.pointer (some ⟨b, 0, none⟩)] w fun e w' => e = .returned (.string ⟨l.toArray⟩) ∧ Below B w w' := by
  obtain ⟨p, hB, v, hbk, hown, hne⟩ : ∃ p, Lib.BuilderAt 92 5 B b p (bv l) w := by
    rcases h with h | h
    · exact ⟨_, h⟩
    · exact ⟨_, h⟩
  have hl0 : l.length ≠ 0 := by simpa using h0
  rw [bv_len] at hown
  obtain ⟨g, cap, cur, rfl, hbg, hg, hnc, hcm, hcs, htake⟩ : ∃ g cap cur, v = .slice (some ⟨g, 0, none⟩) l.length cap ∧ B ≤ g ∧ w.heap[g]? = some (.cells cur 5 (0, 0)) ∧ l.length ≤ cap ∧ cap ≤ maxLen ∧ cur.size = cap * 1 ∧ cur.toList.take (l.length * 1) = bv l := by
    rcases hown.2 with ⟨_, hz⟩ | ⟨g, cap, cur, hv, r⟩
    · exact absurd hz hl0
    · exact ⟨g, cap, cur, hv, r⟩
  have c1 : w.drew.cell? ⟨b, 1, none⟩ = some (.slice (some ⟨g, 0, none⟩) l.length cap) := by
    have : w.drew.heap[b]? = some (.cells #[p, .slice (some ⟨g, 0, none⟩) l.length cap] 92 (0, 0)) := hbk
    rw [Lib.cell_of_heap this]; rfl
  have hSD : (Builtin.unsafeSliceData_ #[88] 126 #[.slice (some ⟨g, 0, none⟩) l.length cap]).run Tryz.prog w.drew = .ok (.pointer (some ⟨g, 0, none⟩)) w.drew :=
    Lib.run_unsafeSliceData_row _ _ _ _ _ _ (by omega)
  have hUS : (Builtin.unsafeString_ #[126, 3] 9 #[.pointer (some ⟨g, 0, none⟩), .int .i64 l.length]).run Tryz.prog w.drew = .ok (.string ⟨l.toArray⟩) (w.drew.freeze ⟨g, 0, none⟩ l.length) := by
    refine Lib.run_unsafeString_row w.drew 126 3 9 5 Tryz.underlying126 cells5 g cur.size (by have hg' : w.drew.heap[g]? = some (.cells cur 5 (0, 0)) := hg; simp [World.shape?, hg']) l h0 (by omega) (by unfold maxLen at hcm; omega) ?_
    intro j x hx
    have := hown.cells (g := g) rfl j (.int .u8 x.toNat) (by simp [bv, hx])
    exact this
  clear hown hne htake hg hbk
  have mixed : Tryz.prog.follows Departure.mixedOrders = true := by kernel_rfl
  go_enter Tryz.func49, Tryz.ntmps49
  go_wp2
  go_region_o
  all_goals (go_wp2; go_ret; exact ⟨rfl, Lib.below_freeze (Below.drew (Below.refl B w)) (p := ⟨g, 0, none⟩) hbg _⟩)
end Go.Proofs.YtmaipaeehalabaaGreat

namespace Go.Proofs.YtmaipaeehalabaaGreat
open Go.RowKit

theorem pre_len {n m : Nat} {pre : List UInt8} (hn : n ≤ 1000000000) (h : pre ++ WM.varL m = WM.varL n) : pre.length ≤ 10 := by
  have h1 := WM.varL_len5 n (by omega)
  have h2 := congrArg List.length h
  simp at h2
  omega

set_option maxHeartbeats 400000 in
theorem var28 (n : Nat) (hn : n ≤ 1000000000) (w : World) :
    Calls Tryz.prog 40 #[.int .i64 n] w fun e w' => e = .returned (.string ⟨(WM.varL n).toArray⟩) ∧ Below w.heap.size w w' := by
  go_enter Tryz.func40, Tryz.ntmps40
  go_wp2
  go_loopw [0, 3] (fun t v wr => ∃ (m : Nat) (pre : List UInt8), m ≤ n ∧ t = .int .i64 m ∧ Own wr w.heap.size v pre ∧ Hid (pre ++ WM.varL m = WM.varL n) ∧ Below w.heap.size w wr) (fun t _ _ => (intOf t).toNat)
  case atStart =>
    exact ⟨n, [], Nat.le_refl _, rfl, Own.empty _ _ (Nat.le_refl _), rfl, (Below.refl _ _).alloc (Nat.le_refl _) _⟩
  case round =>
    obtain ⟨m, pre, hm, rfl, hown, HE, hb⟩ := hrel
    have hlen := pre_len hn HE.out
    by_cases hlt : 127 < m
    · go_wp2_with (at_builtin; refine wpApp rfl _ _ rfl w [UInt8.ofNat (m % 128 + 128)] rfl hown rfl (ofNatCell _ _ (by omega) (by omega)) (by simp; omega) hb (Nat.le_refl _) ?_)
      intro v' w1 hown1 hb1 _
      clear hown hb
      go_wp2
      go_roundw
      case rel => exact ⟨m / 128, _, by omega, by go_num, hown1, by have := HE.out; rw [WM.varL_big m hlt] at this; simpa [Hid] using this, hb1⟩
      case measure => simp [intOf]; omega
    · go_wp2_with (at_builtin; refine wpApp rfl _ _ rfl w [UInt8.ofNat m] rfl hown rfl (ofNatCell _ _ (by omega) (by omega)) (by simp; omega) hb (Nat.le_refl _) ?_)
      intro v' w1 hown1 hb1 _
      clear hown hb
      have hst := hown1.str
      go_wp2
      go_ret
      refine ⟨?_, hb1⟩
      have := HE.out
      rw [WM.varL_small m (by omega)] at this
      rw [this]
      rfl

set_option maxHeartbeats 400000 in
theorem ivar_yes (n : Nat) (hn : n ≤ 1000000000) (w : World) :
    Calls Tryz.prog 87 #[.int .i64 n] w fun e w' => e = .returned (.tuple #[.string ⟨(WM.varL n).toArray⟩, .bool true]) ∧ Below w.heap.size w w' := by
  have h0 : (0 : Int) ≤ (n : Int) := by omega
  have h1 : (n : Int) ≤ 1000000000 := by omega
  go_enter Tryz.func87, Tryz.ntmps87
  go_wp2
  go_loopw [0, 4] (fun t v wr => ∃ (m : Nat) (pre : List UInt8), m ≤ n ∧ t = .int .i64 m ∧ Own wr w.heap.size v pre ∧ Hid (pre ++ WM.varL m = WM.varL n) ∧ Below w.heap.size w wr) (fun t _ _ => (intOf t).toNat)
  case atStart =>
    exact ⟨n, [], Nat.le_refl _, rfl, Own.nil _ _, rfl, Below.refl _ _⟩
  case round =>
    obtain ⟨m, pre, hm, rfl, hown, HE, hb⟩ := hrel
    have hlen := pre_len hn HE.out
    by_cases hlt : 127 < m
    · go_wp2_with (at_builtin; refine wpApp rfl _ _ rfl w [UInt8.ofNat (m % 128 + 128)] rfl hown rfl (ofNatCell _ _ (by omega) (by omega)) (by simp; omega) hb (Nat.le_refl _) ?_)
      intro v' w1 hown1 hb1 _
      clear hown hb
      go_wp2
      go_roundw
      case rel => exact ⟨m / 128, _, by omega, by go_num, hown1, by have := HE.out; rw [WM.varL_big m hlt] at this; simpa [Hid] using this, hb1⟩
      case measure => simp [intOf]; omega
    · go_wp2_with (at_builtin; refine wpApp rfl _ _ rfl w [UInt8.ofNat m] rfl hown rfl (ofNatCell _ _ (by omega) (by omega)) (by simp; omega) hb (Nat.le_refl _) ?_)
      intro v' w1 hown1 hb1 _
      clear hown hb
      have hst := hown1.str
      go_wp2
      go_ret2
      refine ⟨?_, hb1⟩
      have := HE.out
      rw [WM.varL_small m (by omega)] at this
      rw [this]
      rfl

end Go.Proofs.YtmaipaeehalabaaGreat

namespace Go.Proofs.YtmaipaeehalabaaGreat
open Go.RowKit

theorem size_mk (l : List UInt8) : (⟨l.toArray⟩ : ByteArray).size = l.length := by simp [ByteArray.size]

set_option maxHeartbeats 400000 in
theorem ishort_yes (s : ByteArray) (h : s.size ≤ 20000) (w : World) :
    Calls Tryz.prog 89 #[.string s] w fun e w' => e = .returned (.tuple #[.string (⟨(WM.varL s.size).toArray⟩ ++ s), .bool true]) ∧ Below w.heap.size w w' := by
  have h5 := WM.varL_len5 s.size (by omega)
  have hz : (⟨(WM.varL s.size).toArray⟩ : ByteArray).size ≤ 5 := by rw [size_mk]; exact h5
  clear h5
  go_enter Tryz.func89, Tryz.ntmps89
  go_wp2_with (first | (go_at_call 87; refine (ivar_yes s.size (by omega) _).mono ?_; rintro e w' ⟨rfl, hb⟩) | go_in)
  go_ret2
  exact ⟨rfl, hb⟩

end Go.Proofs.YtmaipaeehalabaaGreat

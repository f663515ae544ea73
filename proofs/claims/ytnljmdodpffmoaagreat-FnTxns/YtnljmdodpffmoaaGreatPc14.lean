/- strings.Builder inside a textWriter: copyCheck, WriteString and String. -/
import Derived.Test.YtnljmdodpffmoaaGreatPc11
import Derived.Lib.Builder
import Derived.Lib.AppendStr
import Derived.WalkLawsBesides
import Derived.Lib.BufferWrite
import Derived.Test.YtnljmdodpffmoaaGreatPc08
namespace Go.Proofs.YtnljmdodpffmoaaGreat
open Go.RowKit
open KM
attribute [local go_sem ↓] Go.wp_at_zero Go.wp_at_succ

theorem info92 : (Tryz.prog.info? 58).map (·.size) = some 2 := by kernel_rfl
theorem lies92 : liesAt Tryz.prog Tryz.prog.depth 60 (2 / Tryz.prog.cellsOf 60) 0 58 1 = true := by kernel_rfl

theorem toU (b : Nat) (w : World) (hsh : w.shape? b = some (60, 2)) : (convert 56 153 (.pointer (some ⟨b, 0, none⟩))).run Tryz.prog w = .ok (.pointer (some ⟨b, 0, none⟩)) w := by
 obtain ⟨j, hj, hjs⟩ := Option.map_eq_some_iff.1 info92
 have hz : j.size ≠ 0 := by rw [hjs]; decide
 simp [convert, run_underlying Tryz.underlying56, run_underlying Tryz.underlying153, Conv.unsafePointer, Conv.seenAt, viewAt, cellsIn, hsh, sizeOf, typeInfo, hj, hz]
theorem fromU (b : Nat) (w : World) (hsh : w.shape? b = some (60, 2)) : (convert 153 56 (.pointer (some ⟨b, 0, none⟩))).run Tryz.prog w = .ok (.pointer (some ⟨b, 0, none⟩)) w := by
 obtain ⟨j, hj, _⟩ := Option.map_eq_some_iff.1 info92
 have hl := lies92
 simp [convert, run_underlying Tryz.underlying56, run_underlying Tryz.underlying153, Conv.unsafePointer, Conv.seenAt, viewAt, hsh, variablesAt, hl, sizeOf, typeInfo, hj]

set_option maxHeartbeats 1000000 in
set_option maxRecDepth 100000 in
theorem check85_used (b : Nat) (w : World) (h0 : w.cell? ⟨b, 0, none⟩ = some (.pointer (some ⟨b, 0, none⟩))) :
  Calls Tryz.prog 108 #[.pointer (some ⟨b, 0, none⟩)] w fun e w' => e = .returned (.tuple #[]) ∧ w' = w := by
 obtain ⟨j, hj, _⟩ := Option.map_eq_some_iff.1 info92
 go_enter Tryz.func108, Tryz.ntmps108
 go_wp2
 rw [Lib.run_neq_ptr_same w _ Tryz.underlying56 hj]
 go_wp2
 go_end0
 exact ⟨rfl, rfl⟩

set_option maxHeartbeats 1000000 in
set_option maxRecDepth 100000 in
theorem check85_fresh (b : Nat) (w : World) (h0 : w.cell? ⟨b, 0, none⟩ = some (.pointer none)) (hsh : w.shape? b = some (60, 2)) (hfz : w.frozen? ⟨b, 0, none⟩ = false) :
  Calls Tryz.prog 108 #[.pointer (some ⟨b, 0, none⟩)] w fun e w' => e = .returned (.tuple #[]) ∧ w' = w.setCell ⟨b, 0, none⟩ (.pointer (some ⟨b, 0, none⟩)) := by
 obtain ⟨j, hj, hjs⟩ := Option.map_eq_some_iff.1 info92
 go_enter Tryz.func108, Tryz.ntmps108
 go_wp2
 rw [toU b w hsh]
 simp only [Result.andThen]
 rw [Oper.upon_value]
 go_wp2
 rw [run_callFunc_extern Tryz.func110 (by kernel_rfl) (by kernel_rfl) (by kernel_rfl) (e := Extern.AbiNoEscape.same) (by kernel_rfl)]
 rw [Lib.run_noEscape]
 simp only [Result.andThen]
 rw [Oper.upon_value]
 go_wp2
 rw [fromU b w hsh]
 simp only [Result.andThen]
 rw [Oper.upon_value]
 go_wp2
 go_end0
 exact ⟨rfl, rfl⟩

def Keep5 (b : Nat) (w w' : World) : Prop := ∀ e0 cs T z, e0 ≠ b → T ≠ 5 → w.heap[e0]? = some (.cells cs T z) → w'.heap[e0]? = some (.cells cs T z)
theorem Keep5.trans {b : Nat} {w1 w2 w3 : World} (h : Keep5 b w1 w2) (k : Keep5 b w2 w3) : Keep5 b w1 w3 := fun e0 cs T z h1 h2 h3 => k e0 cs T z h1 h2 (h e0 cs T z h1 h2 h3)
theorem Keep5.below {b : Nat} {w w' : World} (h : Below w.heap.size w w') : Keep5 b w w' := fun e0 cs T z _ _ h3 => by
 rw [h.block e0 (Array.getElem?_eq_some_iff.1 h3).1]; exact h3
theorem Keep5.set (b k : Nat) (w : World) (v : Value) : Keep5 b w (w.setCell ⟨b, k, none⟩ v) := fun e0 cs T z h1 _ h3 => by
 rw [Below.heap_setCell _ _ _ _ (fun e => h1 e)]; exact h3
theorem check85 (B b : Nat) (bs : List Value) (w : World) (h : Lib.IsBuilder 60 5 B b bs w) :
  Calls Tryz.prog 108 #[.pointer (some ⟨b, 0, none⟩)] w fun e w' => e = .returned (.tuple #[]) ∧ (Lib.BuilderAt 60 5 B b (.pointer (some ⟨b, 0, none⟩)) bs w' ∧ Below B w w' ∧ Keep5 b w w') := by
 rcases h with h | h
 ·refine (check85_fresh b w h.cell0 h.shape h.frozen0).mono ?_
  rintro e w' ⟨rfl, rfl⟩
  exact ⟨rfl, h.used _, (Below.refl B w).setCell (p := ⟨b, 0, none⟩) h.1 _, Keep5.set b 0 w _⟩
 ·refine (check85_used b w h.cell0).mono ?_
  rintro e w' ⟨rfl, rfl⟩
  exact ⟨rfl, h, Below.refl B _, fun _ _ _ _ _ _ h => h⟩

set_option maxHeartbeats 2000000 in
set_option maxRecDepth 100000 in
theorem write69 (B b : Nat) (l : List UInt8) (s : ByteArray) (w : World) (h : Lib.IsBuilder 60 5 B b (bv l) w) (hlen : l.length + s.size ≤ 1000000000) (hBw : B ≤ w.heap.size) :
  Calls Tryz.prog 101 #[.pointer (some ⟨b, 0, none⟩), .string s] w fun e w' => e = .returned (.tuple #[.int .i64 s.size, .nilIface]) ∧ (Lib.BuilderAt 60 5 B b (.pointer (some ⟨b, 0, none⟩)) (bv (l ++ s.data.toList)) w' ∧ Below B w w' ∧ Keep5 b w w') := by
 obtain ⟨i0, hi, hz0, hz1, hz2⟩ := info_parts Tryz.info5
 have hl := bv_len l
 have HL : Hid ((bv l).length = l.length) := hl
 have HI : Hid (Lib.IsBuilder 60 5 B b (bv l) w) := h
 clear hl h
 go_enter Tryz.func101, Tryz.ntmps101
 go_wp2_with (go_at_call 108; refine (check85 B b (bv l) _ HI.out).mono ?_)
 rintro e w1 ⟨rfl, h1, hb1, hk1⟩
 have HK1 : Hid (Keep5 b w w1) := hk1
 clear hk1
 obtain ⟨hB, v, hbk, hown, hne⟩ := h1
 have c0 : w1.cell? ⟨b, 0, none⟩ = some (.pointer (some ⟨b, 0, none⟩)) := by rw [Lib.cell_of_heap hbk]; rfl
 have c1 : w1.cell? ⟨b, 1, none⟩ = some v := by rw [Lib.cell_of_heap hbk]; rfl
 have hBw1 : B ≤ w1.heap.size := Nat.le_trans hBw hb1.size
 go_wp2_with (at_builtin; refine Lib.wpList_append_own_string _ rfl _ _ 22 9 rfl B 5 i0 Tryz.underlying22 Tryz.underlying9 hi hz0 hz1 hz2 _ _ _ rfl hown s rfl ?c3 ?c4 ?c5 ?_)
 case c3 => rw [HL.out]; unfold maxLen; omega
 case c4 => rw [HL.out]; omega
 case c5 => exact hBw1
 intro v' w2 hown' hgrow _
 have HK2 : Hid (Keep5 b w1 w2) := fun e0 cs T z h1 h2 h3 => by
  rw [hgrow.block e0 (Array.getElem?_eq_some_iff.1 h3).1 (fun e => Lib.ownBlock_ne hown h3 h2 e.symm)]; exact h3
 have hlt : b < w1.heap.size := by
  rcases Nat.lt_or_ge b w1.heap.size with h' | h'
  ·exact h'
  ·simp [Array.getElem?_eq_none h'] at hbk
 have hb2 : w2.heap[b]? = some (.cells #[.pointer (some ⟨b, 0, none⟩), v] 60 (0, 0)) := by
  rw [hgrow.block b hlt (fun e => hne e.symm)]
  exact hbk
 have d0 : w2.cell? ⟨b, 0, none⟩ = some (.pointer (some ⟨b, 0, none⟩)) := by rw [Lib.cell_of_heap hb2]; rfl
 have d1 : w2.cell? ⟨b, 1, none⟩ = some v := by rw [Lib.cell_of_heap hb2]; rfl
 have f1 : w2.frozen? ⟨b, 1, none⟩ = false := Lib.frozen_of_heap hb2 1
 obtain ⟨ao, n', cap, rfl⟩ : ∃ ao n' cap, v' = .slice ao n' cap := by
  rcases hown'.2 with ⟨hv, _⟩ | ⟨g, cap, cur, hv, _⟩
  ·exact ⟨_, _, _, hv⟩
  ·exact ⟨_, _, _, hv⟩
 have e1 : bv (l ++ s.data.toList) = bv l ++ Lib.strCells s := by
  unfold bv Lib.strCells
  rw [List.map_append]
 have E1 : Hid (bv (l ++ s.data.toList) = bv l ++ Lib.strCells s) := e1
 clear e1
 go_wp2
 go_ret2
 refine ⟨rfl, ?_, ?_, (HK1.out.trans HK2.out).trans (Keep5.set b 1 _ _)⟩
 ·rw [E1.out]
  exact Lib.BuilderAt.put (T := 60) (e := 5) hB hb2 (bs' := bv l ++ Lib.strCells s) (by simpa [Lib.strCells_length] using hown') (by decide)
 ·exact (hb1.grown hgrow hBw1 (fun k hk => (hown.lt k hk).1)).setCell (p := ⟨b, 1, none⟩) hB _

theorem cells5 : Tryz.prog.cellsOf 5 = 1 := by kernel_rfl

set_option maxHeartbeats 2000000 in
set_option maxRecDepth 100000 in
theorem bstring (B b : Nat) (l : List UInt8) (w : World) (h : Lib.IsBuilder 60 5 B b (bv l) w) (h0 : l ≠ []) :
  Calls Tryz.prog 26 #[.pointer (some ⟨b, 0, none⟩)] w fun e w' => e = .returned (.string ⟨l.toArray⟩) ∧ Below B w w' := by
 obtain ⟨p, hB, v, hbk, hown, hne⟩ : ∃ p, Lib.BuilderAt 60 5 B b p (bv l) w := by
  rcases h with h | h
  ·exact ⟨_, h⟩
  ·exact ⟨_, h⟩
 have hl0 : l.length ≠ 0 := by simpa using h0
 rw [bv_len] at hown
 obtain ⟨g, cap, cur, rfl, hbg, hg, hnc, hcm, hcs, htake⟩ : ∃ g cap cur, v = .slice (some ⟨g, 0, none⟩) l.length cap ∧ B ≤ g ∧ w.heap[g]? = some (.cells cur 5 (0, 0)) ∧ l.length ≤ cap ∧ cap ≤ maxLen ∧ cur.size = cap * 1 ∧ cur.toList.take (l.length * 1) = bv l := by
  rcases hown.2 with ⟨_, hz⟩ | ⟨g, cap, cur, hv, r⟩
  ·exact absurd hz hl0
  ·exact ⟨g, cap, cur, hv, r⟩
 have c1 : w.drew.cell? ⟨b, 1, none⟩ = some (.slice (some ⟨g, 0, none⟩) l.length cap) := by
  have : w.drew.heap[b]? = some (.cells #[p, .slice (some ⟨g, 0, none⟩) l.length cap] 60 (0, 0)) := hbk
  rw [Lib.cell_of_heap this]; rfl
 have hSD : (Builtin.unsafeSliceData_ #[22] 107 #[.slice (some ⟨g, 0, none⟩) l.length cap]).run Tryz.prog w.drew = .ok (.pointer (some ⟨g, 0, none⟩)) w.drew :=
  Lib.run_unsafeSliceData_row _ _ _ _ _ _ (by omega)
 have hUS : (Builtin.unsafeString_ #[107, 3] 9 #[.pointer (some ⟨g, 0, none⟩), .int .i64 l.length]).run Tryz.prog w.drew = .ok (.string ⟨l.toArray⟩) (w.drew.freeze ⟨g, 0, none⟩ l.length) := by
  refine Lib.run_unsafeString_row w.drew 107 3 9 5 Tryz.underlying107 cells5 g cur.size (by have hg' : w.drew.heap[g]? = some (.cells cur 5 (0, 0)) := hg; simp [World.shape?, hg']) l h0 (by omega) (by unfold maxLen at hcm; omega) ?_
  intro j x hx
  have := hown.cells (g := g) rfl j (.int .u8 x.toNat) (by simp [bv, hx])
  exact this
 clear hown hne htake hg hbk
 have mixed : Tryz.prog.follows Departure.mixedOrders = true := by kernel_rfl
 go_enter Tryz.func26, Tryz.ntmps26
 go_wp2
 go_region_o
 all_goals (go_wp2; go_ret; exact ⟨rfl, Lib.below_freeze (Below.drew (Below.refl B w)) (p := ⟨g, 0, none⟩) hbg _⟩)
end Go.Proofs.YtnljmdodpffmoaaGreat

namespace Go.Proofs.YtnljmdodpffmoaaGreat
open Go.RowKit

theorem pre_len {n m : Nat} {pre : List UInt8} (hn : n ≤ 1000000000) (h : pre ++ WM.varL m = WM.varL n) : pre.length ≤ 10 := by
 have h1 := WM.varL_len5 n (by omega)
 have h2 := congrArg List.length h
 simp at h2
 omega

set_option maxHeartbeats 400000 in
theorem var28 (n : Nat) (hn : n ≤ 1000000000) (w : World) :
  Calls Tryz.prog 78 #[.int .i64 n] w fun e w' => e = .returned (.string ⟨(WM.varL n).toArray⟩) ∧ Below w.heap.size w w' := by
 go_enter Tryz.func78, Tryz.ntmps78
 go_wp2
 go_loopw [0, 3] (fun t v wr => ∃ (m : Nat) (pre : List UInt8), m ≤ n ∧ t = .int .i64 m ∧ Own wr w.heap.size v pre ∧ Hid (pre ++ WM.varL m = WM.varL n) ∧ Below w.heap.size w wr) (fun t _ _ => (intOf t).toNat)
 case atStart =>
  exact ⟨n, [], Nat.le_refl _, rfl, Own.empty _ _ (Nat.le_refl _), rfl, (Below.refl _ _).alloc (Nat.le_refl _) _⟩
 case round =>
  obtain ⟨m, pre, hm, rfl, hown, HE, hb⟩ := hrel
  have hlen := pre_len hn HE.out
  by_cases hlt : 127 < m
  ·go_wp2_with (at_builtin; refine wpApp rfl _ _ rfl w [UInt8.ofNat (m % 128 + 128)] rfl hown rfl (ofNatCell _ _ (by omega) (by omega)) (by simp; omega) hb (Nat.le_refl _) ?_)
   intro v' w1 hown1 hb1 _
   clear hown hb
   go_wp2
   go_roundw
   case rel => exact ⟨m / 128, _, by omega, by go_num, hown1, by have := HE.out; rw [WM.varL_big m hlt] at this; simpa [Hid] using this, hb1⟩
   case measure => simp [intOf]; omega
  ·go_wp2_with (at_builtin; refine wpApp rfl _ _ rfl w [UInt8.ofNat m] rfl hown rfl (ofNatCell _ _ (by omega) (by omega)) (by simp; omega) hb (Nat.le_refl _) ?_)
   intro v' w1 hown1 hb1 _
   clear hown hb
   have hst := hown1.str
   go_wp2
   go_ret
   refine ⟨?_, hb1⟩
   have := HE.out
   rw [WM.varL_small m (by omega)] at this
   rw [this]
   rfl

set_option maxHeartbeats 400000 in
theorem ivar_yes (n : Nat) (hn : n ≤ 1000000000) (w : World) :
  Calls Tryz.prog 100 #[.int .i64 n] w fun e w' => e = .returned (.tuple #[.string ⟨(WM.varL n).toArray⟩, .bool true]) ∧ Below w.heap.size w w' := by
 have h0 : (0 : Int) ≤ (n : Int) := by omega
 have h1 : (n : Int) ≤ 1000000000 := by omega
 go_enter Tryz.func100, Tryz.ntmps100
 go_wp2
 go_loopw [0, 4] (fun t v wr => ∃ (m : Nat) (pre : List UInt8), m ≤ n ∧ t = .int .i64 m ∧ Own wr w.heap.size v pre ∧ Hid (pre ++ WM.varL m = WM.varL n) ∧ Below w.heap.size w wr) (fun t _ _ => (intOf t).toNat)
 case atStart =>
  exact ⟨n, [], Nat.le_refl _, rfl, Own.nil _ _, rfl, Below.refl _ _⟩
 case round =>
  obtain ⟨m, pre, hm, rfl, hown, HE, hb⟩ := hrel
  have hlen := pre_len hn HE.out
  by_cases hlt : 127 < m
  ·go_wp2_with (at_builtin; refine wpApp rfl _ _ rfl w [UInt8.ofNat (m % 128 + 128)] rfl hown rfl (ofNatCell _ _ (by omega) (by omega)) (by simp; omega) hb (Nat.le_refl _) ?_)
   intro v' w1 hown1 hb1 _
   clear hown hb
   go_wp2
   go_roundw
   case rel => exact ⟨m / 128, _, by omega, by go_num, hown1, by have := HE.out; rw [WM.varL_big m hlt] at this; simpa [Hid] using this, hb1⟩
   case measure => simp [intOf]; omega
  ·go_wp2_with (at_builtin; refine wpApp rfl _ _ rfl w [UInt8.ofNat m] rfl hown rfl (ofNatCell _ _ (by omega) (by omega)) (by simp; omega) hb (Nat.le_refl _) ?_)
   intro v' w1 hown1 hb1 _
   clear hown hb
   have hst := hown1.str
   go_wp2
   go_ret2
   refine ⟨?_, hb1⟩
   have := HE.out
   rw [WM.varL_small m (by omega)] at this
   rw [this]
   rfl

end Go.Proofs.YtnljmdodpffmoaaGreat

namespace Go.Proofs.YtnljmdodpffmoaaGreat
open Go.RowKit

theorem size_mk (l : List UInt8) : (⟨l.toArray⟩ : ByteArray).size = l.length := by simp [ByteArray.size]

set_option maxHeartbeats 400000 in
theorem ishort_yes (s : ByteArray) (h : s.size ≤ 20000) (w : World) :
  Calls Tryz.prog 102 #[.string s] w fun e w' => e = .returned (.tuple #[.string (⟨(WM.varL s.size).toArray⟩ ++ s), .bool true]) ∧ Below w.heap.size w w' := by
 have h5 := WM.varL_len5 s.size (by omega)
 have hz : (⟨(WM.varL s.size).toArray⟩ : ByteArray).size ≤ 5 := by rw [size_mk]; exact h5
 clear h5
 go_enter Tryz.func102, Tryz.ntmps102
 go_wp2_with (first | (go_at_call 100; refine (ivar_yes s.size (by omega) _).mono ?_; rintro e w' ⟨rfl, hb⟩) | go_in)
 go_ret2
 exact ⟨rfl, hb⟩

end Go.Proofs.YtnljmdodpffmoaaGreat

namespace Go.Proofs.YtnljmdodpffmoaaGreat
open Go.RowKit
open KM
open VM
attribute [local go_sem ↓] Go.wp_at_zero Go.wp_at_succ

def shL (s : ByteArray) : List UInt8 := WM.varL s.size ++ s.data.toList
def bitL (b : Bool) : List UInt8 := if b then [1] else [0]
def rgL (rs : List Rg) : List UInt8 := rs.flatMap fun r => shL r.1 ++ shL r.2
def wtL (ws : List Wt) : List UInt8 := ws.flatMap fun x => shL x.1 ++ (shL x.2.1 ++ bitL x.2.2)
def txL (t : Tx) : List UInt8 := WM.varL t.id.toNat ++ (WM.varL t.st.toNat ++ (WM.varL t.snap.toNat ++ (WM.varL t.cs.toNat ++ (WM.varL t.rs.length ++ (rgL t.rs ++ (WM.varL t.ws.length ++ (wtL t.ws ++ (bitL t.out ++ shL t.nm))))))))
theorem var_len (n : Nat) (h : n ≤ 1000000000) : (WM.varL n).length ≤ 5 := WM.varL_len5 n (by omega)
theorem sh_len {s : ByteArray} (h : s.size ≤ 20000) : (shL s).length ≤ 20005 := by
 unfold shL
 rw [List.length_append]
 have := var_len s.size (by omega)
 have e : s.data.toList.length = s.size := Array.length_toList
 omega
theorem bit_len (b : Bool) : (bitL b).length = 1 := by cases b <;> rfl
def RSm (rs : List Rg) : Prop := rs.length ≤ 1000 ∧ ∀ r ∈ rs, r.1.size ≤ 20000 ∧ r.2.size ≤ 20000
def WSm (ws : List Wt) : Prop := ws.length ≤ 1000 ∧ ∀ x ∈ ws, x.1.size ≤ 20000 ∧ x.2.1.size ≤ 20000
theorem rg_len : ∀ rs : List Rg, (∀ r ∈ rs, r.1.size ≤ 20000 ∧ r.2.size ≤ 20000) → (rgL rs).length ≤ 40010 * rs.length
 | [], _ => by simp [rgL]
 | r :: rs, h => by
  have ih := rg_len rs (fun x hx => h x (List.mem_cons_of_mem _ hx))
  have h1 := sh_len (h r List.mem_cons_self).1
  have h2 := sh_len (h r List.mem_cons_self).2
  unfold rgL at ih ⊢
  rw [List.flatMap_cons, List.length_append, List.length_append, List.length_cons]; omega
theorem wt_len : ∀ ws : List Wt, (∀ x ∈ ws, x.1.size ≤ 20000 ∧ x.2.1.size ≤ 20000) → (wtL ws).length ≤ 40011 * ws.length
 | [], _ => by simp [wtL]
 | x :: ws, h => by
  have ih := wt_len ws (fun y hy => h y (List.mem_cons_of_mem _ hy))
  have h1 := sh_len (h x List.mem_cons_self).1
  have h2 := sh_len (h x List.mem_cons_self).2
  have h3 := bit_len x.2.2
  unfold wtL at ih ⊢
  rw [List.flatMap_cons, List.length_append, List.length_append, List.length_append, List.length_cons]; omega
theorem rg_take {rs : List Rg} {k : Nat} (h : k < rs.length) : rgL (rs.take (k + 1)) = rgL (rs.take k) ++ (shL rs[k].1 ++ shL rs[k].2) := by
 unfold rgL
 rw [List.take_succ_eq_append_getElem h, List.flatMap_append]; simp
theorem wt_take {ws : List Wt} {k : Nat} (h : k < ws.length) : wtL (ws.take (k + 1)) = wtL (ws.take k) ++ (shL ws[k].1 ++ (shL ws[k].2.1 ++ bitL ws[k].2.2)) := by
 unfold wtL
 rw [List.take_succ_eq_append_getElem h, List.flatMap_append]; simp

structure Wtr (w : World) (B b : Nat) (l : List UInt8) : Prop where
 is : Lib.IsBuilder 60 5 B b (bv l) w
 le : B ≤ w.heap.size
theorem bat_below {B b : Nat} {p : Value} {bs : List Value} {w w' : World} (h : Lib.BuilderAt 60 5 B b p bs w) (hb : Below w.heap.size w w') : Lib.BuilderAt 60 5 B b p bs w' := by
 have hlt := h.lt
 obtain ⟨h1, v, h2, h3, h4⟩ := h
 exact ⟨h1, v, by rw [hb.block b hlt]; exact h2, ownsBelow h3 hb, h4⟩
theorem Wtr.below {w w' : World} {B b : Nat} {l : List UInt8} (h : Wtr w B b l) (hb : Below w.heap.size w w') : Wtr w' B b l :=
 ⟨h.is.elim (fun x => Or.inl (bat_below x hb)) (fun x => Or.inr (bat_below x hb)), Nat.le_trans h.le hb.size⟩
theorem Wtr.new (w : World) : Wtr (w.alloc (.cells #[.pointer none, .slice none 0 0] 60)) w.heap.size w.heap.size [] := by
 refine ⟨Or.inl ⟨Nat.le_refl _, .slice none 0 0, ?_, World.ownsRow_nil _ _ _ _, by simp [Value.ownBlock]⟩, by simp⟩
 unfold World.alloc; simp
set_option maxRecDepth 100000 in
set_option maxHeartbeats 2000000 in
theorem wnum (B b n : Nat) (l : List UInt8) (hn : n ≤ 1000000000) (hl : l.length ≤ 900000000) (w : World) (h : Wtr w B b l) :
  Calls Tryz.prog 66 #[.pointer (some ⟨b, 0, none⟩), .int .i64 n] w fun e w' => e = .returned (.tuple #[]) ∧ Wtr w' B b (l ++ WM.varL n) ∧ Below B w w' ∧ Keep5 b w w' := by
 have HW : Hid (Wtr w B b l) := h
 clear h
 have hv := var_len n hn
 obtain ⟨vs, hvs⟩ : ∃ vs, vs = WM.varL n := ⟨_, rfl⟩
 have C1 : Hid (∀ w, Calls Tryz.prog 100 #[.int .i64 n] w fun e w' => e = .returned (.tuple #[.string ⟨vs.toArray⟩, .bool true]) ∧ Below w.heap.size w w') := fun w => by rw [hvs]; exact ivar_yes n hn w
 rw [← hvs] at hv ⊢
 clear hvs
 go_enter Tryz.func66, Tryz.ntmps66
 go_wp2_with fail
 refine (C1.out _).mono ?_
 rintro e w1 ⟨rfl, hb1⟩
 have HW1 : Hid (Wtr w1 B b l) := HW.out.below hb1
 have HB1 : Hid (Below B w w1) := hb1.mono HW.out.le
 have HK1 : Hid (Keep5 b w w1) := Keep5.below hb1
 clear hb1
 have hsz : l.length + (⟨vs.toArray⟩ : ByteArray).size ≤ 1000000000 := by rw [show (⟨vs.toArray⟩ : ByteArray).size = vs.length from List.size_toArray]; omega
 have C2 : Hid (∀ w, Wtr w B b l → Calls Tryz.prog 101 #[.pointer (some ⟨b, 0, none⟩), .string ⟨vs.toArray⟩] w fun e w' => e = .returned (.tuple #[.int .i64 (⟨vs.toArray⟩ : ByteArray).size, .nilIface]) ∧ Wtr w' B b (l ++ vs) ∧ Below B w w' ∧ Keep5 b w w') := fun w h => by
  refine (write69 B b l ⟨vs.toArray⟩ w h.is hsz h.le).mono ?_
  rintro e w' ⟨rfl, h1, h2, h3⟩
  refine ⟨rfl, ⟨Or.inr ?_, Nat.le_trans h.le h2.size⟩, h2, h3⟩
  simpa using h1
 generalize ((⟨vs.toArray⟩ : ByteArray).size : Int) = sz at C2
 clear hsz
 go_wp2_with fail
 refine (C2.out _ HW1.out).mono ?_
 rintro e w2 ⟨rfl, hw2, hb2, hk2⟩
 have HW2 := hide hw2
 have HB2 : Hid (Below B w w2) := HB1.out.trans hb2
 have HK2 : Hid (Keep5 b w w2) := HK1.out.trans hk2
 clear hw2 hb2 hk2
 go_wp2
 go_end0
 exact ⟨rfl, HW2.out, HB2.out, HK2.out⟩

set_option maxRecDepth 100000 in
set_option maxHeartbeats 2000000 in
theorem wsh (B b : Nat) (s : ByteArray) (l : List UInt8) (hs : s.size ≤ 20000) (hl : l.length ≤ 900000000) (w : World) (h : Wtr w B b l) :
  Calls Tryz.prog 70 #[.pointer (some ⟨b, 0, none⟩), .string s] w fun e w' => e = .returned (.tuple #[]) ∧ Wtr w' B b (l ++ shL s) ∧ Below B w w' ∧ Keep5 b w w' := by
 have HW : Hid (Wtr w B b l) := h
 clear h
 obtain ⟨u, hu⟩ : ∃ u : ByteArray, u = ⟨(WM.varL s.size).toArray⟩ ++ s := ⟨_, rfl⟩
 have HU : Hid (u.data.toList = shL s) := by
  show _ = _
  rw [hu]; unfold shL; simp
 have hul : u.size ≤ 20005 := by
  have := sh_len hs
  rw [← HU.out, Array.length_toList] at this
  exact this
 have C1 : Hid (∀ w, Calls Tryz.prog 102 #[.string s] w fun e w' => e = .returned (.tuple #[.string u, .bool true]) ∧ Below w.heap.size w w') := fun w => by rw [hu]; exact ishort_yes s hs w
 clear hu
 go_enter Tryz.func70, Tryz.ntmps70
 go_wp2_with fail
 refine (C1.out _).mono ?_
 rintro e w1 ⟨rfl, hb1⟩
 have HW1 : Hid (Wtr w1 B b l) := HW.out.below hb1
 have HB1 : Hid (Below B w w1) := hb1.mono HW.out.le
 have HK1 : Hid (Keep5 b w w1) := Keep5.below hb1
 clear hb1
 have C2 : Hid (∀ w, Wtr w B b l → Calls Tryz.prog 101 #[.pointer (some ⟨b, 0, none⟩), .string u] w fun e w' => e = .returned (.tuple #[.int .i64 u.size, .nilIface]) ∧ Wtr w' B b (l ++ shL s) ∧ Below B w w' ∧ Keep5 b w w') := fun w h => by
  refine (write69 B b l u w h.is (by omega) h.le).mono ?_
  rintro e w' ⟨rfl, h1, h2, h3⟩
  rw [HU.out] at h1
  exact ⟨rfl, ⟨Or.inr h1, Nat.le_trans h.le h2.size⟩, h2, h3⟩
 go_wp2_with fail
 refine (C2.out _ HW1.out).mono ?_
 rintro e w2 ⟨rfl, hw2, hb2, hk2⟩
 have HW2 := hide hw2
 have HB2 : Hid (Below B w w2) := HB1.out.trans hb2
 have HK2 : Hid (Keep5 b w w2) := HK1.out.trans hk2
 clear hw2 hb2 hk2
 go_wp2
 go_end0
 exact ⟨rfl, HW2.out, HB2.out, HK2.out⟩

set_option maxRecDepth 100000 in
set_option maxHeartbeats 2000000 in
theorem wflag (B b : Nat) (f : Bool) (l : List UInt8) (hl : l.length ≤ 900000000) (w : World) (h : Wtr w B b l) :
  Calls Tryz.prog 69 #[.pointer (some ⟨b, 0, none⟩), .bool f] w fun e w' => e = .returned (.tuple #[]) ∧ Wtr w' B b (l ++ bitL f) ∧ Below B w w' ∧ Keep5 b w w' := by
 have HW : Hid (Wtr w B b l) := h
 clear h
 cases f
 ·have C1 : Hid (∀ w, Wtr w B b l → Calls Tryz.prog 66 #[.pointer (some ⟨b, 0, none⟩), .int .i64 0] w fun e w' => e = .returned (.tuple #[]) ∧ Wtr w' B b (l ++ bitL false) ∧ Below B w w' ∧ Keep5 b w w') := fun w h => by
   have k := wnum B b 0 l (by omega) hl w h
   rw [WM.varL_small 0 (by omega)] at k
   exact k
  go_enter Tryz.func69, Tryz.ntmps69
  go_wp2_with fail
  refine (C1.out _ HW.out).mono ?_
  rintro e w2 ⟨rfl, hw2, hb2, hk2⟩
  have HW2 := hide hw2
  have HB2 := hide hb2
  have HK2 := hide hk2
  clear hw2 hb2 hk2
  go_wp2
  go_end0
  exact ⟨rfl, HW2.out, HB2.out, HK2.out⟩
 ·have C1 : Hid (∀ w, Wtr w B b l → Calls Tryz.prog 66 #[.pointer (some ⟨b, 0, none⟩), .int .i64 1] w fun e w' => e = .returned (.tuple #[]) ∧ Wtr w' B b (l ++ bitL true) ∧ Below B w w' ∧ Keep5 b w w') := fun w h => by
   have k := wnum B b 1 l (by omega) hl w h
   rw [WM.varL_small 1 (by omega)] at k
   exact k
  go_enter Tryz.func69, Tryz.ntmps69
  go_wp2_with fail
  refine (C1.out _ HW.out).mono ?_
  rintro e w2 ⟨rfl, hw2, hb2, hk2⟩
  have HW2 := hide hw2
  have HB2 := hide hb2
  have HK2 := hide hk2
  clear hw2 hb2 hk2
  go_wp2
  go_end0
  exact ⟨rfl, HW2.out, HB2.out, HK2.out⟩

theorem bx_heap {w : World} {b : Nat} {cs : List Value} {T : Nat} (h : w.heap[b]? = some (.cells cs.toArray T (0, 0))) : Bx w b cs :=
 ⟨(Array.getElem?_eq_some_iff.1 h).1, fun j hj => by rw [Lib.cell_of_heap h]; simp, fun j => Lib.frozen_of_heap h j⟩

set_option maxRecDepth 100000 in
set_option maxHeartbeats 2000000 in
theorem wrng (B b : Nat) (xs : List Rg) (a : Option Addr) (c : Nat) (l : List UInt8) (hx : RSm xs) (hl : l.length ≤ 800000000) (w : World) (hlo : ∀ b' off, a = some ⟨b', off, none⟩ → 0 < xs.length → b' < B) (h : Wtr w B b l) (hp : GRow encR w a xs) :
  Calls Tryz.prog 67 #[.pointer (some ⟨b, 0, none⟩), .slice a xs.length c] w fun e w' => e = .returned (.tuple #[]) ∧ Wtr w' B b (l ++ (WM.varL xs.length ++ rgL xs)) ∧ Below B w w' ∧ Keep5 b w w' := by
 have HW : Hid (Wtr w B b l) := h
 have HP : Hid (GRow encR w a xs) := hp
 have HX : Hid (RSm xs) := hx
 have HLO : Hid (∀ b' off, a = some ⟨b', off, none⟩ → 0 < xs.length → b' < B) := hlo
 have hn : xs.length ≤ 1000 := hx.1
 have hv := var_len xs.length (by omega)
 have hbb : B ≤ b := by rcases h.is with h | h <;> exact h.1
 clear h hp hx hlo
 go_enter Tryz.func67, Tryz.ntmps67
 go_wp2_with fail
 refine (wnum B b xs.length l (by omega) (by omega) _ HW.out).mono ?_
 rintro e w1 ⟨rfl, hw1, hb1, hk1⟩
 have HW1 := hide hw1
 have HB1 := hide hb1
 have HK1 := hide hk1
 have hl1 : (l ++ WM.varL xs.length).length ≤ 800000005 := by rw [List.length_append]; omega
 have HE1 : Hid (l ++ (WM.varL xs.length ++ rgL xs) = (l ++ WM.varL xs.length) ++ rgL xs) := by show _ = _; rw [List.append_assoc]
 clear hw1 hb1 hk1
 generalize l ++ WM.varL xs.length = l1 at HW1 hl1 HE1
 go_wp2
 go_loopw [12] (fun v wr => ∃ k : Nat, k ≤ xs.length ∧ v = .int .i64 k ∧ Hid (Wtr wr B b (l1 ++ rgL (xs.take k))) ∧ Hid (Below B w wr) ∧ Hid (Keep5 b w wr)) (fun v _ => xs.length - (intOf v).toNat)
 case atStart => exact ⟨0, Nat.zero_le _, rfl, (by show Wtr _ _ _ _; rw [show l1 ++ rgL (xs.take 0) = l1 by simp [rgL]]; exact HW1.out), HB1, HK1⟩
 case round =>
  clear HW1 HB1 HK1
  obtain ⟨k, hk, rfl, HWr, HB, HK⟩ := hrel
  by_cases hlt : k < xs.length
  ·have hlt' : (k : Int) < (xs.length : Int) := by omega
   have h0 : (0 : Int) ≤ (k : Int) := by omega
   obtain ⟨b1, off1, hab, hbl, q⟩ := HP.out (by omega)
   subst hab
   have hb1B : b1 < B := HLO.out b1 off1 rfl (by omega)
   have r0 := (HB.out.cell (p := ⟨b1, off1 + k * 2, none⟩) hb1B).trans ((rat q) k hlt).1
   have r1 := (HB.out.cell (p := ⟨b1, off1 + k * 2 + 1, none⟩) hb1B).trans ((rat q) k hlt).2
   clear q
   have HZ := hide (HX.out.2 _ (List.getElem_mem hlt))
   have hlk : (rgL (xs.take k)).length ≤ 80000000 := by
    have h1 := rg_len (xs.take k) (fun x hx => HX.out.2 x (List.mem_of_mem_take hx))
    rw [List.length_take] at h1
    have h2 : min k xs.length ≤ 1000 := by omega
    omega
   have HE : Hid (l1 ++ rgL (xs.take (k + 1)) = ((l1 ++ rgL (xs.take k)) ++ shL xs[k].1) ++ shL xs[k].2) := by show _ = _; rw [rg_take hlt]; simp only [List.append_assoc]
   have hla : (l1 ++ rgL (xs.take k)).length ≤ 880000005 := by rw [List.length_append]; omega
   have HE0 : Hid ((wr.alloc (.cells #[.string xs[k].1, .string xs[k].2] 36)).heap[wr.heap.size]? = some (.cells [.string xs[k].1, .string xs[k].2].toArray 36 (0, 0))) := heapAllocNew wr [.string xs[k].1, .string xs[k].2] 36
   have HWa : Hid (Wtr (wr.alloc (.cells #[.string xs[k].1, .string xs[k].2] 36)) B b (l1 ++ rgL (xs.take k))) := HWr.out.below ((belowRefl wr).alloc (Nat.le_refl _) _)
   have HBa : Hid (Below B w (wr.alloc (.cells #[.string xs[k].1, .string xs[k].2] 36))) := HB.out.alloc HWr.out.le _
   have HKa : Hid (Keep5 b w (wr.alloc (.cells #[.string xs[k].1, .string xs[k].2] 36))) := HK.out.trans (Keep5.below ((belowRefl wr).alloc (Nat.le_refl _) _))
   have hne : wr.heap.size ≠ b := by
    rcases HWr.out.is with h | h <;> (have := h.lt; omega)
   generalize l1 ++ rgL (xs.take k) = la at HWa hla HE
   clear HWr
   go_wp2_with fail
   refine (wsh B b xs[k].1 _ HZ.out.1 (by omega) _ HWa.out).mono ?_
   rintro e v0 ⟨rfl, hw, hb, hk⟩
   have HW0 := hide hw
   have HB0 : Hid (Below B w v0) := HBa.out.trans hb
   have HK0 : Hid (Keep5 b w v0) := HKa.out.trans hk
   have HE1 : Hid (v0.heap[wr.heap.size]? = some (.cells [.string xs[k].1, .string xs[k].2].toArray 36 (0, 0))) := hk _ _ 36 (0, 0) hne (by decide) HE0.out
   clear hw hb hk
   have e1 := (bx_heap HE1.out).c1
   go_wp2_with fail
   refine (wsh B b xs[k].2 _ HZ.out.2 (by rw [List.length_append]; have := sh_len HZ.out.1; omega) _ HW0.out).mono ?_
   rintro e v1 ⟨rfl, hw, hb, hk⟩
   have HW1 := hide hw
   have HB1 : Hid (Below B w v1) := HB0.out.trans hb
   have HK1 : Hid (Keep5 b w v1) := HK0.out.trans hk
   have HE2 : Hid (v1.heap[wr.heap.size]? = some (.cells [.string xs[k].1, .string xs[k].2].toArray 36 (0, 0))) := hk _ _ 36 (0, 0) hne (by decide) HE1.out
   clear hw hb hk
   have HWn : Hid (Wtr v1 B b (l1 ++ rgL (xs.take (k + 1)))) := by show Wtr _ _ _ _; rw [HE.out]; exact HW1.out
   clear HE
   go_wp2
   go_roundw
   case rel => exact ⟨k + 1, by omega, by go_num, HWn, HB1, HK1⟩
   case measure => simp [intOf]; omega
  ·have hlt' : ¬ (k : Int) < (xs.length : Int) := by omega
   have hw := HWr.out
   rw [List.take_of_length_le (by omega)] at hw
   have HW2 := hide hw
   clear hw HWr
   go_wp2
   go_end0
   exact ⟨rfl, (by rw [HE1.out]; exact HW2.out), HB.out, HK.out⟩

set_option maxRecDepth 100000 in
set_option maxHeartbeats 2000000 in
theorem wwts (B b : Nat) (xs : List Wt) (a : Option Addr) (c : Nat) (l : List UInt8) (hx : WSm xs) (hl : l.length ≤ 800000000) (w : World) (hlo : ∀ b' off, a = some ⟨b', off, none⟩ → 0 < xs.length → b' < B) (h : Wtr w B b l) (hp : GRow encW w a xs) :
  Calls Tryz.prog 68 #[.pointer (some ⟨b, 0, none⟩), .slice a xs.length c] w fun e w' => e = .returned (.tuple #[]) ∧ Wtr w' B b (l ++ (WM.varL xs.length ++ wtL xs)) ∧ Below B w w' ∧ Keep5 b w w' := by
 have HW : Hid (Wtr w B b l) := h
 have HP : Hid (GRow encW w a xs) := hp
 have HX : Hid (WSm xs) := hx
 have HLO : Hid (∀ b' off, a = some ⟨b', off, none⟩ → 0 < xs.length → b' < B) := hlo
 have hn : xs.length ≤ 1000 := hx.1
 have hv := var_len xs.length (by omega)
 have hbb : B ≤ b := by rcases h.is with h | h <;> exact h.1
 clear h hp hx hlo
 go_enter Tryz.func68, Tryz.ntmps68
 go_wp2_with fail
 refine (wnum B b xs.length l (by omega) (by omega) _ HW.out).mono ?_
 rintro e w1 ⟨rfl, hw1, hb1, hk1⟩
 have HW1 := hide hw1
 have HB1 := hide hb1
 have HK1 := hide hk1
 have hl1 : (l ++ WM.varL xs.length).length ≤ 800000005 := by rw [List.length_append]; omega
 have HE1 : Hid (l ++ (WM.varL xs.length ++ wtL xs) = (l ++ WM.varL xs.length) ++ wtL xs) := by show _ = _; rw [List.append_assoc]
 clear hw1 hb1 hk1
 generalize l ++ WM.varL xs.length = l1 at HW1 hl1 HE1
 go_wp2
 go_loopw [12] (fun v wr => ∃ k : Nat, k ≤ xs.length ∧ v = .int .i64 k ∧ Hid (Wtr wr B b (l1 ++ wtL (xs.take k))) ∧ Hid (Below B w wr) ∧ Hid (Keep5 b w wr)) (fun v _ => xs.length - (intOf v).toNat)
 case atStart => exact ⟨0, Nat.zero_le _, rfl, (by show Wtr _ _ _ _; rw [show l1 ++ wtL (xs.take 0) = l1 by simp [wtL]]; exact HW1.out), HB1, HK1⟩
 case round =>
  clear HW1 HB1 HK1
  obtain ⟨k, hk, rfl, HWr, HB, HK⟩ := hrel
  by_cases hlt : k < xs.length
  ·have hlt' : (k : Int) < (xs.length : Int) := by omega
   have h0 : (0 : Int) ≤ (k : Int) := by omega
   obtain ⟨b1, off1, hab, hbl, q⟩ := HP.out (by omega)
   subst hab
   have hb1B : b1 < B := HLO.out b1 off1 rfl (by omega)
   have r0 := (HB.out.cell (p := ⟨b1, off1 + k * 3, none⟩) hb1B).trans ((wat q) k hlt).1
   have r1 := (HB.out.cell (p := ⟨b1, off1 + k * 3 + 1, none⟩) hb1B).trans ((wat q) k hlt).2.1
   have r2 := (HB.out.cell (p := ⟨b1, off1 + k * 3 + 2, none⟩) hb1B).trans ((wat q) k hlt).2.2
   clear q
   have HZ := hide (HX.out.2 _ (List.getElem_mem hlt))
   have hlk : (wtL (xs.take k)).length ≤ 80000000 := by
    have h1 := wt_len (xs.take k) (fun x hx => HX.out.2 x (List.mem_of_mem_take hx))
    rw [List.length_take] at h1
    have h2 : min k xs.length ≤ 1000 := by omega
    omega
   have HE : Hid (l1 ++ wtL (xs.take (k + 1)) = (((l1 ++ wtL (xs.take k)) ++ shL xs[k].1) ++ shL xs[k].2.1) ++ bitL xs[k].2.2) := by show _ = _; rw [wt_take hlt]; simp only [List.append_assoc]
   have hla : (l1 ++ wtL (xs.take k)).length ≤ 880000005 := by rw [List.length_append]; omega
   have HE0 : Hid ((wr.alloc (.cells #[.string xs[k].1, .string xs[k].2.1, .bool xs[k].2.2] 42)).heap[wr.heap.size]? = some (.cells [.string xs[k].1, .string xs[k].2.1, .bool xs[k].2.2].toArray 42 (0, 0))) := heapAllocNew wr [.string xs[k].1, .string xs[k].2.1, .bool xs[k].2.2] 42
   have HWa : Hid (Wtr (wr.alloc (.cells #[.string xs[k].1, .string xs[k].2.1, .bool xs[k].2.2] 42)) B b (l1 ++ wtL (xs.take k))) := HWr.out.below ((belowRefl wr).alloc (Nat.le_refl _) _)
   have HBa : Hid (Below B w (wr.alloc (.cells #[.string xs[k].1, .string xs[k].2.1, .bool xs[k].2.2] 42))) := HB.out.alloc HWr.out.le _
   have HKa : Hid (Keep5 b w (wr.alloc (.cells #[.string xs[k].1, .string xs[k].2.1, .bool xs[k].2.2] 42))) := HK.out.trans (Keep5.below ((belowRefl wr).alloc (Nat.le_refl _) _))
   have hne : wr.heap.size ≠ b := by
    rcases HWr.out.is with h | h <;> (have := h.lt; omega)
   generalize l1 ++ wtL (xs.take k) = la at HWa hla HE
   clear HWr
   go_wp2_with fail
   refine (wsh B b xs[k].1 _ HZ.out.1 (by omega) _ HWa.out).mono ?_
   rintro e v0 ⟨rfl, hw, hb, hk⟩
   have HW0 := hide hw
   have HB0 : Hid (Below B w v0) := HBa.out.trans hb
   have HK0 : Hid (Keep5 b w v0) := HKa.out.trans hk
   have HE1 : Hid (v0.heap[wr.heap.size]? = some (.cells [.string xs[k].1, .string xs[k].2.1, .bool xs[k].2.2].toArray 42 (0, 0))) := hk _ _ 42 (0, 0) hne (by decide) HE0.out
   clear hw hb hk
   have e1 := (bx_heap HE1.out).c1
   go_wp2_with fail
   refine (wsh B b xs[k].2.1 _ HZ.out.2 (by rw [List.length_append]; have := sh_len HZ.out.1; omega) _ HW0.out).mono ?_
   rintro e v1 ⟨rfl, hw, hb, hk⟩
   have HW1 := hide hw
   have HB1 : Hid (Below B w v1) := HB0.out.trans hb
   have HK1 : Hid (Keep5 b w v1) := HK0.out.trans hk
   have HE2 : Hid (v1.heap[wr.heap.size]? = some (.cells [.string xs[k].1, .string xs[k].2.1, .bool xs[k].2.2].toArray 42 (0, 0))) := hk _ _ 42 (0, 0) hne (by decide) HE1.out
   clear hw hb hk
   have e2 := (bx_heap HE2.out).c2
   go_wp2_with fail
   refine (wflag B b xs[k].2.2 _ (by rw [List.length_append, List.length_append]; have := sh_len HZ.out.1; have := sh_len HZ.out.2; omega) _ HW1.out).mono ?_
   rintro e v2 ⟨rfl, hw, hb, hk⟩
   have HW2 := hide hw
   have HB2 : Hid (Below B w v2) := HB1.out.trans hb
   have HK2 : Hid (Keep5 b w v2) := HK1.out.trans hk
   have HE3 : Hid (v2.heap[wr.heap.size]? = some (.cells [.string xs[k].1, .string xs[k].2.1, .bool xs[k].2.2].toArray 42 (0, 0))) := hk _ _ 42 (0, 0) hne (by decide) HE2.out
   clear hw hb hk
   have HWn : Hid (Wtr v2 B b (l1 ++ wtL (xs.take (k + 1)))) := by show Wtr _ _ _ _; rw [HE.out]; exact HW2.out
   clear HE
   go_wp2
   go_roundw
   case rel => exact ⟨k + 1, by omega, by go_num, HWn, HB2, HK2⟩
   case measure => simp [intOf]; omega
  ·have hlt' : ¬ (k : Int) < (xs.length : Int) := by omega
   have hw := HWr.out
   rw [List.take_of_length_le (by omega)] at hw
   have HW2 := hide hw
   clear hw HWr
   go_wp2
   go_end0
   exact ⟨rfl, (by rw [HE1.out]; exact HW2.out), HB.out, HK.out⟩

end Go.Proofs.YtnljmdodpffmoaaGreat

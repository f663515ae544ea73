/- What numbersFrom does. -/
import Derived.Test.YtmaipaeehalabaaGreatPl27
import Derived.Sort.OwnSortedInts
namespace Go.Proofs.YtmaipaeehalabaaGreat
open Go.RowKit
open KM
open VM Go.Sort
attribute [local go_sem ↓] Go.wp_at_zero Go.wp_at_succ

theorem cellsI (zs : List Int) : encI.cells zs = zs.map (Value.int .i64) := by
  induction zs with
  | nil => rfl
  | cons k ks ih =>
    have e : encI.cells (k :: ks) = .int .i64 k :: encI.cells ks := rfl
    rw [e, ih, List.map_cons]
def sortI (zs : List Int) : List Int := zs.mergeSort fun x y => decide (x ≤ y)
theorem sortI_len (zs : List Int) : (sortI zs).length = zs.length := by simp [sortI]
theorem nums_mem (zs : List Int) (x : Int) : x ∈ Lib.compact (sortI zs) ↔ x ∈ zs := by
  have hs : (sortI zs).Pairwise (fun a b => decide (a ≤ b) = true) := List.pairwise_mergeSort (fun a b c h1 h2 => by simp at *; omega) (fun a b => by simp; omega) _
  rw [(comp_all (fun a b : Int => decide (a ≤ b)) (fun a => by simp) (fun a b h1 h2 => by simp at *; omega) _ hs).1 x]
  unfold sortI
  rw [List.mem_mergeSort]

theorem sort89 (zs : List Int) (base : Nat) (v : Value) (w : World) (hn : zs.length ≤ 100000000) (hown : GOwn encI 3 w base v zs) :
    Calls Tryz.prog 50 #[v] w fun e w' => e = .returned (.tuple #[]) ∧ GOwn encI 3 w' base v (sortI zs) ∧ Below base w w' := by
  have h0 := hown
  rcases hown.2 with ⟨rfl, hz⟩ | ⟨g, cap, cur, rfl, hbase, hb, h1, h2, h3, h4⟩
  · refine (Tryz.slices_Sort_int_none none 0 w).mono ?_
    rintro e w' ⟨rfl, rfl⟩
    have e : zs = [] := List.length_eq_zero_iff.1 hz
    subst e
    exact ⟨rfl, by simpa [sortI] using h0, Below.refl _ _⟩
  · have h4' : cur.toList.take zs.length = zs.map (Value.int .i64) := by
      have e : encI.size = 1 := rfl
      rw [e, Nat.mul_one] at h4
      rw [h4, cellsI]
    have hg : g < w.heap.size := (Array.getElem?_eq_some_iff.1 hb).1
    refine (Tryz.slices_Sort_int g 0 cap zs w (holds_of_blockI hb h4') hg (by omega)).mono ?_
    rintro e w' ⟨rfl, n, os, rfl⟩
    refine ⟨rfl, ?_, grown_base (grownBy_sortedI _) hbase hg⟩
    have ho := ownsRow_sortedI (n := n) (os := os) (ts := zs.mergeSort fun x y => decide (x ≤ y)) (ss := zs) (by simp) hbase hb h1 h2 h3
    unfold GOwn
    rw [sortI_len, cellsI]
    exact ho

theorem comp90 (zs : List Int) (base : Nat) (v : Value) (w : World) (hn : zs.length ≤ 100000000) (hown : GOwn encI 3 w base v zs) :
    Calls Tryz.prog 51 #[v] w fun e w' => ∃ ao cap, e = .returned (.slice ao (Lib.compact zs).length cap) ∧ GRow encI w' ao (Lib.compact zs) ∧ Below base w w' := by
  rcases hown.2 with ⟨rfl, hz⟩ | ⟨g, cap, cur, rfl, hbase, hb, h1, h2, h3, h4⟩
  · refine (Tryz.slices_Compact_int_empty none 0 w).mono ?_
    rintro e w' ⟨rfl, rfl⟩
    have e : zs = [] := List.length_eq_zero_iff.1 hz
    subst e
    exact ⟨none, 0, rfl, GRow.nil _ _, Below.refl _ _⟩
  · have h4' : cur.toList.take zs.length = zs.map (Value.int .i64) := by
      have e : encI.size = 1 := rfl
      rw [e, Nat.mul_one] at h4
      rw [h4, cellsI]
    have hg : g < w.heap.size := (Array.getElem?_eq_some_iff.1 hb).1
    have hcl : (Lib.compact zs).length ≤ zs.length := Lib.compact_length_le _
    refine (Tryz.slices_Compact_int g 0 cap zs w (holds_of_blockI hb h4') (by omega) h1).mono ?_
    rintro e w' ⟨rfl, q, rfl⟩
    refine ⟨some ⟨g, 0, none⟩, cap, rfl, ?_, ?_⟩
    · have ho := ownsRow_sortedI (n := q) (os := #[]) (ts := Lib.compact zs ++ List.replicate (zs.length - (Lib.compact zs).length) 0) (ss := zs) (by simp; omega) hbase hb h1 h2 h3
      rw [grow_empty] at ho
      intro _
      refine ⟨g, 0, rfl, by simpa [putRow, mapBlock, Sort.ahead] using hg, fun j hj i hi => ?_⟩
      have hi0 : i = 0 := by have : encI.size = 1 := rfl; omega
      have hsz : encI.size = 1 := rfl
      subst hi0
      rw [hsz, Nat.mul_one, Nat.zero_add, Nat.add_zero, World.ownsRow.cellAt ho j (by rw [Nat.mul_one]; omega)]
      rw [List.map_append, List.getElem?_append_left (by simp; omega)]
      simp [encI, hj]
    · have hgr := grownBy_sortedI (w := w) (g := g) (n := q) (os := #[]) (Lib.compact zs ++ List.replicate (zs.length - (Lib.compact zs).length) 0).toArray
      rw [grow_empty] at hgr
      exact grown_base hgr hbase hg

def numF (s : Int) (l : List Vr) : List Int := (l.map (·.2.2.2)).filter fun z => decide (s < z)
theorem numF_yes {s : Int} {l : List Vr} {j : Nat} (h : j < l.length) (hs : s < l[j].2.2.2) : numF s (l.take (j + 1)) = numF s (l.take j) ++ [l[j].2.2.2] := by
  unfold numF
  rw [List.take_succ_eq_append_getElem h, List.map_append, List.filter_append]
  simp [hs]
theorem numF_no {s : Int} {l : List Vr} {j : Nat} (h : j < l.length) (hs : ¬ s < l[j].2.2.2) : numF s (l.take (j + 1)) = numF s (l.take j) := by
  unfold numF
  rw [List.take_succ_eq_append_getElem h, List.map_append, List.filter_append]
  simp [hs]
theorem numF_len (s : Int) (l : List Vr) : (numF s l).length ≤ l.length := by
  unfold numF
  exact Nat.le_trans (List.length_filter_le _ _) (by rw [List.length_map]; exact Nat.le_refl _)
theorem numF_mem {s : Int} {l : List Vr} {z : Int} : z ∈ numF s l ↔ s < z ∧ ∃ v ∈ l, v.2.2.2 = z := by
  unfold numF
  rw [List.mem_filter, List.mem_map, decide_eq_true_eq]
  exact And.comm

theorem wpAppXI {ops : Array Oper} {rest : List Oper} {o : Oper} {a : Act} {Q : Exit → Act → World → Prop} (hgd : o.guard = none) (s x : Operand) (ho : o.op = .call { callee := .builtin .append, args := #[s, x], argTypes := #[68, 68] })
    {W : World} {base g : Nat} {v : Value} {xs : List Int} (y : Int) (hs : a.eval s = v) (hown : GOwn encI 3 W base v xs)
    (hx : a.eval x = .slice (some ⟨g, 0, none⟩) 1 1) (hblk : W.heap[g]? = some (.cells (encI.enc y).toArray 3 (0, 0))) (hlen : xs.length ≤ 100000000) (hB : base ≤ W.heap.size)
    (h : ∀ v' w', GOwn encI 3 w' base v' (xs ++ [y]) → Below base W w' → wpList Tryz.prog ops Q rest (a.put o.dst v') w') :
    wpList Tryz.prog ops Q (o :: rest) a W := by
  refine wpAppG 68 3 1 8 _ Tryz.underlying68 Tryz.info3 rfl (by omega) (by omega) hgd s x ho (encI.enc y) hs hown hx hblk rfl oneI (by omega) hB ?_
  intro g' cap w' h1 h2
  refine h _ w' ?_ h2
  have e : encI.cells (xs ++ [y]) = encI.cells xs ++ encI.enc y := by rw [encI.cells_app]; simp [Enc.cells]
  unfold GOwn
  rw [e, List.length_append]
  exact h1
def numK (s : Int) (xs ys : List Vr) (k : Nat) : List Int := if k = 0 then [s] else if k = 1 then [s] ++ numF s xs else [s] ++ numF s xs ++ numF s ys

set_option maxRecDepth 100000 in
set_option maxHeartbeats 4000000 in
theorem nums64 (s : Int) (xs ys : List Vr) (a1 a2 : Option Addr) (c1 c2 g : Nat) (hn : xs.length ≤ 10000000) (hm : ys.length ≤ 10000000) (w : World) (hx : Bx w g [.slice a1 xs.length c1, .slice a2 ys.length c2]) (h1 : GRow encV w a1 xs) (h2 : GRow encV w a2 ys) :
    Calls Tryz.prog 31 #[.int .i64 s, .slice (some ⟨g, 0, none⟩) 2 2] w fun e w' => ∃ ao cap zs, e = .returned (.slice ao (List.length zs) cap) ∧ GRow encI w' ao zs ∧ (zs.length ≤ 20000001 ∧ ∀ z, z ∈ zs ↔ z = s ∨ (s < z ∧ ∃ v ∈ xs ++ ys, v.2.2.2 = z)) ∧ Below w.heap.size w w' := by
  have H1 : Hid (GRow encV w a1 xs) := h1
  have H2 : Hid (GRow encV w a2 ys) := h2
  have HX0 : Hid (Bx w g [.slice a1 xs.length c1, .slice a2 ys.length c2]) := hx
  clear h1 h2 hx
  have HO0 : Hid (GOwn encI 3 (w.alloc (.cells #[.int .i64 s] 3)) w.heap.size (.slice (some ⟨w.heap.size, 0, none⟩) 1 1) [s]) := World.ownsRow_lit (size := 1) w #[.int .i64 s] 1 (Nat.le_refl _) (by unfold maxLen; omega) rfl
  have HB0 : Hid (Below w.heap.size w (w.alloc (.cells #[.int .i64 s] 3))) := (belowRefl w).alloc (Nat.le_refl _) _
  go_enter Tryz.func31, Tryz.ntmps31
  go_wp2
  go_loopw [5, 14] (fun v t wr => ∃ k : Nat, k ≤ 2 ∧ t = .int .i64 k ∧ Hid (GOwn encI 3 wr w.heap.size v (numK s xs ys k)) ∧ Hid (Below w.heap.size w wr)) (fun _ t _ => 2 - (intOf t).toNat)
  case atStart => exact ⟨0, by omega, rfl, HO0, HB0⟩
  case round =>
    clear HO0 HB0
    obtain ⟨k, hk, rfl, HO, HB⟩ := hrel
    have HX : Hid (Bx wr g [.slice a1 xs.length c1, .slice a2 ys.length c2]) := HX0.out.below HB.out
    by_cases hk0 : k = 0
    · skip
      have HKk : Hid (k = 0) := hk0
      have x0 : wr.cell? ⟨g, k, none⟩ = some (.slice a1 xs.length c1) := by rw [hk0]; exact HX.out.c0
      have hkl : (k : Int) < 2 := by omega
      have hkp : (0 : Int) ≤ (k : Int) := by omega
      have ho9 := HO.out
      rw [hk0] at ho9
      have HO9 := hide ho9
      clear ho9 hk0 
      go_wp2
      go_loopw [5, 20] (fun v t wj => ∃ j : Nat, j ≤ xs.length ∧ t = .int .i64 j ∧ Hid (GOwn encI 3 wj w.heap.size v ([s] ++ numF s (xs.take j))) ∧ Hid (Below w.heap.size w wj)) (fun _ t _ => xs.length - (intOf t).toNat)
      case atStart => exact ⟨0, Nat.zero_le _, rfl, by show GOwn _ _ _ _ _ _; have h := HO9.out; simpa [numK, numF] using h, HB⟩
      case round =>
        rename World => wj
        obtain ⟨j, hj, rfl, HN, HBj⟩ := hrel
        by_cases hjl : j < xs.length
        · have hjl' : (j : Int) < (xs.length : Int) := by omega
          have hj0 : (0 : Int) ≤ (j : Int) := by omega
          obtain ⟨b, off, rfl, hbl, hc⟩ := (H1.out.below HBj.out) (by omega)
          have d0 := (vat hc j hjl).1
          have d1 := (vat hc j hjl).2.1
          have d2 := (vat hc j hjl).2.2.1
          have d3 := (vat hc j hjl).2.2.2
          clear hc
          have HN2 := hide (HN.out.alloc (.cells #[.string xs[j].1, .string xs[j].2.1, .bool xs[j].2.2.1, .int .i64 xs[j].2.2.2] 61))
          have HB2 : Hid (Below w.heap.size w (wj.alloc (.cells #[.string xs[j].1, .string xs[j].2.1, .bool xs[j].2.2.1, .int .i64 xs[j].2.2.2] 61))) := HBj.out.alloc HBj.out.size _
          by_cases hs : s < xs[j].2.2.2
          · have hlen : ([s] ++ numF s (xs.take j)).length ≤ 100000000 := by
              have h1 := numF_len s (xs.take j)
              rw [List.length_take] at h1
              have h2 := numF_len s xs
              simp only [List.length_append, List.length_singleton]
              omega
            have HE : Hid ([s] ++ numF s (xs.take (j + 1)) = [s] ++ numF s (xs.take j) ++ [xs[j].2.2.2]) := by show _ = _; rw [numF_yes hjl hs, List.append_assoc ([s])]
            have hblk : ((wj.alloc (.cells #[.string xs[j].1, .string xs[j].2.1, .bool xs[j].2.2.1, .int .i64 xs[j].2.2.2] 61)).alloc (.cells #[.int .i64 xs[j].2.2.2] 3)).heap[wj.heap.size + 1]? = some (.cells (encI.enc xs[j].2.2.2).toArray 3 (0, 0)) := by
              have h := heapAllocNew (wj.alloc (.cells #[.string xs[j].1, .string xs[j].2.1, .bool xs[j].2.2.1, .int .i64 xs[j].2.2.2] 61)) (encI.enc xs[j].2.2.2) 3
              rw [World.size_alloc] at h
              exact h
            have HBlk := hide hblk
            clear hblk
            have HN4 := hide (HN2.out.alloc (.cells #[.int .i64 xs[j].2.2.2] 3))
            have HB4 : Hid (Below w.heap.size w ((wj.alloc (.cells #[.string xs[j].1, .string xs[j].2.1, .bool xs[j].2.2.1, .int .i64 xs[j].2.2.2] 61)).alloc (.cells #[.int .i64 xs[j].2.2.2] 3))) := HB2.out.alloc HB2.out.size _
            go_wp2_with (at_builtin; refine wpAppXI rfl _ _ rfl xs[j].2.2.2 rfl HN4.out rfl HBlk.out hlen HB4.out.size ?_)
            intro v' w' ho' hb'
            have HN3 : Hid (GOwn encI 3 w' w.heap.size v' ([s] ++ numF s (xs.take (j + 1)))) := by
              show GOwn _ _ _ _ _ _
              rw [HE.out]; simpa [List.append_assoc] using ho'
            have HB3 : Hid (Below w.heap.size w w') := HB4.out.trans hb'
            clear ho' hb'
            go_wp2
            go_roundw
            case rel => exact ⟨j + 1, by omega, by go_num, HN3, HB3⟩
            case measure => simp [intOf]; omega
          · have hs' : decide (s < xs[j].2.2.2) = false := by simpa using hs
            have ho2 := HN2.out
            rw [← numF_no hjl hs] at ho2
            have HN3 := hide ho2
            clear ho2 hs
            go_wp2
            go_roundw
            case rel => exact ⟨j + 1, by omega, by go_num, HN3, HB2⟩
            case measure => simp [intOf]; omega
        · have hjl' : ¬ (j : Int) < (xs.length : Int) := by omega
          have ho := HN.out
          rw [List.take_of_length_le (by omega)] at ho
          have HN1 := hide ho
          clear ho HN
          go_wp2
          go_roundw
          case rel => exact ⟨k + 1, by omega, by go_num, by show GOwn _ _ _ _ _ _; rw [HKk.out]; exact HN1.out, HBj⟩
          case measure => simp [intOf]; omega
    by_cases hk1 : k = 1
    · skip
      have HKk : Hid (k = 1) := hk1
      have x1 : wr.cell? ⟨g, k, none⟩ = some (.slice a2 ys.length c2) := by rw [hk1]; exact HX.out.c1
      have hkl : (k : Int) < 2 := by omega
      have hkp : (0 : Int) ≤ (k : Int) := by omega
      have ho9 := HO.out
      rw [hk1] at ho9
      have HO9 := hide ho9
      clear ho9 hk1 hk0
      go_wp2
      go_loopw [5, 20] (fun v t wj => ∃ j : Nat, j ≤ ys.length ∧ t = .int .i64 j ∧ Hid (GOwn encI 3 wj w.heap.size v ([s] ++ numF s xs ++ numF s (ys.take j))) ∧ Hid (Below w.heap.size w wj)) (fun _ t _ => ys.length - (intOf t).toNat)
      case atStart => exact ⟨0, Nat.zero_le _, rfl, by show GOwn _ _ _ _ _ _; have h := HO9.out; simpa [numK, numF] using h, HB⟩
      case round =>
        rename World => wj
        obtain ⟨j, hj, rfl, HN, HBj⟩ := hrel
        by_cases hjl : j < ys.length
        · have hjl' : (j : Int) < (ys.length : Int) := by omega
          have hj0 : (0 : Int) ≤ (j : Int) := by omega
          obtain ⟨b, off, rfl, hbl, hc⟩ := (H2.out.below HBj.out) (by omega)
          have d0 := (vat hc j hjl).1
          have d1 := (vat hc j hjl).2.1
          have d2 := (vat hc j hjl).2.2.1
          have d3 := (vat hc j hjl).2.2.2
          clear hc
          have HN2 := hide (HN.out.alloc (.cells #[.string ys[j].1, .string ys[j].2.1, .bool ys[j].2.2.1, .int .i64 ys[j].2.2.2] 61))
          have HB2 : Hid (Below w.heap.size w (wj.alloc (.cells #[.string ys[j].1, .string ys[j].2.1, .bool ys[j].2.2.1, .int .i64 ys[j].2.2.2] 61))) := HBj.out.alloc HBj.out.size _
          by_cases hs : s < ys[j].2.2.2
          · have hlen : ([s] ++ numF s xs ++ numF s (ys.take j)).length ≤ 100000000 := by
              have h1 := numF_len s (ys.take j)
              rw [List.length_take] at h1
              have h2 := numF_len s xs
              simp only [List.length_append, List.length_singleton]
              omega
            have HE : Hid ([s] ++ numF s xs ++ numF s (ys.take (j + 1)) = [s] ++ numF s xs ++ numF s (ys.take j) ++ [ys[j].2.2.2]) := by show _ = _; rw [numF_yes hjl hs, List.append_assoc ([s] ++ numF s xs)]
            have hblk : ((wj.alloc (.cells #[.string ys[j].1, .string ys[j].2.1, .bool ys[j].2.2.1, .int .i64 ys[j].2.2.2] 61)).alloc (.cells #[.int .i64 ys[j].2.2.2] 3)).heap[wj.heap.size + 1]? = some (.cells (encI.enc ys[j].2.2.2).toArray 3 (0, 0)) := by
              have h := heapAllocNew (wj.alloc (.cells #[.string ys[j].1, .string ys[j].2.1, .bool ys[j].2.2.1, .int .i64 ys[j].2.2.2] 61)) (encI.enc ys[j].2.2.2) 3
              rw [World.size_alloc] at h
              exact h
            have HBlk := hide hblk
            clear hblk
            have HN4 := hide (HN2.out.alloc (.cells #[.int .i64 ys[j].2.2.2] 3))
            have HB4 : Hid (Below w.heap.size w ((wj.alloc (.cells #[.string ys[j].1, .string ys[j].2.1, .bool ys[j].2.2.1, .int .i64 ys[j].2.2.2] 61)).alloc (.cells #[.int .i64 ys[j].2.2.2] 3))) := HB2.out.alloc HB2.out.size _
            go_wp2_with (at_builtin; refine wpAppXI rfl _ _ rfl ys[j].2.2.2 rfl HN4.out rfl HBlk.out hlen HB4.out.size ?_)
            intro v' w' ho' hb'
            have HN3 : Hid (GOwn encI 3 w' w.heap.size v' ([s] ++ numF s xs ++ numF s (ys.take (j + 1)))) := by
              show GOwn _ _ _ _ _ _
              rw [HE.out]; simpa [List.append_assoc] using ho'
            have HB3 : Hid (Below w.heap.size w w') := HB4.out.trans hb'
            clear ho' hb'
            go_wp2
            go_roundw
            case rel => exact ⟨j + 1, by omega, by go_num, HN3, HB3⟩
            case measure => simp [intOf]; omega
          · have hs' : decide (s < ys[j].2.2.2) = false := by simpa using hs
            have ho2 := HN2.out
            rw [← numF_no hjl hs] at ho2
            have HN3 := hide ho2
            clear ho2 hs
            go_wp2
            go_roundw
            case rel => exact ⟨j + 1, by omega, by go_num, HN3, HB2⟩
            case measure => simp [intOf]; omega
        · have hjl' : ¬ (j : Int) < (ys.length : Int) := by omega
          have ho := HN.out
          rw [List.take_of_length_le (by omega)] at ho
          have HN1 := hide ho
          clear ho HN
          go_wp2
          go_roundw
          case rel => exact ⟨k + 1, by omega, by go_num, by show GOwn _ _ _ _ _ _; rw [HKk.out]; exact HN1.out, HBj⟩
          case measure => simp [intOf]; omega
    have hk2 : k = 2 := by omega
    subst hk2
    have ho := HO.out
    rw [show numK s xs ys 2 = [s] ++ numF s xs ++ numF s ys from rfl] at ho
    have hlen : ([s] ++ numF s xs ++ numF s ys).length ≤ 20000001 := by
      have h1 := numF_len s xs
      have h2 := numF_len s ys
      simp only [List.length_append, List.length_singleton]
      omega
    have HMm : Hid (∀ z, z ∈ Lib.compact (sortI ([s] ++ numF s xs ++ numF s ys)) ↔ z = s ∨ (s < z ∧ ∃ v ∈ xs ++ ys, v.2.2.2 = z)) := fun z => by
      rw [nums_mem]
      simp only [List.mem_append, List.mem_singleton, numF_mem]
      constructor
      · rintro ((h | ⟨h, v, hv, e⟩) | ⟨h, v, hv, e⟩)
        · exact Or.inl h
        · exact Or.inr ⟨h, v, Or.inl hv, e⟩
        · exact Or.inr ⟨h, v, Or.inr hv, e⟩
      · rintro (h | ⟨h, v, hv | hv, e⟩)
        · exact Or.inl (Or.inl h)
        · exact Or.inl (Or.inr ⟨h, v, hv, e⟩)
        · exact Or.inr ⟨h, v, hv, e⟩
    generalize [s] ++ numF s xs ++ numF s ys = ns at ho hlen HMm
    have HO1 := hide ho
    clear ho HO
    go_wp2_with fail
    refine (sort89 ns w.heap.size _ _ (by omega) HO1.out).mono ?_
    rintro e w1 ⟨rfl, ho1, hb1⟩
    have HO2 := hide ho1
    have HB2 : Hid (Below w.heap.size w w1) := HB.out.trans hb1
    clear ho1 hb1
    go_wp2_with fail
    refine (comp90 _ w.heap.size _ _ (by rw [sortI_len]; omega) HO2.out).mono ?_
    rintro e w2 ⟨ao, cap, rfl, hr, hb2⟩
    have HR : Hid (GRow encI w2 ao (Lib.compact (sortI ns))) := hr
    have HB3 : Hid (Below w.heap.size w w2) := HB2.out.trans hb2
    have HLn : Hid ((Lib.compact (sortI ns)).length ≤ 20000001) := Nat.le_trans (Lib.compact_length_le _) (by rw [sortI_len]; exact hlen)
    clear hr hb2
    generalize Lib.compact (sortI ns) = zs at *
    go_wp2
    go_ret
    exact ⟨ao, cap, zs, rfl, HR.out, ⟨HLn.out, HMm.out⟩, HB3.out⟩
end Go.Proofs.YtmaipaeehalabaaGreat

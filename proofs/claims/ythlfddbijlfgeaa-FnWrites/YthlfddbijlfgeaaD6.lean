/- What DrawPutWrite and DrawWritesOk make; what sameWrites says of what is alike. -/
import Derived.Test.YthlfddbijlfgeaaD5
import Derived.Laws.StructEq
namespace Go.Proofs.Ythlfddbijlfgeaa
open Go.RowKit
open KM
attribute [local go_sem ↓] Go.wp_at_zero Go.wp_at_succ

set_option maxRecDepth 100000 in
set_option maxHeartbeats 1000000 in
theorem dPutWrite (len cap : Nat) (a : Option Addr) (hl : len ≤ 1048576) (w : World) (hr : CodeRow w a len) :
    Calls Try.prog 27 #[.slice a len cap] w fun e w' => ∃ (xs : List Wt) (x : Wt) (a1 : Option Addr) (c1 : Nat), WsD xs ∧ xs.length ≤ 3 ∧ WtD x ∧ e = .returned (.tuple #[.slice a1 xs.length c1, .agg #[.string x.1, .string x.2.1, .bool x.2.2]]) ∧ GOwn encW 34 w' w.heap.size (.slice a1 xs.length c1) xs ∧ Below w.heap.size w w' := by
  have HR : Hid (CodeRow w a len) := hr
  clear hr
  go_enter Try.func27, Try.ntmps27
  go_wp2_with fail
  refine (drNew len cap a hl _ (HR.out.below ((belowRefl w).alloc (Nat.le_refl _) _))).mono ?_
  rintro e w1 ⟨rfl, h1, hb1⟩
  have C1 : Hid (CurI w1 (w.heap.size + 1) a len cap) := by show CurI _ _ _ _ _; simpa using h1
  have B1 : Hid (Bx w1 w.heap.size [.string ⟨#[]⟩, .string ⟨#[]⟩, .bool false]) := (Bx.new w [.string ⟨#[]⟩, .string ⟨#[]⟩, .bool false] 34).below hb1
  have HB1 : Hid (Below w.heap.size w w1) := ((belowRefl w).alloc (Nat.le_refl _) _).trans (hb1.mono (by simp))
  have s1 : w.heap.size + 1 < w1.heap.size := C1.out.lt
  clear h1 hb1
  go_wp2_with fail
  refine (drWrite (w.heap.size + 1) len cap a _ C1.out).mono ?_
  rintro e w2 ⟨x, hx, rfl, d2⟩
  have D2 : Hid (Dn w1 w2 (w.heap.size + 1) a len cap) := d2
  have B2 : Hid (Bx w2 w.heap.size [.string ⟨#[]⟩, .string ⟨#[]⟩, .bool false]) := B1.out.keptD d2 (by omega)
  have s2 : w.heap.size + 1 < w2.heap.size := D2.out.c.lt
  have HX : Hid (WtD x) := hx
  have X2 : Hid (Bx (w2.alloc (.cells #[.string x.1, .string x.2.1, .bool x.2.2] 34)).drew w2.heap.size [.string x.1, .string x.2.1, .bool x.2.2]) := (Bx.new w2 _ 34).drew
  have B3 : Hid (Bx (w2.alloc (.cells #[.string x.1, .string x.2.1, .bool x.2.2] 34)).drew w.heap.size [.string ⟨#[]⟩, .string ⟨#[]⟩, .bool false]) := (B2.out.alloc _).drew
  have D3 : Hid (Dn w1 (w2.alloc (.cells #[.string x.1, .string x.2.1, .bool x.2.2] 34)).drew (w.heap.size + 1) a len cap) := (D2.out.alloc _).drew
  clear d2 hx B1 B2
  go_wp2
  refine wp_region_held_drew (S := fun w' => w'.cell? ⟨w2.heap.size, 0, none⟩ = some (.string x.1) ∧ w'.cell? ⟨w2.heap.size, 1, none⟩ = some (.string x.2.1) ∧ w'.cell? ⟨w2.heap.size, 2, none⟩ = some (.bool x.2.2)) (by kernel_rfl) ⟨X2.out.c0, X2.out.c1, X2.out.c2⟩ (fun hHeld => ?_)
  (refine wpAnyH_take (i := 0) (v := ?_) rfl (by kernel_rfl) (by kernel_rfl) (by kernel_rfl) (fun _ _ _ h => h) (Or.inl ⟨by rfl, ?_⟩) (by assumption) ?_; rotate_left; (focus (intro w hSw; (try dsimp only at hSw); go_simp; (try with_reducible rfl); done)); simp only [Act.put, List.getElem_toArray, List.getElem_cons_zero, List.setIfInBounds_toArray, List.set_cons_zero, List.set_cons_succ])
  (refine wpAnyH_take (i := 2) (v := ?_) rfl (by kernel_rfl) (by kernel_rfl) (by kernel_rfl) (fun _ _ _ h => h) (Or.inl ⟨by rfl, ?_⟩) (by assumption) ?_; rotate_left; (focus (intro w hSw; (try dsimp only at hSw); go_simp; (try with_reducible rfl); done)); simp only [Act.put, List.getElem_toArray, List.getElem_cons_zero, List.getElem_cons_succ, List.setIfInBounds_toArray, List.set_cons_zero, List.set_cons_succ])
  refine wpAnyH_ready (rs := [1]) (by kernel_rfl) (by simp) ?_
  refine AllReadyH.cons rfl (fun K hK => ?_) AllReadyH.nil
  go_simp
  go_wp2_with fail
  refine (drWrites (w.heap.size + 1) len cap a _ D3.out.c).mono ?_
  rintro e w4 ⟨xs, a1, c1, hws, hwl, rfl, ho4, d4⟩
  have D4 : Hid (Dn w1 w4 (w.heap.size + 1) a len cap) := D3.out.step d4
  have X4 : Hid (Bx w4 w2.heap.size [.string x.1, .string x.2.1, .bool x.2.2]) := X2.out.keptD d4 (by omega)
  have B4 : Hid (Bx w4 w.heap.size [.string ⟨#[]⟩, .string ⟨#[]⟩, .bool false]) := B3.out.keptD d4 (by omega)
  have O4 : Hid (GOwn encW 34 w4 (w.heap.size + 1) (.slice a1 xs.length c1) xs) := ho4.mono (Nat.le_trans (Nat.le_of_lt s1) D3.out.size)
  have HW : Hid (WsD xs) := hws
  have HB4 : Hid (Below w.heap.size w w4) := D4.out.out HB1.out (by omega) HB1.out.size
  clear ho4 d4 hws X2 B3 D3 D2 HB1
  go_wp2_with fail
  refine hK.out _ _ ⟨X4.out.c0, X4.out.c1, X4.out.c2⟩ (fun hHeld4 => ?_)
  clear hK K
  (refine wpAnyH_take (i := 3) (v := ?_) rfl (by kernel_rfl) (by kernel_rfl) (by kernel_rfl) (fun _ _ _ h => h) (Or.inl ⟨by rfl, ?_⟩) (by assumption) ?_; rotate_left; (focus (intro w hSw; (try dsimp only at hSw); go_simp; (try with_reducible rfl); done)); simp only [Act.put, List.getElem_toArray, List.getElem_cons_zero, List.getElem_cons_succ, List.setIfInBounds_toArray, List.set_cons_zero, List.set_cons_succ])
  have c0 := B4.out.c0
  have c1' := B4.out.c1
  have c2 := B4.out.c2
  have fz := B4.out.fz
  have hX : w2.heap.size ≠ w.heap.size := by omega
  refine wpAnyH_ready (rs := [4]) (by kernel_rfl) (by simp) ?_
  refine AllReadyH.cons rfl (fun K hK => ?_) AllReadyH.nil
  go_simp
  have X5 := ((X4.out.setO (p := ⟨w.heap.size, 0, none⟩) (by simp; omega) (.string x.1)).setO (p := ⟨w.heap.size, 1, none⟩) (by simp; omega) (.string x.2.1)).setO (p := ⟨w.heap.size, 2, none⟩) (by simp; omega) (.bool x.2.2)
  refine hK.out _ _ ⟨X5.c0, X5.c1, X5.c2⟩ (fun hHeld5 => ?_)
  clear hK K
  refine wpAnyH_done (by kernel_rfl) ?_ _
  have BF := ((B4.out.set 0 (.string x.1)).set 1 (.string x.2.1)).set 2 (.bool x.2.2)
  have e0 := BF.c0
  have e1 := BF.c1
  have e2 := BF.c2
  go_wp2
  exact bodyPost_ret (v := .tuple #[.slice a1 xs.length c1, .agg #[.string x.1, .string x.2.1, .bool x.2.2]]) (by simp [results, Try.results27, go_sem, e0, e1, e2]) rfl ⟨xs, x, a1, c1, HW.out, hwl, HX.out, rfl, (((O4.out.set (by show w.heap.size < w.heap.size + 1; omega) _).set (by show w.heap.size < w.heap.size + 1; omega) _).set (by show w.heap.size < w.heap.size + 1; omega) _).mono (by omega), ((HB4.out.setCell (Nat.le_refl _) _).setCell (Nat.le_refl _) _).setCell (Nat.le_refl _) _⟩

theorem GRow.take {α : Type} {E : Enc α} {w : World} {a : Option Addr} {xs : List α} (h : GRow E w a xs) (n : Nat) : GRow E w a (xs.take n) := fun h0 => by
  have hl : 0 < xs.length := by rw [List.length_take] at h0; omega
  obtain ⟨b, off, rfl, hlt, hc⟩ := h hl
  refine ⟨b, off, rfl, hlt, fun j hj i hi => ?_⟩
  have hj' : j < xs.length := by rw [List.length_take] at hj; omega
  rw [hc j hj' i hi]
  simp

/-- nine writes of nothing -/
def nine : List Wt := List.replicate 9 (⟨#[]⟩, ⟨#[]⟩, false)
theorem cells_setK (xs : List Wt) (j : Nat) (hj : j < xs.length) (s : ByteArray) : (encW.cells xs).set (j * 3) (.string s) = encW.cells (xs.set j (s, xs[j].2)) := by
  apply List.ext_getElem?
  intro i
  have hl : (encW.cells xs).length = xs.length * 3 := encW.cells_len xs
  have hl2 : (encW.cells (xs.set j (s, xs[j].2))).length = xs.length * 3 := by rw [encW.cells_len, List.length_set]; rfl
  by_cases hi : i < xs.length * 3
  · have hd : i = (i / 3) * 3 + i % 3 := by omega
    have hq : i / 3 < xs.length := by omega
    have hr : i % 3 < 3 := by omega
    have h1 := encW.cells_at xs (i / 3) hq (i % 3) hr
    have h2 := encW.cells_at (xs.set j (s, xs[j].2)) (i / 3) (by rw [List.length_set]; exact hq) (i % 3) hr
    change (encW.cells xs)[(i / 3) * 3 + i % 3]? = _ at h1
    change (encW.cells (xs.set j (s, xs[j].2)))[(i / 3) * 3 + i % 3]? = _ at h2
    rw [← hd] at h1 h2
    by_cases e : i / 3 = j
    · subst e
      have hx : (xs.set (i / 3) (s, xs[i / 3].2))[i / 3]'(by rw [List.length_set]; exact hq) = (s, xs[i / 3].2) := by simp
      rw [hx] at h2
      rw [h2]
      rcases (by omega : i % 3 = 0 ∨ i % 3 = 1 ∨ i % 3 = 2) with h | h | h
      · rw [h, show (i / 3) * 3 = i by omega, List.getElem?_set_self (by omega)]; rfl
      · rw [List.getElem?_set_ne (by omega), h1, h]; rfl
      · rw [List.getElem?_set_ne (by omega), h1, h]; rfl
    · have hx : (xs.set j (s, xs[j].2))[i / 3]'(by rw [List.length_set]; exact hq) = xs[i / 3] := by rw [List.getElem_set_ne (fun e' => e e'.symm)]
      rw [hx] at h2
      rw [h2, List.getElem?_set_ne (by omega), h1]
  · rw [List.getElem?_eq_none (by simp only [List.length_set]; omega), List.getElem?_eq_none (by omega)]

/-- short texts -/
def WtsA (xs : List Wt) : Prop := ∀ x ∈ xs, WtA x
theorem WtsA.fit {xs : List Wt} (h : WtsA xs) : WFit xs := fun x hx => ⟨by have := (h x hx).1; omega, by have := (h x hx).2; omega⟩
theorem wtsA_set {xs : List Wt} (h : WtsA xs) (j : Nat) {y : Wt} (hy : WtA y) : WtsA (xs.set j y) := fun x hx => by
  rcases List.mem_or_eq_of_mem_set hx with h1 | rfl
  · exact h x h1
  · exact hy
theorem nineA : WtsA nine := fun x hx => by
  rw [(List.mem_replicate.1 hx).2]
  exact ⟨by show (0 : Nat) ≤ 4; omega, by show (0 : Nat) ≤ 13; omega⟩
theorem nine_cells : (madeCells (Value.agg #[.string ByteArray.empty, .string ByteArray.empty, .bool false]).cells (9 * 3)).toList = encW.cells nine := by kernel_rfl

set_option maxRecDepth 100000 in
set_option maxHeartbeats 2000000 in
theorem dWritesOk (len cap : Nat) (a : Option Addr) (hl : len ≤ 1048576) (w : World) (hr : CodeRow w a len) :
    Calls Try.prog 29 #[.slice a len cap] w fun e w' => ∃ (xs : List Wt) (a1 : Option Addr) (c1 : Nat), WtsA xs ∧ xs.length ≤ 9 ∧ e = .returned (.slice a1 xs.length c1) ∧ GRow encW w' a1 xs ∧ Below w.heap.size w w' := by
  have HR : Hid (CodeRow w a len) := hr
  clear hr
  have hmk := fun W => mkRow 30 34 3 40 _ Try.underlying30 Try.info34 9 (by omega) (by omega) W
  have hmk9 : ∀ W : World, (Instr.makeSlice 30 (.int .i64 9) (.int .i64 9)).run Try.prog W = .ok (.slice (some ⟨W.heap.size, 0, none⟩) 9 9) (W.alloc (.cells (madeCells (Value.agg #[.string ByteArray.empty, .string ByteArray.empty, .bool false]).cells (9 * 3)) 34)) := fun W => hmk W
  obtain ⟨C9, hC9⟩ : ∃ C, C = madeCells (Value.agg #[.string ByteArray.empty, .string ByteArray.empty, .bool false]).cells (9 * 3) := ⟨_, rfl⟩
  rw [← hC9] at hmk9
  have HC9 : Hid (C9.toList = encW.cells nine) := by show _ = _; rw [hC9, nine_cells]
  have HCS : Hid (C9.size = 9 * 3) := by show _ = _; rw [hC9, size_madeCells]
  have HMK : Hid (∀ W : World, (Instr.makeSlice 30 (.int .i64 9) (.int .i64 9)).run Try.prog W = .ok (.slice (some ⟨W.heap.size, 0, none⟩) 9 9) (W.alloc (.cells C9 34))) := hmk9
  clear hmk hmk9 hC9
  go_enter Try.func29, Try.ntmps29
  go_wp2_with fail
  refine (drNew len cap a hl _ HR.out).mono ?_
  rintro e w1 ⟨rfl, h1, hb1⟩
  have C1 : Hid (CurI w1 w.heap.size a len cap) := h1
  have HB1 : Hid (Below w.heap.size w w1) := hb1
  have s1 : w.heap.size < w1.heap.size := h1.lt
  clear h1 hb1
  go_wp2_with fail
  refine (drWrites w.heap.size len cap a _ C1.out).mono ?_
  rintro e w2 ⟨xs, a1, c1, hws, hwl, rfl, ho2, d2⟩
  have D2 : Hid (Dn w1 w2 w.heap.size a len cap) := d2
  have O2 : Hid (GOwn encW 34 w2 w1.heap.size (.slice a1 xs.length c1) xs) := ho2
  have HW : Hid (WtsA xs) := fun x hx => ⟨by have := (hws.1 x hx).2.1; omega, by have := (hws.1 x hx).2.2; omega⟩
  clear d2 ho2 hws
  go_wp2_with fail
  refine (drBelow w.heap.size len cap a 5 (by omega) (by omega) _ D2.out.c).mono ?_
  rintro e w3 ⟨n, hn, rfl, d3⟩
  have D3 : Hid (Dn w1 w3 w.heap.size a len cap) := D2.out.step d3
  have O3 : Hid (GOwn encW 34 w3 w1.heap.size (.slice a1 xs.length c1) xs) := O2.out.keptD d3 s1
  clear d3 O2 D2
  by_cases h0 : n = 0
  · have h0' : ((n : Int) == 0) = true := by simp; omega
    clear h0
    go_wp2_with fail
    refine (drAny w.heap.size len cap a _ D3.out.c).mono ?_
    rintro e w4 ⟨x, hx, rfl, d4⟩
    have D4 : Hid (Dn w1 w4 w.heap.size a len cap) := D3.out.step d4
    have O4 : Hid (GOwn encW 34 w4 w1.heap.size (.slice a1 xs.length c1) xs) := O3.out.keptD d4 s1
    have HX : Hid (WtA x) := hx
    have s4 := D4.out.size
    clear d4 hx
    go_wp2_with (at_builtin; refine wpAppW rfl _ _ rfl x rfl O4.out rfl (by omega) s4 ?_)
    intro v' w5 ho5 hb5
    obtain ⟨a5, c5, rfl, hr5⟩ := ho5.row
    have R5 : Hid (GRow encW w5 a5 (xs ++ [x])) := hr5
    have D5 : Hid (Dn w1 w5 w.heap.size a len cap) := D4.out.belowB hb5
    have HB5 : Hid (Below w.heap.size w w5) := D5.out.out HB1.out (Nat.le_refl _) (by omega)
    have HA : Hid (WtsA (xs ++ [x])) := fun y hy => by
      rcases List.mem_append.1 hy with hy | hy
      · exact HW.out y hy
      · rw [List.mem_singleton.1 hy]; exact HX.out
    obtain ⟨ys, hys⟩ : ∃ ys, ys = xs ++ [x] := ⟨_, rfl⟩
    have hyl : ys.length ≤ 9 := by rw [hys]; simp; omega
    rw [← hys] at R5 HA ⊢
    clear ho5 hb5 hr5 hys
    go_wp2
    go_ret
    exact ⟨ys, a5, c5, HA.out, hyl, rfl, R5.out, HB5.out⟩
  have h0' : ((n : Int) == 0) = false := by simp; omega
  by_cases h1 : n = 1
  · have h1' : ((n : Int) == 1) = true := by simp; omega
    clear h0 h1
    have hmk := HMK.out w3
    go_wp2
    clear hmk
    have O4 : Hid (GOwn encW 34 (w3.alloc (.cells C9 34)) w1.heap.size (.slice (some ⟨w3.heap.size, 0, none⟩) 9 9) nine) := by
      show GOwn _ _ _ _ _ _
      unfold GOwn
      rw [← HC9.out]
      exact World.ownsRow_lit w3 C9 9 D3.out.size (by unfold maxLen; omega) HCS.out
    have D4 : Hid (Dn w1 (w3.alloc (.cells C9 34)) w.heap.size a len cap) := D3.out.alloc _
    have s3 : w1.heap.size ≤ w3.heap.size := D3.out.size
    go_loopw [5] (fun t wr => ∃ (k : Nat) (ys : List Wt), k ≤ 9 ∧ t = .int .i64 k ∧ ys.length = 9 ∧ Hid (WtsA ys) ∧ Hid (GOwn encW 34 wr w1.heap.size (.slice (some ⟨w3.heap.size, 0, none⟩) 9 9) ys) ∧ Hid (Dn w1 wr w.heap.size a len cap)) (fun t _ => 9 - (intOf t).toNat)
    case atStart => exact ⟨0, nine, by omega, rfl, rfl, nineA, O4, D4⟩
    case round =>
      clear O4 D4 D3 O3
      obtain ⟨k, ys, hk, rfl, hyl, HA, HO, HD⟩ := hrel
      by_cases hlt : k < 9
      · have hlt' : (k : Int) < 9 := by omega
        have hk0 : (0 : Int) ≤ (k : Int) := by omega
        have hky : k < ys.length := by omega
        obtain ⟨q, hq⟩ : ∃ q, q = 97 + k := ⟨_, rfl⟩
        have e9 : IntKind.i64.wrap (97 + (k : Int)) = (q : Int) := by rw [IntKind.wrap_i64]; omega
        have e10 : (97 : Int) + (k : Int) = (q : Int) := by omega
        have e11 : IntKind.u8.wrap (q : Int) = (q : Int) := by simp [IntKind.wrap, IntKind.bits, IntKind.signed]; omega
        have hOw : Own (wr.alloc (.cells #[.int .u8 (q : Int)] 5)) wr.heap.size (.slice (some ⟨wr.heap.size, 0, none⟩) 1 1) [UInt8.ofNat q] := by
          have h := World.ownsRow_lit (base := wr.heap.size) (e := 5) (size := 1) wr #[.int .u8 (q : Int)] 1 (Nat.le_refl _) (by unfold maxLen; omega) rfl
          unfold Own
          have e : bv [UInt8.ofNat q] = [.int .u8 (q : Int)] := by
            simp only [bv, List.map_cons, List.map_nil, UInt8.toNat_ofNat']
            rw [Nat.mod_eq_of_lt (by omega)]
          rw [e]
          exact h
        have hst := hOw.str
        have HST : Hid ((convert 22 9 (.slice (some ⟨wr.heap.size, 0, none⟩) 1 1)).run Try.prog (wr.alloc (.cells #[.int .u8 (q : Int)] 5)) = .ok (.string ⟨[UInt8.ofNat q].toArray⟩) (wr.alloc (.cells #[.int .u8 (q : Int)] 5))) := hst
        have O1 : Hid (GOwn encW 34 (wr.alloc (.cells #[.int .u8 (q : Int)] 5)) w1.heap.size (.slice (some ⟨w3.heap.size, 0, none⟩) 9 9) ys) := HO.out.alloc _
        have D1 : Hid (Dn w1 (wr.alloc (.cells #[.int .u8 (q : Int)] 5)) w.heap.size a len cap) := HD.out.alloc _
        have hlen : (encW.cells ys).length = 27 := by rw [encW.cells_len, hyl]; rfl
        have ho1 : (wr.alloc (.cells #[.int .u8 (q : Int)] 5)).ownsRow w1.heap.size 34 3 (.slice (some ⟨w3.heap.size, 0, none⟩) 9 9) 9 (encW.cells ys) := by
          have h := O1.out
          unfold GOwn at h
          rw [hyl] at h
          exact h
        obtain ⟨u0, q0⟩ : ∃ u0, (wr.alloc (.cells #[.int .u8 (q : Int)] 5)).cell? ⟨w3.heap.size, k * 3, none⟩ = some u0 := ⟨(encW.cells ys)[k * 3]'(by omega), by
          rw [World.ownsRow.cellAt ho1 (k * 3) (by omega)]; simp⟩
        have g0 := World.ownsRow.frozenAt ho1 (k * 3)
        have hs2 := (World.ownsRow.stored ho1 (k * 3) (.string ⟨[UInt8.ofNat q].toArray⟩)).1
        rw [cells_setK ys k hky] at hs2
        obtain ⟨st, hstr⟩ : ∃ st : ByteArray, st = ⟨[UInt8.ofNat q].toArray⟩ := ⟨_, rfl⟩
        have hsz : st.size ≤ 4 := by rw [hstr]; show (1 : Nat) ≤ 4; omega
        rw [← hstr] at hs2 HST
        have O2 : Hid (GOwn encW 34 ((wr.alloc (.cells #[.int .u8 (q : Int)] 5)).setCell ⟨w3.heap.size, k * 3, none⟩ (.string st)) w1.heap.size (.slice (some ⟨w3.heap.size, 0, none⟩) 9 9) (ys.set k (st, ys[k].2))) := by
          show GOwn _ _ _ _ _ _
          unfold GOwn
          rw [List.length_set, hyl]
          exact hs2
        have HA2 : Hid (WtsA (ys.set k (st, ys[k].2))) := wtsA_set HA.out k ⟨hsz, (HA.out _ (List.getElem_mem hky)).2⟩
        have hyl2 : (ys.set k (st, ys[k].2)).length = 9 := by rw [List.length_set]; exact hyl
        have D2 : Hid (Dn w1 ((wr.alloc (.cells #[.int .u8 (q : Int)] 5)).setCell ⟨w3.heap.size, k * 3, none⟩ (.string st)) w.heap.size a len cap) := D1.out.set (by show _ ≤ w3.heap.size; omega) _
        clear hq hst hOw hs2 hstr hsz
        have hst := HST.out
        go_wp2
        go_roundw
        case rel => exact ⟨k + 1, _, by omega, by go_num, hyl2, HA2, O2, D2⟩
        case measure => simp [intOf]; omega
      · have hlt' : ¬ (k : Int) < 9 := by omega
        go_wp2_with fail
        refine (drBelow w.heap.size len cap a 2 (by omega) (by omega) _ HD.out.c).mono ?_
        rintro e w5 ⟨m, hm, rfl, d5⟩
        have D5 : Hid (Dn w1 w5 w.heap.size a len cap) := HD.out.step d5
        have o5 := HO.out.keptD d5 s1
        have e9y : (9 : Nat) = ys.length := hyl.symm
        have R5 : Hid (GRow encW w5 (some ⟨w3.heap.size, 0, none⟩) ys) := by
          obtain ⟨ao, cp, hv, hr⟩ := o5.row
          simp only [Value.slice.injEq] at hv
          rw [← hv.1] at hr
          exact hr
        have HB5 : Hid (Below w.heap.size w w5) := D5.out.out HB1.out (Nat.le_refl _) (by omega)
        have R6 : Hid (GRow encW w5 (some ⟨w3.heap.size, 0, none⟩) (ys.take (8 + m))) := R5.out.take _
        have HA6 : Hid (WtsA (ys.take (8 + m))) := fun x hx => HA.out x (List.mem_of_mem_take hx)
        obtain ⟨zs, hzs⟩ : ∃ zs, zs = ys.take (8 + m) := ⟨_, rfl⟩
        have hzl : zs.length = 8 + m := by rw [hzs, List.length_take]; omega
        rw [← hzs] at R6 HA6
        obtain ⟨q, hq⟩ : ∃ q, q = 8 + m := ⟨_, rfl⟩
        have e9 : IntKind.i64.wrap (8 + (m : Int)) = (q : Int) := by rw [IntKind.wrap_i64]; omega
        have e10 : (8 : Int) + (m : Int) = (q : Int) := by omega
        have q0 : (0 : Int) ≤ (q : Int) := by omega
        have q9 : (q : Int) ≤ 9 := by omega
        have HZ : Hid (zs.length = q) := by show _ = _; omega
        have hq9 : q ≤ 9 := by omega
        clear d5 o5 hzs hzl hq e9y
        go_wp2
        go_ret
        exact ⟨zs, _, _, HA6.out, by rw [HZ.out]; exact hq9, by rw [HZ.out]; rfl, R6.out, HB5.out⟩
  · have h1' : ((n : Int) == 1) = false := by simp; omega
    have R3 : Hid (GRow encW w3 a1 xs) := O3.out.grow
    have HB3 : Hid (Below w.heap.size w w3) := D3.out.out HB1.out (Nat.le_refl _) (by omega)
    clear h0 h1
    go_wp2
    go_ret
    exact ⟨xs, a1, c1, HW.out, by omega, rfl, R3.out, HB3.out⟩

set_option maxRecDepth 100000 in
set_option maxHeartbeats 1000000 in
theorem sameW (a1 a2 : Option Addr) (c1 c2 : Nat) (xs : List Wt) (hn : xs.length ≤ 100000000) (w : World) (h1 : GRow encW w a1 xs) (h2 : GRow encW w a2 xs) :
    Calls Try.prog 31 #[.slice a1 xs.length c1, .slice a2 xs.length c2] w fun e w' => e = .returned (.bool true) ∧ Below w.heap.size w w' := by
  have H1 : Hid (GRow encW w a1 xs) := h1
  have H2 : Hid (GRow encW w a2 xs) := h2
  clear h1 h2
  go_enter Try.func31, Try.ntmps31
  go_wp2
  go_loopw [5] (fun t wr => ∃ k : Nat, k ≤ xs.length ∧ t = .int .i64 k ∧ Hid (Below w.heap.size w wr)) (fun t _ => xs.length - (intOf t).toNat)
  case atStart => exact ⟨0, Nat.zero_le _, rfl, Below.refl _ _⟩
  case round =>
    obtain ⟨k, hk, rfl, HB⟩ := hrel
    by_cases hlt : k < xs.length
    · have hlt' : (k : Int) < (xs.length : Int) := by omega
      have h0 : (0 : Int) ≤ (k : Int) := by omega
      obtain ⟨b1, off1, rfl, hl1, q1⟩ := (H1.out.below HB.out) (by omega)
      obtain ⟨b2, off2, rfl, hl2, q2⟩ := (H2.out.below HB.out) (by omega)
      have r10 := (wat q1 k hlt).1
      have r11 := (wat q1 k hlt).2.1
      have r12 := (wat q1 k hlt).2.2
      have r20 := (wat q2 k hlt).1
      have r21 := (wat q2 k hlt).2.1
      have r22 := (wat q2 k hlt).2.2
      clear q1 q2
      go_wp2
      go_quiet (fail)
      go_wp2
      go_roundw
      case rel => exact ⟨k + 1, by omega, by go_num, below_drewN HB.out _⟩
      case measure => simp [intOf]; omega
    · have hd : ¬ (k : Int) < (xs.length : Int) := by omega
      go_wp2
      go_ret
      exact ⟨rfl, HB.out⟩
end Go.Proofs.Ythlfddbijlfgeaa

/- What spec.l03Any draws: a disk of few sectors and writes, right or not. -/
import Derived.Test.YtnfkecefkkdedaaY2
namespace Go.Proofs.Ytnfkecefkkdedaa
open Go.RowKit
open DM
attribute [local go_sem ↓] Go.wp_at_zero Go.wp_at_succ

/-- a small disk, right or not -/
def DaI (ss : List ByteArray) (cur : List Wr) : Prop := ss.length ≤ 6 ∧ cur.length ≤ 61 ∧ (∀ s ∈ ss, s.size ≤ 65) ∧ (∀ p ∈ cur, p.2.size ≤ 65)
theorem DkI.any {ss : List ByteArray} {cur : List Wr} (h : DkI ss cur 24) : DaI ss cur := by
  have hO := okB_iff.1 h.1
  exact ⟨h.2.1, by have := h.2.2; omega, fun s hs => by have := hO.2.2.2.1 s hs; omega, fun p hp => by have := (hO.2.2.2.2 p hp).2.2; omega⟩
theorem DaI.set {ss : List ByteArray} {cur : List Wr} (h : DaI ss cur) (m : Nat) {t : ByteArray} (ht : t.size ≤ 65) : DaI (ss.set m t) cur := ⟨by rw [List.length_set]; exact h.1, h.2.1, fun s hs => by
  rcases List.mem_or_eq_of_mem_set hs with h1 | rfl
  · exact h.2.2.1 s h1
  · exact ht, h.2.2.2⟩
theorem DaI.app {ss : List ByteArray} {cur : List Wr} (h : DaI ss cur) (hl : cur.length ≤ 60) (x : Int) {t : ByteArray} (ht : t.size ≤ 65) : DaI ss (cur ++ [(x, t)]) := ⟨h.1, by simp; omega, h.2.2.1, fun p hp => by
  rcases List.mem_append.1 hp with h1 | h1
  · exact h.2.2.2 p h1
  · rw [List.mem_singleton.1 h1]; exact ht⟩
theorem DaI.none {ss : List ByteArray} {cur : List Wr} (h : DaI ss cur) : DaI [] cur := ⟨by simp, h.2.1, fun s hs => (by cases hs), h.2.2.2⟩
theorem longB_size (n : Nat) (x : UInt8) : (longB n x).size = n := by simp [longB, ByteArray.size]
theorem own_not {w : World} {base gs c1 c2 : Nat} {a2 : Option Addr} {ss : List ByteArray} {cur : List Wr} (h : DOwn w base (some ⟨gs, 0, none⟩) c1 a2 c2 ss cur) : (Value.slice a2 cur.length c2).ownBlock ≠ some gs := by
  rcases own_apart h.p h.s (by decide) with h1 | h1
  · rw [h1]; simp
  · exact h1
theorem own_zero {w : World} {b e sz n g c : Nat} {xs : List Value} (h : w.ownsRow b e sz (.slice (some ⟨g, 0, none⟩) n c) n xs) : w.ownsRow b e sz (.slice (some ⟨g, 0, none⟩) 0 c) 0 [] := by
  refine ⟨by simp, ?_⟩
  rcases h.2 with ⟨hv, _⟩ | ⟨g', cap, cur, hv, hb, hg, _, hm, hs, _⟩
  · cases hv
  · cases hv
    exact Or.inr ⟨g, c, cur, rfl, hb, hg, Nat.zero_le _, hm, hs, by simp⟩
theorem DS.callB {w0 : World} {g : Nat} {a : Option Addr} {len cap B : Nat} {W W' : World} (h : DS w0 g a len cap W) (hb : Below B W W') (hB : w0.heap.size ≤ B) (hg : g < w0.heap.size) (hcode : ∀ b off, a = some ⟨b, off, none⟩ → 0 < len → b < w0.heap.size) : DS w0 g a len cap W' :=
  ⟨h.cur.belowB hb (by omega) (fun b off e h0 => Nat.lt_of_lt_of_le (hcode b off e h0) hB), grown_belowB h.gr hb hB⟩
/-- how much room is left, by the box -/
def lenAt (X : Nat) (w : World) : Nat := match w.cell? ⟨X, 1, none⟩ with
  | some (.slice _ n _) => 61 - n
  | _ => 0
theorem blk27_set {w : World} {X : Nat} {v : Value} (h : ∃ cs, w.heap[X]? = some (.cells cs 27 (0, 0))) : ∃ cs, (w.setCell ⟨X, 1, none⟩ v).heap[X]? = some (.cells cs 27 (0, 0)) := by
  obtain ⟨cs, h⟩ := h
  have hl : X < w.heap.size := by
    rcases Nat.lt_or_ge X w.heap.size with h1 | h1
    · exact h1
    · rw [Array.getElem?_eq_none h1] at h; cases h
  have hx : w.heap[X]'hl = .cells cs 27 (0, 0) := by rw [Array.getElem?_eq_getElem hl] at h; exact Option.some.inj h
  exact ⟨cs.setIfInBounds 1 v, by simp [World.setCell, Array.getElem_modify, hl, hx]⟩
/-- what is told of l03Any's answer -/
def AnQ (w : World) (g : Nat) (a : Option Addr) (len cap : Nat) (e : Ending) (w' : World) : Prop := ∃ (ss : List ByteArray) (cur : List Wr) (b1 : Option Addr) (d1 : Nat) (b2 : Option Addr) (d2 : Nat), e = .returned (.agg #[.slice b1 ss.length d1, .slice b2 cur.length d2]) ∧ DOwn w' w.heap.size b1 d1 b2 d2 ss cur ∧ DaI ss cur ∧ CurOk w' g a len cap ∧ w.grownBy w' (some g)

set_option maxRecDepth 100000 in
set_option maxHeartbeats 8000000 in
theorem sany68 (g len cap : Nat) (a : Option Addr) (hl : len ≤ 1048576) (w : World) (hc : CurOk w g a len cap) (hg : g < w.heap.size) (hcode : ∀ b off, a = some ⟨b, off, none⟩ → 0 < len → b < w.heap.size) :
    Calls Try.prog 68 #[.pointer (some ⟨g, 0, none⟩)] w fun e w' => AnQ w g a len cap e w' := by
  have HCODE : Hid (∀ b off, a = some ⟨b, off, none⟩ → 0 < len → b < w.heap.size) := hcode
  have HB12 : Hid (∀ (W : World), CurOk W g a len cap → Calls Try.prog 57 #[.pointer (some ⟨g, 0, none⟩), .int .i64 12] W fun e w' => ∃ x : Nat, x < 12 ∧ e = .returned (.int .i64 (x : Int)) ∧ CurOk w' g a len cap ∧ W.grownBy w' (some g)) := fun W h => below21 g len cap a 12 (by omega) (by omega) hl W h
  have HB60 : Hid (∀ (W : World), CurOk W g a len cap → Calls Try.prog 57 #[.pointer (some ⟨g, 0, none⟩), .int .i64 60] W fun e w' => ∃ x : Nat, x < 60 ∧ e = .returned (.int .i64 (x : Int)) ∧ CurOk w' g a len cap ∧ W.grownBy w' (some g)) := fun W h => below21 g len cap a 60 (by omega) (by omega) hl W h
  have HDK : Hid (∀ (W : World), DS w g a len cap W → Calls Try.prog 54 #[.pointer (some ⟨g, 0, none⟩)] W fun e w' => ∃ (ss : List ByteArray) (cur : List Wr) (b1 : Option Addr) (d1 : Nat) (b2 : Option Addr) (d2 : Nat), e = .returned (.agg #[.slice b1 ss.length d1, .slice b2 cur.length d2]) ∧ DOwn w' W.heap.size b1 d1 b2 d2 ss cur ∧ DkI ss cur 24 ∧ CurOk w' g a len cap ∧ W.grownBy w' (some g)) := fun W h => sdisk54 g len cap a hl W h.cur (Nat.lt_of_lt_of_le hg h.gr.size) (fun b off e h0 => Nat.lt_of_lt_of_le (hcode b off e h0) h.gr.size)
  have DS0 : Hid (DS w g a len cap w) := ⟨hc, grown_refl w _⟩
  clear hc hcode
  have YR0 : Hid (Bx (w.alloc (.cells #[.slice none 0 0, .slice none 0 0] 27)) w.heap.size (.slice none 0 0) (.slice none 0 0)) := Bx.new w _ _ 27
  have DS1 : Hid (DS w g a len cap (w.alloc (.cells #[.slice none 0 0, .slice none 0 0] 27))) := DS0.out.alloc hg _
  have z0 : w.heap.size + 1 ≤ (w.alloc (.cells #[.slice none 0 0, .slice none 0 0] 27)).heap.size := by simp
  go_enter Try.func68, Try.ntmps68
  go_wp2_with fail
  refine (HB12.out _ DS1.out.cur).mono ?_
  rintro e wa ⟨k, hk, rfl, hca, hga⟩
  have YRa : Hid (Bx wa w.heap.size (.slice none 0 0) (.slice none 0 0)) := YR0.out.keptG hga hg
  have DSa : Hid (DS w g a len cap wa) := DS1.out.step hca hga
  have za : w.heap.size + 1 ≤ wa.heap.size := Nat.le_trans z0 hga.size
  clear hca hga YR0 DS1 DS0 z0
  go_wp2_with fail
  refine (HB60.out _ DSa.out.cur).mono ?_
  rintro e wb ⟨x, hx, rfl, hcb, hgb⟩
  have YRb : Hid (Bx wb w.heap.size (.slice none 0 0) (.slice none 0 0)) := YRa.out.keptG hgb hg
  have DSb : Hid (DS w g a len cap wb) := DSa.out.step hcb hgb
  have zb : w.heap.size + 1 ≤ wb.heap.size := Nat.le_trans za hgb.size
  clear hcb hgb YRa DSa za
  go_wp2_with fail
  refine (HDK.out _ DSb.out).mono ?_
  rintro e wc ⟨ss, cur, c1, c2, c3, c4, rfl, hdc, hIc, hcc, hgc⟩
  have YRc : Hid (Bx wc w.heap.size (.slice none 0 0) (.slice none 0 0)) := YRb.out.keptG hgc hg
  have DSc : Hid (DS w g a len cap wc) := DSb.out.step hcc hgc
  have zc : w.heap.size + 1 ≤ wc.heap.size := Nat.le_trans zb hgc.size
  have HDc : Hid (DOwn wc wb.heap.size c1 c2 c3 c4 ss cur) := hdc
  have HI : Hid (DaI ss cur) := hIc.any
  have hs0 : 0 < ss.length ∧ ss.length ≤ 6 := ⟨(okB_iff.1 hIc.1).1, hIc.2.1⟩
  have hc24 : cur.length ≤ 24 := hIc.2.2
  clear hdc hIc hcc hgc YRb DSb zb
  go_wp2_with fail
  refine (copy64 ss cur c1 c3 c2 c4 _ (by omega) (by omega) _ HDc.out).mono ?_
  rintro e w2 ⟨x1, x2, x3, x4, rfl, hd2, hb2⟩
  have HU : Hid (∀ k, (Value.slice x1 ss.length x2).ownBlock = some k → w.heap.size + 1 ≤ k ∧ k < w2.heap.size) := World.ownsRow.lt (hd2.mono zc).s
  have HUP : Hid (∀ k, (Value.slice x3 cur.length x4).ownBlock = some k → w.heap.size + 1 ≤ k ∧ k < w2.heap.size) := World.ownsRow.lt (hd2.mono zc).p
  have YR2 : Hid (Bx (w2.alloc (.cells #[.slice x1 ss.length x2, .slice x3 cur.length x4] 27)) w.heap.size (.slice none 0 0) (.slice none 0 0)) := (YRc.out.keep hb2 YRc.out.lt).alloc _
  have YX2 : Hid (Bx (w2.alloc (.cells #[.slice x1 ss.length x2, .slice x3 cur.length x4] 27)) w2.heap.size (.slice x1 ss.length x2) (.slice x3 cur.length x4)) := Bx.new w2 _ _ 27
  have DX2 : Hid (DOwn (w2.alloc (.cells #[.slice x1 ss.length x2, .slice x3 cur.length x4] 27)) (w.heap.size + 1) x1 x2 x3 x4 ss cur) := (hd2.mono zc).below ((belowRefl w2).alloc (Nat.le_refl _) _)
  have DS2 : Hid (DS w g a len cap (w2.alloc (.cells #[.slice x1 ss.length x2, .slice x3 cur.length x4] 27))) := (DSc.out.call hg hb2).alloc hg _
  have HR2 : Hid (Bx w2 w.heap.size (.slice none 0 0) (.slice none 0 0)) := YRc.out.keep hb2 YRc.out.lt
  have HD2 : Hid (DOwn w2 (w.heap.size + 1) x1 x2 x3 x4 ss cur) := hd2.mono zc
  have HS2 : Hid (DS w g a len cap w2) := DSc.out.call hg hb2
  have HH2 : Hid ((w2.alloc (.cells #[.slice x1 ss.length x2, .slice x3 cur.length x4] 27)).heap[w2.heap.size]? = some (.cells #[.slice x1 ss.length x2, .slice x3 cur.length x4] 27 (0, 0))) := heap_alloc_new w2 _
  have hX : w.heap.size + 1 ≤ w2.heap.size := Nat.le_trans zc hb2.size
  obtain ⟨m, hm⟩ : ∃ m, m = x % ss.length := ⟨_, rfl⟩
  have hml : m < ss.length := by rw [hm]; exact Nat.mod_lt _ hs0.1
  have E0 : ((x : Int) % (ss.length : Int)) = (m : Int) := by rw [hm]; simp
  obtain ⟨y3, hy3⟩ : ∃ y3, y3 = x % 3 := ⟨_, rfl⟩
  have hy3l : y3 < 3 := by rw [hy3]; exact Nat.mod_lt _ (by omega)
  have E3 : ((x : Int) % 3) = (y3 : Int) := by rw [hy3]; simp
  obtain ⟨y9, hy9⟩ : ∃ y9, y9 = x % 9 := ⟨_, rfl⟩
  have hy9l : y9 < 9 := by rw [hy9]; exact Nat.mod_lt _ (by omega)
  have E9 : ((x : Int) % 9) = (y9 : Int) := by rw [hy9]; simp
  have hw63 : IntKind.i64.wrap (63 + (y3 : Int)) = 63 + (y3 : Int) := by rw [IntKind.wrap_i64]; omega
  have hw59 : IntKind.i64.wrap (59 + (y3 : Int)) = 59 + (y3 : Int) := by rw [IntKind.wrap_i64]; omega
  have hw9 : IntKind.i64.wrap ((y9 : Int) - 1) = (y9 : Int) - 1 := by rw [IntKind.wrap_i64]; omega
  have hfn : ¬ (ss.length : Int) = 0 := by omega
  have hne : ¬ ss = [] := fun e => by rw [e] at hs0; simp at hs0
  have T0 : (x : Int).tmod (ss.length : Int) = (m : Int) := by rw [Int.tmod_eq_emod_of_nonneg (by omega)]; exact E0
  have T3 : (x : Int).tmod 3 = (y3 : Int) := by rw [Int.tmod_eq_emod_of_nonneg (by omega)]; exact E3
  have T9 : (x : Int).tmod 9 = (y9 : Int) := by rw [Int.tmod_eq_emod_of_nonneg (by omega)]; exact E9
  obtain ⟨LA, hLA⟩ : ∃ LA, LA = longB (63 + y3) 97 := ⟨_, rfl⟩
  obtain ⟨LB, hLB⟩ : ∃ LB, LB = longB (63 + y3) 98 := ⟨_, rfl⟩
  have HLA : Hid (∀ W : World, Calls Try.prog 96 #[.int .i64 (63 + (y3 : Int)), .int .u8 97] W fun e w' => e = .returned (.string LA) ∧ Below W.heap.size W w') := fun W => by
    have h := long84 (63 + y3) 97 (by omega) W
    rw [← hLA] at h
    exact h
  have HLB : Hid (∀ W : World, Calls Try.prog 96 #[.int .i64 (63 + (y3 : Int)), .int .u8 98] W fun e w' => e = .returned (.string LB) ∧ Below W.heap.size W w') := fun W => by
    have h := long84 (63 + y3) 98 (by omega) W
    rw [← hLB] at h
    exact h
  have HLZ : Hid (LA.size ≤ 65) := by show _ ≤ _; rw [hLA, longB_size]; omega
  have HLY : Hid (LB.size ≤ 65) := by show _ ≤ _; rw [hLB, longB_size]; omega
  clear hLA hLB hm hy3 hy9 hd2 hb2 zc HDc YRc DSc
  by_cases h0 : k = 0
  · have g0 := YX2.out.c0
    go_wp2
    generalize hW3 : w2.alloc (.cells #[.slice x1 ss.length x2, .slice x3 cur.length x4] 27) = w3 at *
    clear hW3
    generalize w2.heap.size = X at *
    obtain rfl : k = 0 := by omega
    obtain ⟨gs, rfl, hbg, hgl⟩ := own_form DX2.out.s (by omega)
    have hgX : gs < X := (HU.out gs rfl).2
    have hml : m < (scs ss).length := by rw [scs_len]; omega
    have hm0 : (0 : Int) ≤ (m : Int) := by omega
    have hmn : (m : Int) < (ss.length : Int) := by omega
    have HS3 : Hid (Bx w3.drew X (.slice (some ⟨gs, 0, none⟩) ss.length x2) (.slice x3 cur.length x4)) := YX2.out.drew
    have n2 : gs ≠ X := by omega
    have n1 : gs ≠ w.heap.size := by omega
    refine wp_region_held_drew (S := fun w' => w'.cell? ⟨X, 0, none⟩ = some (.slice (some ⟨gs, 0, none⟩) ss.length x2)) (by kernel_rfl) HS3.out.c0 (fun hHeld => ?_)
    (refine wpAnyH_take (i := 0) (v := ?_) rfl (by kernel_rfl) (by kernel_rfl) (by kernel_rfl) (fun _ _ _ h => h) (Or.inl ⟨by rfl, ?_⟩) (by assumption) ?_; rotate_left; (focus (intro w hSw; (try dsimp only at hSw); go_simp; (try with_reducible rfl); done)); simp only [Act.put, List.getElem_toArray, List.getElem_cons_zero, List.setIfInBounds_toArray, List.set_cons_zero, List.set_cons_succ])
    (refine wpAnyH_take (i := 1) (v := ?_) rfl (by kernel_rfl) (by kernel_rfl) (by kernel_rfl) (fun _ _ _ h => h) (Or.inl ⟨by rfl, ?_⟩) (by assumption) ?_; rotate_left; (focus (intro w hSw; (try dsimp only at hSw); go_simp; (try with_reducible rfl); done)); simp only [Act.put, List.getElem_toArray, List.getElem_cons_zero, List.getElem_cons_succ, List.setIfInBounds_toArray, List.set_cons_zero, List.set_cons_succ])
    (refine wpAnyH_take (i := 2) (v := ?_) rfl (by kernel_rfl) (by kernel_rfl) (by kernel_rfl) (fun _ _ _ h => h) (Or.inl ⟨by rfl, ?_⟩) (by assumption) ?_; rotate_left; (focus (intro w hSw; (try dsimp only at hSw); go_simp; (try with_reducible rfl); done)); simp only [Act.put, List.getElem_toArray, List.getElem_cons_zero, List.getElem_cons_succ, List.setIfInBounds_toArray, List.set_cons_zero, List.set_cons_succ])
    (refine wpAnyH_take (i := 3) (v := ?_) rfl (by kernel_rfl) (by kernel_rfl) (by kernel_rfl) (fun _ _ _ h => h) (Or.inl ⟨by rfl, ?_⟩) (by assumption) ?_; rotate_left; (focus (intro w hSw; (try dsimp only at hSw); go_simp; (try with_reducible rfl); done)); simp only [Act.put, List.getElem_toArray, List.getElem_cons_zero, List.getElem_cons_succ, List.setIfInBounds_toArray, List.set_cons_zero, List.set_cons_succ])
    (refine wpAnyH_take (i := 4) (v := ?_) rfl (by kernel_rfl) (by kernel_rfl) (by kernel_rfl) (fun _ _ _ h => h) (Or.inl ⟨by rfl, ?_⟩) (by assumption) ?_; rotate_left; (focus (intro w hSw; (try dsimp only at hSw); go_simp; (try with_reducible rfl); done)); simp only [Act.put, List.getElem_toArray, List.getElem_cons_zero, List.getElem_cons_succ, List.setIfInBounds_toArray, List.set_cons_zero, List.set_cons_succ])
    (refine wpAnyH_take (i := 5) (v := ?_) rfl (by kernel_rfl) (by kernel_rfl) (by kernel_rfl) (fun _ _ _ h => h) (Or.inl ⟨by rfl, ?_⟩) (by assumption) ?_; rotate_left; (focus (intro w hSw; (try dsimp only at hSw); go_simp; (try with_reducible rfl); done)); simp only [Act.put, List.getElem_toArray, List.getElem_cons_zero, List.getElem_cons_succ, List.setIfInBounds_toArray, List.set_cons_zero, List.set_cons_succ])
    (refine wpAnyH_take (i := 6) (v := ?_) rfl (by kernel_rfl) (by kernel_rfl) (by kernel_rfl) (fun _ _ _ h => h) (Or.inl ⟨by rfl, ?_⟩) (by assumption) ?_; rotate_left; (focus (intro w hSw; (try dsimp only at hSw); go_simp; (try with_reducible rfl); done)); simp only [Act.put, List.getElem_toArray, List.getElem_cons_zero, List.getElem_cons_succ, List.setIfInBounds_toArray, List.set_cons_zero, List.set_cons_succ])
    (refine wpAnyH_take (i := 7) (v := ?_) rfl (by kernel_rfl) (by kernel_rfl) (by kernel_rfl) (fun _ _ _ h => h) (Or.inl ⟨by rfl, ?_⟩) (by assumption) ?_; rotate_left; (focus (intro w hSw; (try dsimp only at hSw); go_simp; (try with_reducible rfl); done)); simp only [Act.put, List.getElem_toArray, List.getElem_cons_zero, List.getElem_cons_succ, List.setIfInBounds_toArray, List.set_cons_zero, List.set_cons_succ])
    (refine wpAnyH_take (i := 8) (v := ?_) rfl (by kernel_rfl) (by kernel_rfl) (by kernel_rfl) (fun _ _ _ h => h) (Or.inl ⟨by rfl, ?_⟩) (by assumption) ?_; rotate_left; (focus (intro w hSw; (try dsimp only at hSw); go_simp; (try with_reducible rfl); done)); simp only [Act.put, List.getElem_toArray, List.getElem_cons_zero, List.getElem_cons_succ, List.setIfInBounds_toArray, List.set_cons_zero, List.set_cons_succ])
    (refine wpAnyH_take (i := 9) (v := ?_) rfl (by kernel_rfl) (by kernel_rfl) (by kernel_rfl) (fun _ _ _ h => h) (Or.inl ⟨by rfl, ?_⟩) (by assumption) ?_; rotate_left; (focus (intro w hSw; (try dsimp only at hSw); go_simp; (try with_reducible rfl); done)); simp only [Act.put, List.getElem_toArray, List.getElem_cons_zero, List.getElem_cons_succ, List.setIfInBounds_toArray, List.set_cons_zero, List.set_cons_succ])
    refine wpAnyH_ready (rs := [10]) (by kernel_rfl) (by simp) ?_
    refine AllReadyH.cons rfl (fun K hK => ?_) AllReadyH.nil
    go_simp
    go_wp2_with fail
    refine (HLA.out _).mono ?_
    rintro e w4 ⟨rfl, hb4'⟩
    have hb4 : Below w3.heap.size w3 w4 := undrew hb4'
    have YR4 : Hid (Bx w4 w.heap.size (.slice none 0 0) (.slice none 0 0)) := YR2.out.keep hb4 YR2.out.lt
    have YX4 : Hid (Bx w4 X (.slice (some ⟨gs, 0, none⟩) ss.length x2) (.slice x3 cur.length x4)) := YX2.out.keep hb4 YX2.out.lt
    have DX4 : Hid (DOwn w4 (w.heap.size + 1) (some ⟨gs, 0, none⟩) x2 x3 x4 ss cur) := DX2.out.below hb4
    have DS4 : Hid (DS w g a len cap w4) := DS2.out.call hg hb4
    clear hb4 hb4'
    go_wp2_with fail
    refine hK.out _ _ YX4.out.c0 (fun hHeld4 => ?_)
    clear hK K
    (refine wpAnyH_take (i := 11) (v := ?_) rfl (by kernel_rfl) (by kernel_rfl) (by kernel_rfl) (fun _ _ _ h => h) (Or.inl ⟨by rfl, ?_⟩) (by assumption) ?_; rotate_left; (focus (intro w hSw; (try dsimp only at hSw); go_simp; (try with_reducible rfl); done)); simp only [Act.put, List.getElem_toArray, List.getElem_cons_zero, List.getElem_cons_succ, List.setIfInBounds_toArray, List.set_cons_zero, List.set_cons_succ])
    have cq : w4.cell? ⟨gs, m, none⟩ = some ((scs ss)[m]'hml) := by rw [World.ownsRow.cellAt DX4.out.s m (by omega)]; simp
    have cf : w4.frozen? ⟨gs, m, none⟩ = false := World.ownsRow.frozenAt DX4.out.s m
    have st := World.ownsRow.stored DX4.out.s m (.string LA)
    have HP4 : Hid (POwn w4 (w.heap.size + 1) (.slice x3 cur.length x4) cur) := DX4.out.p
    have HAP : Hid ((Value.slice x3 cur.length x4).ownBlock ≠ some gs) := own_not DX4.out
    have DX5 : Hid (DOwn (w4.setCell ⟨gs, m, none⟩ (.string LA)) (w.heap.size + 1) (some ⟨gs, 0, none⟩) x2 x3 x4 (ss.set m LA) cur) := ⟨by rw [List.length_set]; show World.ownsRow _ _ _ _ _ _ _; rw [List.length_set, scs_set]; exact st.1, own_set HP4.out HAP.out⟩
    have YR5 : Hid (Bx (w4.setCell ⟨gs, m, none⟩ (.string LA)) w.heap.size (.slice none 0 0) (.slice none 0 0)) := YR4.out.setO n1 _
    have YX5 : Hid (Bx (w4.setCell ⟨gs, m, none⟩ (.string LA)) X (.slice (some ⟨gs, 0, none⟩) (ss.set m LA).length x2) (.slice x3 cur.length x4)) := by show Bx _ _ _ _; rw [List.length_set]; exact YX4.out.setO n2 _
    have DS5 : Hid (DS w g a len cap (w4.setCell ⟨gs, m, none⟩ (.string LA))) := DS4.out.set hg HCODE.out _ _ (by show w.heap.size ≤ gs; omega)
    have HS5 : Hid ((w4.setCell ⟨gs, m, none⟩ (.string LA)).cell? ⟨X, 0, none⟩ = some (.slice (some ⟨gs, 0, none⟩) ss.length x2)) := (YX4.out.setO n2 _).c0
    clear st
    refine wpAnyH_ready (rs := [12]) (by kernel_rfl) (by simp) ?_
    refine AllReadyH.cons rfl (fun K hK => ?_) AllReadyH.nil
    go_simp
    refine hK.out _ _ HS5.out (fun hHeld5 => ?_)
    clear hK K
    refine wpAnyH_done (by kernel_rfl) ?_ _
    clear cq cf hHeld hHeld4 hHeld5 g0
    obtain ⟨s2, hs2⟩ : ∃ s2, s2 = ss.set m LA := ⟨_, rfl⟩
    rw [← hs2] at DX5 YX5
    have HI5 : Hid (DaI s2 cur) := by rw [hs2]; exact HI.out.set m HLZ.out
    have hss : ss.length = s2.length := by rw [hs2]; simp
    have HSS : Hid (ss.length = s2.length) := hss
    clear hs2 hss
    generalize w4.setCell ⟨gs, m, none⟩ (.string LA) = W5 at *
    have q0 := YX5.out.c0
    have q1 := YX5.out.c1
    have r0 := YR5.out.c0
    have r1 := YR5.out.c1
    have rf := YR5.out.fz
    have V9 : Hid (Bx ((W5.setCell ⟨w.heap.size, 0, none⟩ (.slice (some ⟨gs, 0, none⟩) s2.length x2)).setCell ⟨w.heap.size, 1, none⟩ (.slice x3 cur.length x4)) w.heap.size (.slice (some ⟨gs, 0, none⟩) s2.length x2) (.slice x3 cur.length x4)) := (YR5.out.set0 _).set1 _
    have v0 := V9.out.c0
    have v1 := V9.out.c1
    have DS9 : Hid (DS w g a len cap ((W5.setCell ⟨w.heap.size, 0, none⟩ (.slice (some ⟨gs, 0, none⟩) s2.length x2)).setCell ⟨w.heap.size, 1, none⟩ (.slice x3 cur.length x4))) := (DS5.out.set hg HCODE.out _ _ (by show w.heap.size ≤ w.heap.size; omega)).set hg HCODE.out _ _ (by show w.heap.size ≤ w.heap.size; omega)
    go_wp2
    refine bodyPost_ret (v := .agg #[.slice (some ⟨gs, 0, none⟩) s2.length x2, .slice x3 cur.length x4]) (by simp [results, Try.results68, go_sem, v0, v1]) rfl ⟨s2, cur, (some ⟨gs, 0, none⟩), x2, x3, x4, rfl, ⟨?_, ?_⟩, HI5.out, DS9.out.cur, DS9.out.gr⟩
    · exact ((DX5.out.s.set (by show w.heap.size < _; omega) _).set (by show w.heap.size < _; omega) _).mono (by omega)
    · exact ((DX5.out.p.set (by show w.heap.size < _; omega) _).set (by show w.heap.size < _; omega) _).mono (by omega)
  · by_cases h1 : k = 1
    · obtain rfl : k = 1 := by omega
      have g0 := YX2.out.c0
      have g1 := YX2.out.c1
      have HN0 : Hid (some w2.heap.size ≠ (Value.slice x3 cur.length x4).ownBlock) := fun e => by have := (HUP.out _ e.symm).2; omega
      go_wp2
      generalize hW3 : w2.alloc (.cells #[.slice x1 ss.length x2, .slice x3 cur.length x4] 27) = w3 at *
      clear hW3
      generalize w2.heap.size = X at *
      have hXl : X < w3.heap.size := YX2.out.lt
      go_region_law (first
        | (refine stepAppH 25 70 2 24 (.agg #[.int .i64 0, .string ByteArray.empty]) Try.underlying25 Try.info70 rfl (by decide) (by omega) (by rfl) _ _ (by rfl) (base := w.heap.size + 1) [.int .i64 ((y9 : Int) - 1), .string LB] (by rfl) (World.ownsRow.alloc (ownsBelow DX2.out.p HB4.out) _) (by rfl) (by exact heap_alloc_new w4 _) rfl (by simp [Value.oneCell']) (by omega) (by simp; omega) ?_; intro g' cap' w5 hown5 hb5 hg5; have Y5 := ((YX2.out.keep HB4.out YX2.out.lt).alloc (.cells #[.int .i64 ((y9 : Int) - 1), .string LB] 70)).keepG hg5 HN0.out; have o5 := Y5.c1; have of5 := Y5.fz; have ol5 := Y5.lt)
        | (go_simp; go_at_call 96; refine (HLB.out _).mono ?_; rintro e w4 ⟨rfl, hb4⟩; have HB4 : Hid (Below w3.heap.size w3 w4) := undrew hb4; have o4 := (YX2.out.keep HB4.out YX2.out.lt).c1; have ol4 := (YX2.out.keep HB4.out YX2.out.lt).lt; have hz4 : w.heap.size + 1 ≤ w4.heap.size := by have := HB4.out.size; omega))
      all_goals
        have HX5 : Hid (w5.heap[X]? = some (.cells #[.slice x1 ss.length x2, .slice x3 cur.length x4] 27 (0, 0))) := by
          have h1 := (HB4.out.block X hXl).trans HH2.out
          have h2 : (w4.alloc (.cells #[.int .i64 ((y9 : Int) - 1), .string LB] 70)).heap[X]? = _ := (Below.heap_alloc _ _ _ (Nat.lt_of_lt_of_le hXl HB4.out.size)).trans h1
          exact (hg5.block _ (Nat.lt_of_lt_of_le (Nat.lt_of_lt_of_le hXl HB4.out.size) (by simp)) HN0.out).trans h2
        have DX6 : Hid (DOwn (w5.setCell ⟨X, 1, none⟩ (.slice (some ⟨g', 0, none⟩) (cur.length + 1) cap')) (w.heap.size + 1) x1 x2 (some ⟨g', 0, none⟩) cap' ss (cur ++ [((y9 : Int) - 1, LB)])) := by
          refine ⟨?_, ?_⟩
          · have q1 := World.ownsRow.alloc (ownsBelow DX2.out.s HB4.out) (.cells #[.int .i64 ((y9 : Int) - 1), .string LB] 70)
            have q2 := World.ownsRow.alloc (ownsBelow DX2.out.p HB4.out) (.cells #[.int .i64 ((y9 : Int) - 1), .string LB] 70)
            have q3 := World.ownsRow.kept q1 hg5 (own_apart q1 q2 (by decide))
            exact own_set q3 (blk_ne q3 HX5.out (by decide))
          · have h := own_set (u := (.slice (some ⟨g', 0, none⟩) (cur.length + 1) cap')) (k := 1) hown5 (blk_ne hown5 HX5.out (by decide))
            show World.ownsRow _ _ _ _ _ _ _
            rw [pcs_app, show pcs [((y9 : Int) - 1, LB)] = [.int .i64 ((y9 : Int) - 1), .string LB] from rfl]
            simpa using h
        have HB5 : Hid (Below (w.heap.size + 1) w3 w5) := ((HB4.out.mono (by omega)).alloc hz4 _).trans hb5
        have YR6 : Hid (Bx (w5.setCell ⟨X, 1, none⟩ (.slice (some ⟨g', 0, none⟩) (cur.length + 1) cap')) w.heap.size (.slice none 0 0) (.slice none 0 0)) := (YR2.out.keep HB5.out (by omega)).setO (by show X ≠ _; omega) _
        have YX6 : Hid (Bx (w5.setCell ⟨X, 1, none⟩ (.slice (some ⟨g', 0, none⟩) (cur.length + 1) cap')) X (.slice x1 ss.length x2) (.slice (some ⟨g', 0, none⟩) (cur.length + 1) cap')) := Y5.set1 _
        have DS6 : Hid (DS w g a len cap (w5.setCell ⟨X, 1, none⟩ (.slice (some ⟨g', 0, none⟩) (cur.length + 1) cap'))) := (DS2.out.callB HB5.out (by omega) hg HCODE.out).set hg HCODE.out _ _ (by show w.heap.size ≤ X; omega)
        have HL6 : Hid ((cur ++ [((y9 : Int) - 1, LB)]).length = cur.length + 1) := by show _ = _; simp
        clear hown5 hb5 hg5 Y5 o5 of5 ol5 o4 ol4 g0 g1
        generalize (w5.setCell ⟨X, 1, none⟩ (.slice (some ⟨g', 0, none⟩) (cur.length + 1) cap')) = W6 at *
        have q0 := YX6.out.c0
        have q1 := YX6.out.c1
        have r0 := YR6.out.c0
        have r1 := YR6.out.c1
        have rf := YR6.out.fz
        have V9 : Hid (Bx ((W6.setCell ⟨w.heap.size, 0, none⟩ (.slice x1 ss.length x2)).setCell ⟨w.heap.size, 1, none⟩ (.slice (some ⟨g', 0, none⟩) (cur.length + 1) cap')) w.heap.size (.slice x1 ss.length x2) (.slice (some ⟨g', 0, none⟩) (cur.length + 1) cap')) := (YR6.out.set0 _).set1 _
        have v0 := V9.out.c0
        have v1 := V9.out.c1
        have DS9 : Hid (DS w g a len cap ((W6.setCell ⟨w.heap.size, 0, none⟩ (.slice x1 ss.length x2)).setCell ⟨w.heap.size, 1, none⟩ (.slice (some ⟨g', 0, none⟩) (cur.length + 1) cap'))) := (DS6.out.set hg HCODE.out _ _ (by show w.heap.size ≤ w.heap.size; omega)).set hg HCODE.out _ _ (by show w.heap.size ≤ w.heap.size; omega)
        go_wp2
        refine bodyPost_ret (v := .agg #[.slice x1 ss.length x2, .slice (some ⟨g', 0, none⟩) (cur.length + 1) cap']) (by simp [results, Try.results68, go_sem, v0, v1]) rfl ⟨ss, (cur ++ [((y9 : Int) - 1, LB)]), x1, x2, (some ⟨g', 0, none⟩), cap', by rw [HL6.out], ⟨?_, ?_⟩, (HI.out.app (by omega) _ HLY.out), DS9.out.cur, DS9.out.gr⟩
        · exact ((DX6.out.s.set (by show w.heap.size < _; omega) _).set (by show w.heap.size < _; omega) _).mono (by omega)
        · exact ((DX6.out.p.set (by show w.heap.size < _; omega) _).set (by show w.heap.size < _; omega) _).mono (by omega)
    · by_cases h2 : k = 2
      · obtain rfl : k = 2 := by omega
        have g0 := YX2.out.c0
        have g1 := YX2.out.c1
        have HN0 : Hid (some w2.heap.size ≠ (Value.slice x3 cur.length x4).ownBlock) := fun e => by have := (HUP.out _ e.symm).2; omega
        go_wp2
        generalize hW3 : w2.alloc (.cells #[.slice x1 ss.length x2, .slice x3 cur.length x4] 27) = w3 at *
        clear hW3
        generalize w2.heap.size = X at *
        have HLZ0 : Hid ((longB 64 0).size ≤ 65) := by show _ ≤ _; rw [longB_size]; omega
        have HZ97 : Hid (∀ W : World, Calls Try.prog 97 #[] W fun e w' => e = .returned (.string (longB 64 0)) ∧ Below W.heap.size W w') := fun W => zero71 W
        generalize longB 64 0 = L0 at *
        go_loopw [] (fun wr => ∃ (cu : List Wr) (y5 : Option Addr) (y6 : Nat), cu.length ≤ 61 ∧ Hid (DaI ss cu) ∧ Hid (Bx wr w.heap.size (.slice none 0 0) (.slice none 0 0)) ∧ Hid (Bx wr X (.slice x1 ss.length x2) (.slice y5 cu.length y6)) ∧ Hid (DOwn wr (w.heap.size + 1) x1 x2 y5 y6 ss cu) ∧ Hid (DS w g a len cap wr) ∧ Hid (∃ cs, wr.heap[X]? = some (.cells cs 27 (0, 0))) ∧ Hid (some X ≠ (Value.slice y5 cu.length y6).ownBlock)) (fun wr => lenAt X wr)
        case atStart => exact ⟨cur, x3, x4, by omega, HI, YR2, YX2, DX2, DS2, ⟨_, HH2.out⟩, HN0⟩
        case round =>
          clear g0 g1 YR2 YX2 DX2 DS2 HN0 HH2
          obtain ⟨cu, y5, y6, hcu, HIr, YRr, YXr, DXr, DSr, HHr, HNr⟩ := hrel
          have g0 := YXr.out.c0
          have g1 := YXr.out.c1
          have hXl : X < wr.heap.size := YXr.out.lt
          by_cases hlt : (cu.length : Int) < 59 + (y3 : Int)
          · have hc60 : cu.length ≤ 60 := by omega
            go_wp2
            go_region_law (first
              | (refine stepAppH 25 70 2 24 (.agg #[.int .i64 0, .string ByteArray.empty]) Try.underlying25 Try.info70 rfl (by decide) (by omega) (by rfl) _ _ (by rfl) (base := w.heap.size + 1) [.int .i64 0, .string L0] (by rfl) (World.ownsRow.alloc (ownsBelow DXr.out.p HB4.out) _) (by rfl) (by exact heap_alloc_new w4 _) rfl (by simp [Value.oneCell']) (by omega) (by simp; omega) ?_; intro g' cap' w5 hown5 hb5 hg5; have Y5 := ((YXr.out.keep HB4.out YXr.out.lt).alloc (.cells #[.int .i64 0, .string L0] 70)).keepG hg5 HNr.out; have o5 := Y5.c1; have of5 := Y5.fz; have ol5 := Y5.lt)
              | (go_simp; go_at_call 97; refine (HZ97.out _).mono ?_; rintro e w4 ⟨rfl, hb4⟩; have HB4 : Hid (Below wr.heap.size wr w4) := undrew hb4; have o4 := (YXr.out.keep HB4.out YXr.out.lt).c1; have ol4 := (YXr.out.keep HB4.out YXr.out.lt).lt; have hz4 : w.heap.size + 1 ≤ w4.heap.size := by have := HB4.out.size; omega))
            all_goals
              have HX5 : Hid (∃ cs, w5.heap[X]? = some (.cells cs 27 (0, 0))) := by
                obtain ⟨cs, hcs⟩ := HHr.out
                have h1 := (HB4.out.block X hXl).trans hcs
                have h2 : (w4.alloc (.cells #[.int .i64 0, .string L0] 70)).heap[X]? = _ := (Below.heap_alloc _ _ _ (Nat.lt_of_lt_of_le hXl HB4.out.size)).trans h1
                exact ⟨cs, (hg5.block _ (Nat.lt_of_lt_of_le (Nat.lt_of_lt_of_le hXl HB4.out.size) (by simp)) HNr.out).trans h2⟩
              have HG6 : Hid (some X ≠ (Value.slice (some ⟨g', 0, none⟩) (cu ++ [((0 : Int), L0)]).length cap').ownBlock) := by
                obtain ⟨cs, hcs⟩ := HX5.out
                exact fun e => (blk_ne hown5 hcs (by decide)) e.symm
              have DX6 : Hid (DOwn (w5.setCell ⟨X, 1, none⟩ (.slice (some ⟨g', 0, none⟩) (cu.length + 1) cap')) (w.heap.size + 1) x1 x2 (some ⟨g', 0, none⟩) cap' ss (cu ++ [((0 : Int), L0)])) := by
                obtain ⟨cs, hcs⟩ := HX5.out
                refine ⟨?_, ?_⟩
                · have q1 := World.ownsRow.alloc (ownsBelow DXr.out.s HB4.out) (.cells #[.int .i64 0, .string L0] 70)
                  have q2 := World.ownsRow.alloc (ownsBelow DXr.out.p HB4.out) (.cells #[.int .i64 0, .string L0] 70)
                  have q3 := World.ownsRow.kept q1 hg5 (own_apart q1 q2 (by decide))
                  exact own_set q3 (blk_ne q3 hcs (by decide))
                · have h := own_set (u := (.slice (some ⟨g', 0, none⟩) (cu.length + 1) cap')) (k := 1) hown5 (blk_ne hown5 hcs (by decide))
                  show World.ownsRow _ _ _ _ _ _ _
                  rw [pcs_app, show pcs [((0 : Int), L0)] = [.int .i64 0, .string L0] from rfl]
                  simpa using h
              have HB5 : Hid (Below (w.heap.size + 1) wr w5) := ((HB4.out.mono (by omega)).alloc hz4 _).trans hb5
              have YR6 : Hid (Bx (w5.setCell ⟨X, 1, none⟩ (.slice (some ⟨g', 0, none⟩) (cu.length + 1) cap')) w.heap.size (.slice none 0 0) (.slice none 0 0)) := (YRr.out.keep HB5.out (by omega)).setO (by show X ≠ _; omega) _
              have YX6 : Hid (Bx (w5.setCell ⟨X, 1, none⟩ (.slice (some ⟨g', 0, none⟩) (cu.length + 1) cap')) X (.slice x1 ss.length x2) (.slice (some ⟨g', 0, none⟩) (cu ++ [((0 : Int), L0)]).length cap')) := by
                have h := Y5.set1 (.slice (some ⟨g', 0, none⟩) (cu.length + 1) cap')
                show Bx _ _ _ _
                simpa using h
              have DS6 : Hid (DS w g a len cap (w5.setCell ⟨X, 1, none⟩ (.slice (some ⟨g', 0, none⟩) (cu.length + 1) cap'))) := (DSr.out.callB HB5.out (by omega) hg HCODE.out).set hg HCODE.out _ _ (by show w.heap.size ≤ X; omega)
              have HH6 : Hid (∃ cs, (w5.setCell ⟨X, 1, none⟩ (.slice (some ⟨g', 0, none⟩) (cu.length + 1) cap')).heap[X]? = some (.cells cs 27 (0, 0))) := blk27_set HX5.out
              have HI6 : Hid (DaI ss (cu ++ [((0 : Int), L0)])) := HIr.out.app hc60 _ HLZ0.out
              have M1 : Hid (lenAt X wr = 61 - cu.length) := by show _ = _; simp [lenAt, g1]
              have M2 : Hid (lenAt X (w5.setCell ⟨X, 1, none⟩ (.slice (some ⟨g', 0, none⟩) (cu.length + 1) cap')) = 61 - (cu.length + 1)) := by show _ = _; simp [lenAt, (Y5.set1 (.slice (some ⟨g', 0, none⟩) (cu.length + 1) cap')).c1]
              have hn61 : (cu ++ [((0 : Int), L0)]).length ≤ 61 := by simp; omega
              have HN61 : Hid ((cu ++ [((0 : Int), L0)]).length ≤ 61) := hn61
              clear hown5 hb5 hg5 Y5 o5 of5 ol5 o4 ol4 g0 g1 hn61
              go_wp2
              go_roundw
              case rel => exact ⟨(cu ++ [((0 : Int), L0)]), _, _, HN61.out, HI6, YR6, YX6, DX6, DS6, HH6, HG6⟩
              case measure => rw [M1.out, M2.out]; omega
          · clear g0 g1
            have q0 := YXr.out.c0
            have q1 := YXr.out.c1
            have r0 := YRr.out.c0
            have r1 := YRr.out.c1
            have rf := YRr.out.fz
            have V9 : Hid (Bx ((wr.setCell ⟨w.heap.size, 0, none⟩ (.slice x1 ss.length x2)).setCell ⟨w.heap.size, 1, none⟩ (.slice y5 cu.length y6)) w.heap.size (.slice x1 ss.length x2) (.slice y5 cu.length y6)) := (YRr.out.set0 _).set1 _
            have v0 := V9.out.c0
            have v1 := V9.out.c1
            have DS9 : Hid (DS w g a len cap ((wr.setCell ⟨w.heap.size, 0, none⟩ (.slice x1 ss.length x2)).setCell ⟨w.heap.size, 1, none⟩ (.slice y5 cu.length y6))) := (DSr.out.set hg HCODE.out _ _ (by show w.heap.size ≤ w.heap.size; omega)).set hg HCODE.out _ _ (by show w.heap.size ≤ w.heap.size; omega)
            go_wp2
            refine bodyPost_ret (v := .agg #[.slice x1 ss.length x2, .slice y5 cu.length y6]) (by simp [results, Try.results68, go_sem, v0, v1]) rfl ⟨ss, cu, x1, x2, y5, y6, rfl, ⟨?_, ?_⟩, HIr.out, DS9.out.cur, DS9.out.gr⟩
            · exact ((DXr.out.s.set (by show w.heap.size < _; omega) _).set (by show w.heap.size < _; omega) _).mono (by omega)
            · exact ((DXr.out.p.set (by show w.heap.size < _; omega) _).set (by show w.heap.size < _; omega) _).mono (by omega)
      · by_cases h3 : k = 3
        · obtain rfl : k = 3 := by omega
          obtain ⟨gs, rfl, hbg, hgl⟩ := own_form HD2.out.s (by omega)
          have g0 := YX2.out.c0
          have g1 := YX2.out.c1
          have gf := YX2.out.fz
          have YX3 : Hid (Bx (w2.alloc (.cells #[.slice (some ⟨gs, 0, none⟩) 0 x2, .slice x3 cur.length x4] 27)) w2.heap.size (.slice (some ⟨gs, 0, none⟩) 0 x2) (.slice x3 cur.length x4)) := Bx.new w2 _ _ 27
          have YR3 : Hid (Bx (w2.alloc (.cells #[.slice (some ⟨gs, 0, none⟩) 0 x2, .slice x3 cur.length x4] 27)) w.heap.size (.slice none 0 0) (.slice none 0 0)) := HR2.out.alloc _
          have DX3 : Hid (DOwn (w2.alloc (.cells #[.slice (some ⟨gs, 0, none⟩) 0 x2, .slice x3 cur.length x4] 27)) (w.heap.size + 1) (some ⟨gs, 0, none⟩) x2 x3 x4 [] cur) := ⟨World.ownsRow.alloc (own_zero HD2.out.s) _, World.ownsRow.alloc HD2.out.p _⟩
          have DS3 : Hid (DS w g a len cap (w2.alloc (.cells #[.slice (some ⟨gs, 0, none⟩) 0 x2, .slice x3 cur.length x4] 27))) := HS2.out.alloc hg _
          have h0x : (0 : Int) ≤ (x2 : Int) := by omega
          clear E0 E3 E9 T0 T3 T9 hw63 hw59 hw9
          have q0 := YX3.out.c0
          have q1 := YX3.out.c1
          have r0 := YR3.out.c0
          have r1 := YR3.out.c1
          have rf := YR3.out.fz
          have V9 : Hid (Bx (((w2.alloc (.cells #[.slice (some ⟨gs, 0, none⟩) 0 x2, .slice x3 cur.length x4] 27)).setCell ⟨w.heap.size, 0, none⟩ (.slice (some ⟨gs, 0, none⟩) 0 x2)).setCell ⟨w.heap.size, 1, none⟩ (.slice x3 cur.length x4)) w.heap.size (.slice (some ⟨gs, 0, none⟩) 0 x2) (.slice x3 cur.length x4)) := (YR3.out.set0 _).set1 _
          have v0 := V9.out.c0
          have v1 := V9.out.c1
          have DS9 : Hid (DS w g a len cap (((w2.alloc (.cells #[.slice (some ⟨gs, 0, none⟩) 0 x2, .slice x3 cur.length x4] 27)).setCell ⟨w.heap.size, 0, none⟩ (.slice (some ⟨gs, 0, none⟩) 0 x2)).setCell ⟨w.heap.size, 1, none⟩ (.slice x3 cur.length x4))) := (DS3.out.set hg HCODE.out _ _ (by show w.heap.size ≤ w.heap.size; omega)).set hg HCODE.out _ _ (by show w.heap.size ≤ w.heap.size; omega)
          go_wp2
          refine bodyPost_ret (v := .agg #[.slice (some ⟨gs, 0, none⟩) 0 x2, .slice x3 cur.length x4]) (by simp [results, Try.results68, go_sem, v0, v1]) rfl ⟨[], cur, (some ⟨gs, 0, none⟩), x2, x3, x4, rfl, ⟨?_, ?_⟩, HI.out.none, DS9.out.cur, DS9.out.gr⟩
          · exact ((DX3.out.s.set (by show w.heap.size < _; omega) _).set (by show w.heap.size < _; omega) _).mono (by omega)
          · exact ((DX3.out.p.set (by show w.heap.size < _; omega) _).set (by show w.heap.size < _; omega) _).mono (by omega)
        · have i0 : ¬ (k : Int) = 0 := by omega
          have i1 : ¬ (k : Int) = 1 := by omega
          have i2 : ¬ (k : Int) = 2 := by omega
          have i3 : ¬ (k : Int) = 3 := by omega
          have q0 := YX2.out.c0
          have q1 := YX2.out.c1
          have r0 := YR2.out.c0
          have r1 := YR2.out.c1
          have rf := YR2.out.fz
          have V9 : Hid (Bx (((w2.alloc (.cells #[.slice x1 ss.length x2, .slice x3 cur.length x4] 27)).setCell ⟨w.heap.size, 0, none⟩ (.slice x1 ss.length x2)).setCell ⟨w.heap.size, 1, none⟩ (.slice x3 cur.length x4)) w.heap.size (.slice x1 ss.length x2) (.slice x3 cur.length x4)) := (YR2.out.set0 _).set1 _
          have v0 := V9.out.c0
          have v1 := V9.out.c1
          have DS9 : Hid (DS w g a len cap (((w2.alloc (.cells #[.slice x1 ss.length x2, .slice x3 cur.length x4] 27)).setCell ⟨w.heap.size, 0, none⟩ (.slice x1 ss.length x2)).setCell ⟨w.heap.size, 1, none⟩ (.slice x3 cur.length x4))) := (DS2.out.set hg HCODE.out _ _ (by show w.heap.size ≤ w.heap.size; omega)).set hg HCODE.out _ _ (by show w.heap.size ≤ w.heap.size; omega)
          go_wp2
          refine bodyPost_ret (v := .agg #[.slice x1 ss.length x2, .slice x3 cur.length x4]) (by simp [results, Try.results68, go_sem, v0, v1]) rfl ⟨ss, cur, x1, x2, x3, x4, rfl, ⟨?_, ?_⟩, HI.out, DS9.out.cur, DS9.out.gr⟩
          · exact ((DX2.out.s.set (by show w.heap.size < _; omega) _).set (by show w.heap.size < _; omega) _).mono (by omega)
          · exact ((DX2.out.p.set (by show w.heap.size < _; omega) _).set (by show w.heap.size < _; omega) _).mono (by omega)
end Go.Proofs.Ytnfkecefkkdedaa

/- What impl.SectorText returns. -/
import Derived.Test.YtekjpoenbcnhdaaPb06
namespace Go.Proofs.Ytekjpoenbcnhdaa
open Go.RowKit
open DM
attribute [local go_sem ↓] Go.wp_at_zero Go.wp_at_succ

theorem fresh92 (w : World) : Lib.IsBuilder 99 5 w.heap.size w.heap.size (bv []) (w.alloc (.cells #[.pointer none, .slice none 0 0] 99)) :=
  Or.inl ⟨Nat.le_refl _, .slice none 0 0, heap_alloc_new w _, World.ownsRow_nil _ _ _ _, by simp [Value.ownBlock]⟩

theorem builder_below {w w' : World} {b : Nat} {bs : List Value} (h : Lib.IsBuilder 99 5 b b bs w) (hb : Below w.heap.size w w') : Lib.IsBuilder 99 5 b b bs w' := by
  have key : ∀ p, Lib.BuilderAt 99 5 b b p bs w → Lib.BuilderAt 99 5 b b p bs w' := fun p h => by
    have hlt := h.lt
    obtain ⟨hB, v, hbk, hown, hne⟩ := h
    exact ⟨hB, v, (hb.block b hlt).trans hbk, ownsBelow hown hb, hne⟩
  rcases h with h | h
  · exact Or.inl (key _ h)
  · exact Or.inr (key _ h)

set_option maxRecDepth 100000 in
set_option maxHeartbeats 2000000 in
theorem ist32 (ss : List ByteArray) (ps : List Wr) (f n : Int) (a1 a2 : Option Addr) (c1 c2 : Nat) (hf1 : -9223372036854775808 ≤ f) (hf2 : f ≤ 9223372036854775807) (hn : ss.length ≤ 1048576) (hm : ps.length ≤ 1048576) (hs : ∀ s ∈ ss, s.size ≤ 1048576) (hp : ∀ p ∈ ps, p.2.size ≤ 1048576) (w : World) (hsr : SRow w a1 ss) (hpr : PRow w a2 ps) :
    Calls Try.prog 76 #[.agg #[.slice a1 ss.length c1, .slice a2 ps.length c2], .int .i64 f, .int .i64 n] w fun e w' => e = .returned (.tuple #[.string (stT ss ps f n), .bool (stB ss f n)]) ∧ Below w.heap.size w w' := by
  have HS : Hid (SRow w a1 ss) := hsr
  have HP : Hid (PRow w a2 ps) := hpr
  have HLS : Hid (∀ s ∈ ss, s.size ≤ 1048576) := hs
  have HLP : Hid (∀ p ∈ ps, p.2.size ≤ 1048576) := hp
  have HLS2 : Hid (∀ s ∈ ss, s.size ≤ 1000000000) := fun s h => Nat.le_trans (hs s h) (by omega)
  have HLP2 : Hid (∀ p ∈ ps, p.2.size ≤ 1000000000) := fun p h => Nat.le_trans (hp p h) (by omega)
  clear hsr hpr hs hp
  by_cases hn0 : 0 ≤ n ∧ n ≤ 100
  · obtain ⟨m, rfl⟩ := Int.eq_ofNat_of_zero_le hn0.1
    have hm100 : m ≤ 100 := by omega
    have e1 : decide ((m : Int) < 0) = false := by simp
    have e2 : decide ((100 : Int) < (m : Int)) = false := by simp; omega
    have b0 : Hid (Below w.heap.size w ((w.alloc (.cells #[.slice a1 ss.length c1, .slice a2 ps.length c2] 27)).alloc (.cells #[.pointer none, .slice none 0 0] 99))) := ((belowRefl w).alloc (Nat.le_refl _) _).alloc (by simp) _
    have HI0 : Hid (Lib.IsBuilder 99 5 (w.heap.size + 1) (w.heap.size + 1) (bv (stx ss ps f 0)) ((w.alloc (.cells #[.slice a1 ss.length c1, .slice a2 ps.length c2] 27)).alloc (.cells #[.pointer none, .slice none 0 0] 99))) := by
      have h := fresh92 (w.alloc (.cells #[.slice a1 ss.length c1, .slice a2 ps.length c2] 27))
      rw [World.size_alloc] at h
      exact h
    go_enter Try.func76, Try.ntmps76
    go_wp2
    go_loopw [19] (fun t wr => ∃ (k : Nat), k ≤ m ∧ t = .int .i64 k ∧ Hid (∀ i, i < k → hasB (f + (i : Nat)) ss.length = true) ∧ Hid (Below (w.heap.size + 1) (w.alloc (.cells #[.slice a1 ss.length c1, .slice a2 ps.length c2] 27)) wr) ∧ Hid (Lib.IsBuilder 99 5 (w.heap.size + 1) (w.heap.size + 1) (bv (stx ss ps f k)) wr)) (fun t _ => m - (intOf t).toNat)
    case atStart => exact ⟨0, Nat.zero_le _, rfl, (fun i hi => by omega), (Below.refl _ _).alloc (by simp) _, HI0⟩
    case round =>
      clear HI0
      obtain ⟨k, hk, rfl, HA, HX, HI⟩ := hrel
      have HB : Hid (Below w.heap.size w wr) := ((belowRefl w).alloc (Nat.le_refl _) _).trans (HX.out.mono (by omega))
      obtain ⟨g0, g1, z0⟩ := boxed HX.out
      by_cases hlt : k < m
      · have hlt' : (k : Int) < (m : Int) := by omega
        have hfk : IntKind.i64.wrap (f + (k : Int)) = f + (k : Int) := by
          rw [IntKind.wrap_i64]
          by_cases hk0 : k = 0
          · subst hk0; simp; omega
          · have := hasB_iff.1 (HA.out (k - 1) (by omega))
            omega
        cases hh : hasB (f + (k : Nat)) ss.length with
        | true =>
          have HA2 : Hid (∀ i, i < k + 1 → hasB (f + (i : Nat)) ss.length = true) := fun i hi => by
            by_cases e : i = k
            · subst e; exact hh
            · exact HA.out i (by omega)
          have HLen : Hid ((stx ss ps f k).length + (rdR ss ps (f + k)).size ≤ 1000000000) := by
            have h1 := stx_len HLS.out HLP.out f k
            have h2 := rdR_size HLS.out HLP.out (f + k)
            show _ ≤ _
            omega
          have HSX : Hid (stx ss ps f (k + 1) = stx ss ps f k ++ (rdR ss ps (f + k)).data.toList) := rfl
          have HH : Hid (hasB (f + (k : Nat)) ss.length = true) := hh
          clear hh
          go_wp2_with fail
          refine (ird21_any ss ps _ a1 a2 c1 c2 (by omega) (by omega) HLS2.out HLP2.out _ (HS.out.below HB.out) (HP.out.below HB.out)).mono ?_
          rintro e w2 ⟨rfl, hb2⟩
          rw [HH.out]
          have HX2 : Hid (Below (w.heap.size + 1) (w.alloc (.cells #[.slice a1 ss.length c1, .slice a2 ps.length c2] 27)) w2) := HX.out.trans (hb2.mono (by omega))
          have HI2 : Hid (Lib.IsBuilder 99 5 (w.heap.size + 1) (w.heap.size + 1) (bv (stx ss ps f k)) w2) := builder_below HI.out hb2
          have hw2 : w.heap.size + 1 ≤ w2.heap.size := Nat.le_trans z0 hb2.size
          clear hb2 g0 g1 z0 hfk
          generalize rdR ss ps (f + k) = tx at *
          go_wp2_with fail
          refine (write69 (w.heap.size + 1) (w.heap.size + 1) (stx ss ps f k) tx _ HI2.out HLen.out hw2).mono ?_
          rintro e w3 ⟨rfl, h3, hb3⟩
          have HI3 : Hid (Lib.IsBuilder 99 5 (w.heap.size + 1) (w.heap.size + 1) (bv (stx ss ps f (k + 1))) w3) := Or.inr (by rw [HSX.out]; exact h3)
          have HX3 : Hid (Below (w.heap.size + 1) (w.alloc (.cells #[.slice a1 ss.length c1, .slice a2 ps.length c2] 27)) w3) := HX2.out.trans hb3
          clear h3 hb3
          go_wp2
          go_roundw
          case rel => exact ⟨k + 1, by omega, by go_num, HA2, HX3, HI3⟩
          case measure => simp [intOf]; omega
        | false =>
          have HN : Hid (stB ss f m = false ∧ stT ss ps f m = ⟨#[]⟩) := st_no (fun h => by have := h.2.2 k (by simpa using hlt); rw [hh] at this; cases this)
          have HH : Hid (hasB (f + (k : Nat)) ss.length = false) := hh
          clear hh
          go_wp2_with fail
          refine (ird21_any ss ps _ a1 a2 c1 c2 (by omega) (by omega) HLS2.out HLP2.out _ (HS.out.below HB.out) (HP.out.below HB.out)).mono ?_
          rintro e w2 ⟨rfl, hb2⟩
          rw [HH.out]
          have HB2 : Hid (Below w.heap.size w w2) := HB.out.trans (hb2.mono HB.out.size)
          clear hb2 g0 g1 z0 hfk
          go_wp2
          go_ret2
          exact ⟨ret_sb2 HN.out.2.symm HN.out.1.symm, HB2.out⟩
      · have hlt' : ¬ (k : Int) < (m : Int) := by omega
        obtain rfl : k = m := by omega
        have HY : Hid (stB ss f k = true ∧ stT ss ps f k = ⟨(stx ss ps f k).toArray⟩) := st_yes ⟨hn0.1, hn0.2, fun i hi => HA.out i (by simpa using hi)⟩
        go_wp2_with fail
        refine (Try.Builder_String_any (w.heap.size + 1) (w.heap.size + 1) (stx ss ps f k) _ HI.out z0).mono ?_
        rintro e w2 ⟨rfl, hb2⟩
        have HB2 : Hid (Below w.heap.size w w2) := HB.out.trans (hb2.mono (by omega))
        clear hb2
        go_wp2
        go_ret2
        exact ⟨ret_sb2 HY.out.2.symm HY.out.1.symm, HB2.out⟩
  · have HN : Hid (stB ss f n = false ∧ stT ss ps f n = ⟨#[]⟩) := st_no (fun h => hn0 ⟨h.1, h.2.1⟩)
    by_cases h0 : n < 0
    · have e1 : decide (n < 0) = true := by simpa using h0
      go_enter Try.func76, Try.ntmps76
      go_wp2
      go_ret2
      exact ⟨ret_sb2 HN.out.2.symm HN.out.1.symm, (belowRefl _).alloc (Nat.le_refl _) _⟩
    · have e1 : decide (n < 0) = false := by simpa using h0
      have e2 : decide ((100 : Int) < n) = true := by simp; omega
      go_enter Try.func76, Try.ntmps76
      go_wp2
      go_ret2
      exact ⟨ret_sb2 HN.out.2.symm HN.out.1.symm, (belowRefl _).alloc (Nat.le_refl _) _⟩
end Go.Proofs.Ytekjpoenbcnhdaa

namespace Go.Proofs.Ytekjpoenbcnhdaa
open Go.RowKit
open DM
attribute [local go_sem ↓] Go.wp_at_zero Go.wp_at_succ

theorem oneCell_s (ss : List ByteArray) : ∀ u ∈ scs ss, u.oneCell' = true := fun u hu => by
  obtain ⟨s, _, rfl⟩ := List.mem_map.1 hu
  rfl
theorem oneCell_p (ps : List Wr) : ∀ u ∈ pcs ps, u.oneCell' = true := fun u hu => by
  obtain ⟨p, _, h⟩ := List.mem_flatMap.1 hu
  simp only [pc, List.mem_cons, List.not_mem_nil, or_false] at h
  rcases h with rfl | rfl <;> rfl

theorem stepCopy {ops : Array Oper} {o : Oper} {a : Act} {K : Act → World → Prop} {Q : Exit → Act → World → Prop} {E : Prop} (T e size bytes : Nat) (z : Value) (hT : Try.prog.underlying T = some (.slice e))
    (hinfo : (Try.prog.info? e).map (fun i => (i.zero, i.size, i.bytes)) = some (some z, size, bytes)) (hzs : z.cells.size = size) (hsz : 0 < size) (hby : bytes ≤ 64)
    (hgd : o.guard = none) (s x : Operand) (ho : o.op = .call { callee := .builtin .append, args := #[s, x], argTypes := #[T, T] })
    {W : World} {base base' g n c : Nat} {ao : Option Addr} {xs : List Value}
    (hs : a.eval s = .slice (some ⟨g, 0, none⟩) 0 0) (hblk : W.heap[g]? = some (.cells #[] e (0, 0))) (hbg : base ≤ g) (hx : a.eval x = .slice ao n c) (hsrc : W.ownsRow base' e size (.slice ao n c) n xs)
    (h1 : ∀ u ∈ xs, u.oneCell' = true) (hlen : n ≤ 100000000) (hB : base ≤ W.heap.size)
    (h : ∀ av cv w', w'.ownsRow base e size (.slice av n cv) n xs → W.grownBy w' (some g) → Below base W w' → (∀ (b2 e2 s2 n2 : Nat) (v2 : Value) (xs2 : List Value), e2 ≠ e → W.ownsRow b2 e2 s2 v2 n2 xs2 → w'.ownsRow b2 e2 s2 v2 n2 xs2) → K (a.put o.dst (.slice av n cv)) w') :
    if Region.wanted o (yielded ops a.tmps) = true then Oper.wp Try.prog o a W K Q else E := by
  obtain ⟨i0, hi, hz0, hz1, hz2⟩ := info_parts hinfo
  have hw : Region.wanted o (yielded ops a.tmps) = true := by simp [Region.wanted, hgd]
  rw [if_pos hw]
  have hown : W.ownsRow base e size (.slice (some ⟨g, 0, none⟩) 0 0) 0 [] := ⟨by simp, .inr ⟨g, 0, #[], rfl, hbg, hblk, Nat.le_refl _, by unfold maxLen; omega, by simp, by simp⟩⟩
  have hx0 := hsrc.1
  have key : ∃ v' w', (Builtin.append_ #[T, T] o.type #[.slice (some ⟨g, 0, none⟩) 0 0, .slice ao n c]).run Try.prog W = .ok v' w' ∧ w'.ownsRow base e size v' n xs ∧ W.grownBy w' (some g) := by
    rcases hsrc.2 with ⟨hv, hn⟩ | ⟨g2, cap, cur, hv, _, hg2, hnc, _, hcs, htake⟩
    · cases hv
      obtain rfl : xs = [] := List.eq_nil_of_length_eq_zero (by simpa using hx0)
      exact ⟨_, W, run_append_owned_none (P := Try.prog) W base T o.type e i0 size hT hi _ 0 [] hown, hown, ⟨rfl, rfl, rfl, Nat.le_refl _, fun _ _ _ => rfl⟩⟩
    · cases hv
      obtain ⟨v', w', hr, q1, q2, _⟩ := run_append_own (P := Try.prog) W base T o.type e i0 z size bytes hT hi hz0 hz1 hz2 hzs hsz _ 0 [] hown ⟨g2, 0, none⟩ n c xs hx0 (fun j u hu => World.ownsRow.cells hsrc (g := g2) rfl j u hu) h1 (by unfold maxLen; omega)
        (by calc (0 + n) * bytes ≤ 100000000 * 64 := Nat.mul_le_mul (by omega) hby
              _ ≤ _ := by omega) hB
      refine ⟨v', w', hr, ?_, q2⟩
      simpa using q1
  obtain ⟨v', w', hr, q1, q2⟩ := key
  have hshape : ∃ av cv, v' = .slice av n cv := by
    rcases q1.2 with ⟨hv, hn⟩ | ⟨g2, cap, cur, hv, _⟩
    · exact ⟨none, 0, by rw [hv, hn]⟩
    · exact ⟨_, cap, hv⟩
  obtain ⟨av, cv, rfl⟩ := hshape
  unfold Oper.wp execOp
  simp only [ho, resolve, invoke, builtin, Sem.run_bind, Sem.run_pure, Result.andThen_ok, List.map_toArray, List.map_cons, List.map_nil, hs, hx, hr]
  exact h av cv w' q1 q2 ((Below.refl _ _).grown q2 hB (fun j hj => by cases hj; exact hbg)) (fun b2 e2 s2 n2 v2 xs2 hne h2 => World.ownsRow.kept h2 q2 (own_apart h2 hown hne))

theorem hblk_old {W : World} {g : Nat} {o o' : Obj} (h : W.heap[g]? = some o) : (W.alloc o').heap[g]? = some o := by
  rw [Below.heap_alloc _ _ _ (Array.getElem?_eq_some_iff.1 h).1]; exact h

theorem hblk_new {W : World} {g : Nat} {o : Obj} (hg : g = W.heap.size) : (W.alloc o).heap[g]? = some o := by subst hg; exact heap_alloc_new W o
theorem hblk_drew {W : World} {g : Nat} {o : Obj} (h : W.heap[g]? = some o) : W.drew.heap[g]? = some o := h

def CS (w : World) (x y : Value) (W : World) : Prop :=
  W.cell? ⟨w.heap.size, 0, none⟩ = some x ∧ W.cell? ⟨w.heap.size, 1, none⟩ = some y ∧ Below w.heap.size w W ∧ w.heap.size + 1 + 1 ≤ W.heap.size ∧ ∃ p q, Bx W (w.heap.size + 1) p q
theorem CS.b {w : World} {x y : Value} {W : World} (h : CS w x y W) : Below w.heap.size w W := h.2.2.1
theorem CS.z {w : World} {x y : Value} {W : World} (h : CS w x y W) : w.heap.size + 1 + 1 ≤ W.heap.size := h.2.2.2.1
theorem CS.alloc {w : World} {x y : Value} {W : World} (h : CS w x y W) (o : Obj) : CS w x y (W.alloc o) := by
  obtain ⟨h0, h1, h2, h3, p, q, h4⟩ := h
  have b : Below W.heap.size W (W.alloc o) := (belowRefl W).alloc (Nat.le_refl _) o
  exact ⟨(b.cell (p := ⟨w.heap.size, 0, none⟩) (by show w.heap.size < W.heap.size; omega)).trans h0, (b.cell (p := ⟨w.heap.size, 1, none⟩) (by show w.heap.size < W.heap.size; omega)).trans h1, h2.alloc h2.size o, by simp; omega, p, q, h4.alloc o⟩
theorem CS.app {w : World} {x y : Value} {W W' : World} (h : CS w x y W) (b : Below (w.heap.size + 1 + 1) W W') : CS w x y W' := by
  obtain ⟨h0, h1, h2, h3, p, q, h4⟩ := h
  exact ⟨(b.cell (p := ⟨w.heap.size, 0, none⟩) (by show w.heap.size < w.heap.size + 1 + 1; omega)).trans h0, (b.cell (p := ⟨w.heap.size, 1, none⟩) (by show w.heap.size < w.heap.size + 1 + 1; omega)).trans h1, h2.trans (b.mono (by omega)), Nat.le_trans h3 b.size, p, q, h4.keep b (by omega)⟩
theorem CS.set0 {w : World} {x y : Value} {W : World} (h : CS w x y W) (u : Value) : CS w x y (W.setCell ⟨w.heap.size + 1, 0, none⟩ u) := by
  obtain ⟨h0, h1, h2, h3, p, q, h4⟩ := h
  exact ⟨(World.cell?_setCell_other _ _ _ _ (fun e => by simp at e)).trans h0, (World.cell?_setCell_other _ _ _ _ (fun e => by simp at e)).trans h1, h2.setCell (by show _ ≤ _ + 1; omega) u, by simpa [World.setCell] using h3, u, q, h4.set0 u⟩
theorem CS.set1 {w : World} {x y : Value} {W : World} (h : CS w x y W) (u : Value) : CS w x y (W.setCell ⟨w.heap.size + 1, 1, none⟩ u) := by
  obtain ⟨h0, h1, h2, h3, p, q, h4⟩ := h
  exact ⟨(World.cell?_setCell_other _ _ _ _ (fun e => by simp at e)).trans h0, (World.cell?_setCell_other _ _ _ _ (fun e => by simp at e)).trans h1, h2.setCell (by show _ ≤ _ + 1; omega) u, by simpa [World.setCell] using h3, p, u, h4.set1 u⟩
theorem CS.set {w : World} {x y : Value} {W : World} (h : CS w x y W) (u v : Value) : CS w x y ((W.setCell ⟨w.heap.size + 1, 0, none⟩ u).setCell ⟨w.heap.size + 1, 1, none⟩ v) := (h.set0 u).set1 v

set_option maxRecDepth 100000 in
set_option maxHeartbeats 4000000 in
theorem copy64 (ss : List ByteArray) (ps : List Wr) (a1 a2 : Option Addr) (c1 c2 B0 : Nat) (hn : ss.length ≤ 100000000) (hm : ps.length ≤ 100000000) (w : World) (hd : DOwn w B0 a1 c1 a2 c2 ss ps) :
    Calls Try.prog 24 #[.agg #[.slice a1 ss.length c1, .slice a2 ps.length c2]] w fun e w' => ∃ b1 d1 b2 d2, e = .returned (.agg #[.slice b1 ss.length d1, .slice b2 ps.length d2]) ∧ DOwn w' w.heap.size b1 d1 b2 d2 ss ps ∧ Below w.heap.size w w' := by
  have HD : Hid (DOwn w B0 a1 c1 a2 c2 ss ps) := hd
  clear hd
  have CS0 : Hid (CS w (.slice a1 ss.length c1) (.slice a2 ps.length c2) (((w.alloc (.cells #[.slice a1 ss.length c1, .slice a2 ps.length c2] 27)).alloc (.cells #[.slice none 0 0, .slice none 0 0] 27)).drew)) := by
    have h0 := (Bx.new w (.slice a1 ss.length c1) (.slice a2 ps.length c2) 27).alloc (.cells #[.slice none 0 0, .slice none 0 0] 27)
    have h1 := Bx.new (w.alloc (.cells #[.slice a1 ss.length c1, .slice a2 ps.length c2] 27)) (.slice none 0 0) (.slice none 0 0) 27
    rw [World.size_alloc] at h1
    exact ⟨h0.c0, h0.c1, (((belowRefl w).alloc (Nat.le_refl _) _).alloc (by simp) _).drew, by show _ ≤ ((w.alloc _).alloc _).heap.size; simp, _, _, h1.drew⟩
  go_enter Try.func24, Try.ntmps24
  go_wp2
  go_region_held3 (fun w' => w'.cell? ⟨w.heap.size, 0, none⟩ = some (.slice a1 ss.length c1) ∧ w'.cell? ⟨w.heap.size, 1, none⟩ = some (.slice a2 ps.length c2) ∧ Below w.heap.size w w' ∧ w.heap.size + 1 + 1 ≤ w'.heap.size ∧ ∃ p q, Bx w' (w.heap.size + 1) p q)
    (first | exact CS0.out | exact CS.alloc (by assumption) _ | exact CS.app (by assumption) hb6 | exact CS.app (by assumption) hb10 | exact CS.set (by assumption) _ _)
    ((first
      | (refine stepCopy 24 9 1 16 (.string ByteArray.empty) Try.underlying24 Try.info9 rfl (by decide) (by omega) (by rfl) _ _ (by rfl) (base := w.heap.size + 1 + 1) (base' := B0) (xs := scs ss) (by rfl) ?hb1 ?hb2 (by rfl) ?hb3 (oneCell_s ss) hn ?hb4 ?_
         case hb1 => first | exact hblk_new (by simp) | exact hblk_drew (hblk_new (by simp)) | exact hblk_old (hblk_new (by simp)) | exact hblk_drew (hblk_old (hblk_new (by simp))) | exact (hg10.block _ (by simp) (by simp)).trans (by first | exact hblk_new (by simp) | exact hblk_drew (hblk_new (by simp)) | exact hblk_old (hblk_new (by simp)) | exact hblk_drew (hblk_old (hblk_new (by simp))))
         case hb2 => first | omega | (have q := hb6.size; simp at q; omega) | (have q := hb10.size; simp at q; omega)
         case hb3 => exact HD.out.s.below (CS.b (x := .slice a1 ss.length c1) (y := .slice a2 ps.length c2) (by assumption))
         case hb4 => exact CS.z (x := .slice a1 ss.length c1) (y := .slice a2 ps.length c2) (by assumption)
         intro av6 cv6 w6 hown6 hg6 hb6 hk6
         obtain ⟨_, _, _, _, p6, q6, bx6⟩ := CS.app (x := .slice a1 ss.length c1) (y := .slice a2 ps.length c2) (by assumption) hb6
         have u60 := bx6.c0; have u61 := bx6.c1; have u6f := bx6.fz
         skip)
      | (refine stepCopy 25 69 2 24 (.agg #[.int .i64 0, .string ByteArray.empty]) Try.underlying25 Try.info69 rfl (by decide) (by omega) (by rfl) _ _ (by rfl) (base := w.heap.size + 1 + 1) (base' := B0) (xs := pcs ps) (by rfl) ?hb1 ?hb2 (by rfl) ?hb3 (oneCell_p ps) hm ?hb4 ?_
         case hb1 => first | exact hblk_new (by simp) | exact hblk_drew (hblk_new (by simp)) | exact hblk_old (hblk_new (by simp)) | exact hblk_drew (hblk_old (hblk_new (by simp))) | exact (hg6.block _ (by simp) (by simp)).trans (by first | exact hblk_new (by simp) | exact hblk_drew (hblk_new (by simp)) | exact hblk_old (hblk_new (by simp)) | exact hblk_drew (hblk_old (hblk_new (by simp))))
         case hb2 => first | omega | (have q := hb6.size; simp at q; omega) | (have q := hb10.size; simp at q; omega)
         case hb3 => exact HD.out.p.below (CS.b (x := .slice a1 ss.length c1) (y := .slice a2 ps.length c2) (by assumption))
         case hb4 => exact CS.z (x := .slice a1 ss.length c1) (y := .slice a2 ps.length c2) (by assumption)
         intro av10 cv10 w10 hown10 hg10 hb10 hk10
         obtain ⟨_, _, _, _, p10, q10, bx10⟩ := CS.app (x := .slice a1 ss.length c1) (y := .slice a2 ps.length c2) (by assumption) hb10
         have hbw10 : Hid (Below w.heap.size w w10) := CS.b (CS.app (x := .slice a1 ss.length c1) (y := .slice a2 ps.length c2) (by assumption) hb10)
         have u100 := bx10.c0; have u101 := bx10.c1; have u10f := bx10.fz
         try have hs6 := hk10 _ _ _ _ _ _ (by decide) hown6
         try have hs6 := hk10 _ _ _ _ _ _ (by decide) (World.ownsRow.alloc hown6 _))))
  all_goals
    have HS : Hid (SOwn w10 (w.heap.size + 1 + 1) (.slice av6 ss.length cv6) ss) := hs6
    have HP : Hid (POwn w10 (w.heap.size + 1 + 1) (.slice av10 ps.length cv10) ps) := hown10
    clear hs6 hown10 hown6 hg6 hg10 hk6 hk10 hb6 hb10 u60 u61 u6f bx6
    go_wp2
    refine bodyPost_ret (v := .agg #[.slice av6 ss.length cv6, .slice av10 ps.length cv10]) (by simp [results, Try.results24, go_sem, u100, u101]) rfl ⟨av6, cv6, av10, cv10, rfl, ⟨?_, ?_⟩, ?_⟩
    · exact ((HS.out.set (by show w.heap.size + 1 < w.heap.size + 1 + 1; omega) _).set (by show w.heap.size + 1 < w.heap.size + 1 + 1; omega) _).mono (by omega)
    · exact ((HP.out.set (by show w.heap.size + 1 < w.heap.size + 1 + 1; omega) _).set (by show w.heap.size + 1 < w.heap.size + 1 + 1; omega) _).mono (by omega)
    · exact (hbw10.out.setCell (by show w.heap.size ≤ w.heap.size + 1; omega) _).setCell (by show w.heap.size ≤ w.heap.size + 1; omega) _
end Go.Proofs.Ytekjpoenbcnhdaa

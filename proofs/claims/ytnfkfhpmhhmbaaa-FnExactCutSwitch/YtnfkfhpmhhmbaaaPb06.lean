/- What spec.l03Copy returns. -/
import Derived.Test.YtnfkfhpmhhmbaaaPb05
namespace Go.Proofs.Ytnfkfhpmhhmbaaa
open Go.RowKit
open DM
attribute [local go_sem ↓] Go.wp_at_zero Go.wp_at_succ

theorem oneCell_s (ss : List ByteArray) : ∀ u ∈ scs ss, u.oneCell' = true := fun u hu => by
  obtain ⟨s, _, rfl⟩ := List.mem_map.1 hu
  rfl
theorem oneCell_p (ps : List Wr) : ∀ u ∈ pcs ps, u.oneCell' = true := fun u hu => by
  obtain ⟨p, _, h⟩ := List.mem_flatMap.1 hu
  simp only [pc, List.mem_cons, List.not_mem_nil, or_false] at h
  rcases h with rfl | rfl <;> rfl

theorem stepCopy {ops : Array Oper} {o : Oper} {a : Act} {K : Act → World → Prop} {Q : Exit → Act → World → Prop} {E : Prop} (T e size bytes : Nat) (z : Value) (hT : Try.prog.underlying T = some (.slice e))
    (hinfo : (Try.prog.info? e).map (fun i => (i.zero, i.size, i.bytes)) = some (some z, size, bytes)) (hzs : z.cells.size = size) (hsz : 0 < size) (hby : bytes ≤ 64)
    (hgd : o.guard = none) (s x : Operand) (ho : o.op = .call { callee := .builtin .append, args := #[s, x], argTypes := #[T, T] })
    {W : World} {base base' g n c : Nat} {ao : Option Addr} {xs : List Value}
    (hs : a.eval s = .slice (some ⟨g, 0, none⟩) 0 0) (hblk : W.heap[g]? = some (.cells #[] e (0, 0))) (hbg : base ≤ g) (hx : a.eval x = .slice ao n c) (hsrc : W.ownsRow base' e size (.slice ao n c) n xs)
    (h1 : ∀ u ∈ xs, u.oneCell' = true) (hlen : n ≤ 100000000) (hB : base ≤ W.heap.size)
    (h : ∀ av cv w', w'.ownsRow base e size (.slice av n cv) n xs → W.grownBy w' (some g) → Below base W w' → (∀ (b2 e2 s2 n2 : Nat) (v2 : Value) (xs2 : List Value), e2 ≠ e → W.ownsRow b2 e2 s2 v2 n2 xs2 → w'.ownsRow b2 e2 s2 v2 n2 xs2) → K (a.put o.dst (.slice av n cv)) w') :
    if Region.wanted o (yielded ops a.tmps) = true then Oper.wp Try.prog o a W K Q else E := by
  obtain ⟨i0, hi, hz0, hz1, hz2⟩ := info_parts hinfo
  have hw : Region.wanted o (yielded ops a.tmps) = true := by simp [Region.wanted, hgd]
  rw [if_pos hw]
  have hown : W.ownsRow base e size (.slice (some ⟨g, 0, none⟩) 0 0) 0 [] := ⟨by simp, .inr ⟨g, 0, #[], rfl, hbg, hblk, Nat.le_refl _, by unfold maxLen; omega, by simp, by simp⟩⟩
  have hx0 := hsrc.1
  have key : ∃ v' w', (Builtin.append_ #[T, T] o.type #[.slice (some ⟨g, 0, none⟩) 0 0, .slice ao n c]).run Try.prog W = .ok v' w' ∧ w'.ownsRow base e size v' n xs ∧ W.grownBy w' (some g) := by
    rcases hsrc.2 with ⟨hv, hn⟩ | ⟨g2, cap, cur, hv, _, hg2, hnc, _, hcs, htake⟩
    · cases hv
      obtain rfl : xs = [] := List.eq_nil_of_length_eq_zero (by simpa using hx0)
      exact ⟨_, W, run_append_owned_none (P := Try.prog) W base T o.type e i0 size hT hi _ 0 [] hown, hown, ⟨rfl, rfl, rfl, Nat.le_refl _, fun _ _ _ => rfl⟩⟩
    · cases hv
      obtain ⟨v', w', hr, q1, q2, _⟩ := run_append_own (P := Try.prog) W base T o.type e i0 z size bytes hT hi hz0 hz1 hz2 hzs hsz _ 0 [] hown ⟨g2, 0, none⟩ n c xs hx0 (fun j u hu => World.ownsRow.cells hsrc (g := g2) rfl j u hu) h1 (by unfold maxLen; omega)
        (by calc (0 + n) * bytes ≤ 100000000 * 64 := Nat.mul_le_mul (by omega) hby
              _ ≤ _ := by omega) hB
      refine ⟨v', w', hr, ?_, q2⟩
      simpa using q1
  obtain ⟨v', w', hr, q1, q2⟩ := key
  have hshape : ∃ av cv, v' = .slice av n cv := by
    rcases q1.2 with ⟨hv, hn⟩ | ⟨g2, cap, cur, hv, _⟩
    · exact ⟨none, 0, by rw [hv, hn]⟩
    · exact ⟨_, cap, hv⟩
  obtain ⟨av, cv, rfl⟩ := hshape
  unfold Oper.wp execOp
  simp only [ho, resolve, invoke, builtin, Sem.run_bind, Sem.run_pure, Result.andThen_ok, List.map_toArray, List.map_cons, List.map_nil, hs, hx, hr]
  exact h av cv w' q1 q2 ((Below.refl _ _).grown q2 hB (fun j hj => by cases hj; exact hbg)) (fun b2 e2 s2 n2 v2 xs2 hne h2 => World.ownsRow.kept h2 q2 (own_apart h2 hown hne))

theorem hblk_old {W : World} {g : Nat} {o o' : Obj} (h : W.heap[g]? = some o) : (W.alloc o').heap[g]? = some o := by
  rw [Below.heap_alloc _ _ _ (Array.getElem?_eq_some_iff.1 h).1]; exact h

theorem hblk_new {W : World} {g : Nat} {o : Obj} (hg : g = W.heap.size) : (W.alloc o).heap[g]? = some o := by subst hg; exact heap_alloc_new W o
theorem hblk_drew {W : World} {g : Nat} {o : Obj} (h : W.heap[g]? = some o) : W.drew.heap[g]? = some o := h

def CS (w : World) (x y : Value) (W : World) : Prop :=
  W.cell? ⟨w.heap.size, 0, none⟩ = some x ∧ W.cell? ⟨w.heap.size, 1, none⟩ = some y ∧ Below w.heap.size w W ∧ w.heap.size + 1 + 1 ≤ W.heap.size ∧ ∃ p q, Bx W (w.heap.size + 1) p q
theorem CS.b {w : World} {x y : Value} {W : World} (h : CS w x y W) : Below w.heap.size w W := h.2.2.1
theorem CS.z {w : World} {x y : Value} {W : World} (h : CS w x y W) : w.heap.size + 1 + 1 ≤ W.heap.size := h.2.2.2.1
theorem CS.alloc {w : World} {x y : Value} {W : World} (h : CS w x y W) (o : Obj) : CS w x y (W.alloc o) := by
  obtain ⟨h0, h1, h2, h3, p, q, h4⟩ := h
  have b : Below W.heap.size W (W.alloc o) := (belowRefl W).alloc (Nat.le_refl _) o
  exact ⟨(b.cell (p := ⟨w.heap.size, 0, none⟩) (by show w.heap.size < W.heap.size; omega)).trans h0, (b.cell (p := ⟨w.heap.size, 1, none⟩) (by show w.heap.size < W.heap.size; omega)).trans h1, h2.alloc h2.size o, by simp; omega, p, q, h4.alloc o⟩
theorem CS.app {w : World} {x y : Value} {W W' : World} (h : CS w x y W) (b : Below (w.heap.size + 1 + 1) W W') : CS w x y W' := by
  obtain ⟨h0, h1, h2, h3, p, q, h4⟩ := h
  exact ⟨(b.cell (p := ⟨w.heap.size, 0, none⟩) (by show w.heap.size < w.heap.size + 1 + 1; omega)).trans h0, (b.cell (p := ⟨w.heap.size, 1, none⟩) (by show w.heap.size < w.heap.size + 1 + 1; omega)).trans h1, h2.trans (b.mono (by omega)), Nat.le_trans h3 b.size, p, q, h4.keep b (by omega)⟩
theorem CS.set0 {w : World} {x y : Value} {W : World} (h : CS w x y W) (u : Value) : CS w x y (W.setCell ⟨w.heap.size + 1, 0, none⟩ u) := by
  obtain ⟨h0, h1, h2, h3, p, q, h4⟩ := h
  exact ⟨(World.cell?_setCell_other _ _ _ _ (fun e => by simp at e)).trans h0, (World.cell?_setCell_other _ _ _ _ (fun e => by simp at e)).trans h1, h2.setCell (by show _ ≤ _ + 1; omega) u, by simpa [World.setCell] using h3, u, q, h4.set0 u⟩
theorem CS.set1 {w : World} {x y : Value} {W : World} (h : CS w x y W) (u : Value) : CS w x y (W.setCell ⟨w.heap.size + 1, 1, none⟩ u) := by
  obtain ⟨h0, h1, h2, h3, p, q, h4⟩ := h
  exact ⟨(World.cell?_setCell_other _ _ _ _ (fun e => by simp at e)).trans h0, (World.cell?_setCell_other _ _ _ _ (fun e => by simp at e)).trans h1, h2.setCell (by show _ ≤ _ + 1; omega) u, by simpa [World.setCell] using h3, p, u, h4.set1 u⟩
theorem CS.set {w : World} {x y : Value} {W : World} (h : CS w x y W) (u v : Value) : CS w x y ((W.setCell ⟨w.heap.size + 1, 0, none⟩ u).setCell ⟨w.heap.size + 1, 1, none⟩ v) := (h.set0 u).set1 v

set_option maxRecDepth 100000 in
set_option maxHeartbeats 4000000 in
theorem copy64 (ss : List ByteArray) (ps : List Wr) (a1 a2 : Option Addr) (c1 c2 B0 : Nat) (hn : ss.length ≤ 100000000) (hm : ps.length ≤ 100000000) (w : World) (hd : DOwn w B0 a1 c1 a2 c2 ss ps) :
    Calls Try.prog 23 #[.agg #[.slice a1 ss.length c1, .slice a2 ps.length c2]] w fun e w' => ∃ b1 d1 b2 d2, e = .returned (.agg #[.slice b1 ss.length d1, .slice b2 ps.length d2]) ∧ DOwn w' w.heap.size b1 d1 b2 d2 ss ps ∧ Below w.heap.size w w' := by
  have HD : Hid (DOwn w B0 a1 c1 a2 c2 ss ps) := hd
  clear hd
  have CS0 : Hid (CS w (.slice a1 ss.length c1) (.slice a2 ps.length c2) (((w.alloc (.cells #[.slice a1 ss.length c1, .slice a2 ps.length c2] 30)).alloc (.cells #[.slice none 0 0, .slice none 0 0] 30)).drew)) := by
    have h0 := (Bx.new w (.slice a1 ss.length c1) (.slice a2 ps.length c2) 30).alloc (.cells #[.slice none 0 0, .slice none 0 0] 30)
    have h1 := Bx.new (w.alloc (.cells #[.slice a1 ss.length c1, .slice a2 ps.length c2] 30)) (.slice none 0 0) (.slice none 0 0) 30
    rw [World.size_alloc] at h1
    exact ⟨h0.c0, h0.c1, (((belowRefl w).alloc (Nat.le_refl _) _).alloc (by simp) _).drew, by show _ ≤ ((w.alloc _).alloc _).heap.size; simp, _, _, h1.drew⟩
  go_enter Try.func23, Try.ntmps23
  go_wp2
  go_region_held3 (fun w' => w'.cell? ⟨w.heap.size, 0, none⟩ = some (.slice a1 ss.length c1) ∧ w'.cell? ⟨w.heap.size, 1, none⟩ = some (.slice a2 ps.length c2) ∧ Below w.heap.size w w' ∧ w.heap.size + 1 + 1 ≤ w'.heap.size ∧ ∃ p q, Bx w' (w.heap.size + 1) p q)
    (first | exact CS0.out | exact CS.alloc (by assumption) _ | exact CS.app (by assumption) hb6 | exact CS.app (by assumption) hb10 | exact CS.set (by assumption) _ _)
    ((first
      | (refine stepCopy 22 9 1 16 (.string ByteArray.empty) Try.underlying22 Try.info9 rfl (by decide) (by omega) (by rfl) _ _ (by rfl) (base := w.heap.size + 1 + 1) (base' := B0) (xs := scs ss) (by rfl) ?hb1 ?hb2 (by rfl) ?hb3 (oneCell_s ss) hn ?hb4 ?_
         case hb1 => first | exact hblk_new (by simp) | exact hblk_drew (hblk_new (by simp)) | exact hblk_old (hblk_new (by simp)) | exact hblk_drew (hblk_old (hblk_new (by simp))) | exact (hg10.block _ (by simp) (by simp)).trans (by first | exact hblk_new (by simp) | exact hblk_drew (hblk_new (by simp)) | exact hblk_old (hblk_new (by simp)) | exact hblk_drew (hblk_old (hblk_new (by simp))))
         case hb2 => first | omega | (have q := hb6.size; simp at q; omega) | (have q := hb10.size; simp at q; omega)
         case hb3 => exact HD.out.s.below (CS.b (x := .slice a1 ss.length c1) (y := .slice a2 ps.length c2) (by assumption))
         case hb4 => exact CS.z (x := .slice a1 ss.length c1) (y := .slice a2 ps.length c2) (by assumption)
         intro av6 cv6 w6 hown6 hg6 hb6 hk6
         obtain ⟨_, _, _, _, p6, q6, bx6⟩ := CS.app (x := .slice a1 ss.length c1) (y := .slice a2 ps.length c2) (by assumption) hb6
         have u60 := bx6.c0; have u61 := bx6.c1; have u6f := bx6.fz
         skip)
      | (refine stepCopy 28 67 2 24 (.agg #[.int .i64 0, .string ByteArray.empty]) Try.underlying28 Try.info67 rfl (by decide) (by omega) (by rfl) _ _ (by rfl) (base := w.heap.size + 1 + 1) (base' := B0) (xs := pcs ps) (by rfl) ?hb1 ?hb2 (by rfl) ?hb3 (oneCell_p ps) hm ?hb4 ?_
         case hb1 => first | exact hblk_new (by simp) | exact hblk_drew (hblk_new (by simp)) | exact hblk_old (hblk_new (by simp)) | exact hblk_drew (hblk_old (hblk_new (by simp))) | exact (hg6.block _ (by simp) (by simp)).trans (by first | exact hblk_new (by simp) | exact hblk_drew (hblk_new (by simp)) | exact hblk_old (hblk_new (by simp)) | exact hblk_drew (hblk_old (hblk_new (by simp))))
         case hb2 => first | omega | (have q := hb6.size; simp at q; omega) | (have q := hb10.size; simp at q; omega)
         case hb3 => exact HD.out.p.below (CS.b (x := .slice a1 ss.length c1) (y := .slice a2 ps.length c2) (by assumption))
         case hb4 => exact CS.z (x := .slice a1 ss.length c1) (y := .slice a2 ps.length c2) (by assumption)
         intro av10 cv10 w10 hown10 hg10 hb10 hk10
         obtain ⟨_, _, _, _, p10, q10, bx10⟩ := CS.app (x := .slice a1 ss.length c1) (y := .slice a2 ps.length c2) (by assumption) hb10
         have hbw10 : Hid (Below w.heap.size w w10) := CS.b (CS.app (x := .slice a1 ss.length c1) (y := .slice a2 ps.length c2) (by assumption) hb10)
         have u100 := bx10.c0; have u101 := bx10.c1; have u10f := bx10.fz
         try have hs6 := hk10 _ _ _ _ _ _ (by decide) hown6
         try have hs6 := hk10 _ _ _ _ _ _ (by decide) (World.ownsRow.alloc hown6 _))))
  all_goals
    have HS : Hid (SOwn w10 (w.heap.size + 1 + 1) (.slice av6 ss.length cv6) ss) := hs6
    have HP : Hid (POwn w10 (w.heap.size + 1 + 1) (.slice av10 ps.length cv10) ps) := hown10
    clear hs6 hown10 hown6 hg6 hg10 hk6 hk10 hb6 hb10 u60 u61 u6f bx6
    go_wp2
    refine bodyPost_ret (v := .agg #[.slice av6 ss.length cv6, .slice av10 ps.length cv10]) (by simp [results, Try.results23, go_sem, u100, u101]) rfl ⟨av6, cv6, av10, cv10, rfl, ⟨?_, ?_⟩, ?_⟩
    · exact ((HS.out.set (by show w.heap.size + 1 < w.heap.size + 1 + 1; omega) _).set (by show w.heap.size + 1 < w.heap.size + 1 + 1; omega) _).mono (by omega)
    · exact ((HP.out.set (by show w.heap.size + 1 < w.heap.size + 1 + 1; omega) _).set (by show w.heap.size + 1 < w.heap.size + 1 + 1; omega) _).mono (by omega)
    · exact (hbw10.out.setCell (by show w.heap.size ≤ w.heap.size + 1; omega) _).setCell (by show w.heap.size ≤ w.heap.size + 1; omega) _
end Go.Proofs.Ytnfkfhpmhhmbaaa

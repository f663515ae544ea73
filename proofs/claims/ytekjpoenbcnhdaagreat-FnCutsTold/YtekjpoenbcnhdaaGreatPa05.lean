/- What spec.l03Copy returns. -/
import Derived.Test.YtekjpoenbcnhdaaGreatPa04
import Derived.Test.YtekjpoenbcnhdaaGreatPa02
import Derived.Test.YtekjpoenbcnhdaaGreatPa03
namespace Go.Proofs.YtekjpoenbcnhdaaGreat
open Go.RowKit
open DM
attribute [local go_sem ↓] Go.wp_at_zero Go.wp_at_succ

theorem oneCell_s (ss : List ByteArray) : ∀ u ∈ scs ss, u.oneCell' = true := fun u hu => by
 obtain ⟨s, _, rfl⟩ := List.mem_map.1 hu
 rfl
theorem oneCell_p (ps : List Wr) : ∀ u ∈ pcs ps, u.oneCell' = true := fun u hu => by
 obtain ⟨p, _, h⟩ := List.mem_flatMap.1 hu
 simp only [pc, List.mem_cons, List.not_mem_nil, or_false] at h
 rcases h with rfl | rfl <;> rfl

theorem stepCopy {ops : Array Oper} {o : Oper} {a : Act} {K : Act → World → Prop} {Q : Exit → Act → World → Prop} {E : Prop} (T e size bytes : Nat) (z : Value) (hT : Tryz.prog.underlying T = some (.slice e))
  (hinfo : (Tryz.prog.info? e).map (fun i => (i.zero, i.size, i.bytes)) = some (some z, size, bytes)) (hzs : z.cells.size = size) (hsz : 0 < size) (hby : bytes ≤ 64)
  (hgd : o.guard = none) (s x : Operand) (ho : o.op = .call { callee := .builtin .append, args := #[s, x], argTypes := #[T, T] })
  {W : World} {base base' g n c : Nat} {ao : Option Addr} {xs : List Value}
  (hs : a.eval s = .slice (some ⟨g, 0, none⟩) 0 0) (hblk : W.heap[g]? = some (.cells #[] e (0, 0))) (hbg : base ≤ g) (hx : a.eval x = .slice ao n c) (hsrc : W.ownsRow base' e size (.slice ao n c) n xs)
  (h1 : ∀ u ∈ xs, u.oneCell' = true) (hlen : n ≤ 100000000) (hB : base ≤ W.heap.size)
  (h : ∀ av cv w', w'.ownsRow base e size (.slice av n cv) n xs → W.grownBy w' (some g) → Below base W w' → (∀ (b2 e2 s2 n2 : Nat) (v2 : Value) (xs2 : List Value), e2 ≠ e → W.ownsRow b2 e2 s2 v2 n2 xs2 → w'.ownsRow b2 e2 s2 v2 n2 xs2) → K (a.put o.dst (.slice av n cv)) w') :
  if Region.wanted o (yielded ops a.tmps) = true then Oper.wp Tryz.prog o a W K Q else E := by
 obtain ⟨i0, hi, hz0, hz1, hz2⟩ := info_parts hinfo
 have hw : Region.wanted o (yielded ops a.tmps) = true := by simp [Region.wanted, hgd]
 rw [if_pos hw]
 have hown : W.ownsRow base e size (.slice (some ⟨g, 0, none⟩) 0 0) 0 [] := ⟨by simp, .inr ⟨g, 0, #[], rfl, hbg, hblk, Nat.le_refl _, by unfold maxLen; omega, by simp, by simp⟩⟩
 have hx0 := hsrc.1
 have key : ∃ v' w', (Builtin.append_ #[T, T] o.type #[.slice (some ⟨g, 0, none⟩) 0 0, .slice ao n c]).run Tryz.prog W = .ok v' w' ∧ w'.ownsRow base e size v' n xs ∧ W.grownBy w' (some g) := by
  rcases hsrc.2 with ⟨hv, hn⟩ | ⟨g2, cap, cur, hv, _, hg2, hnc, _, hcs, htake⟩
  ·cases hv
   obtain rfl : xs = [] := List.eq_nil_of_length_eq_zero (by simpa using hx0)
   exact ⟨_, W, run_append_owned_none (P := Tryz.prog) W base T o.type e i0 size hT hi _ 0 [] hown, hown, ⟨rfl, rfl, rfl, Nat.le_refl _, fun _ _ _ => rfl⟩⟩
  ·cases hv
   obtain ⟨v', w', hr, q1, q2, _⟩ := run_append_own (P := Tryz.prog) W base T o.type e i0 z size bytes hT hi hz0 hz1 hz2 hzs hsz _ 0 [] hown ⟨g2, 0, none⟩ n c xs hx0 (fun j u hu => World.ownsRow.cells hsrc (g := g2) rfl j u hu) h1 (by unfold maxLen; omega)
    (by calc (0 + n) * bytes ≤ 100000000 * 64 := Nat.mul_le_mul (by omega) hby
       _ ≤ _ := by omega) hB
   refine ⟨v', w', hr, ?_, q2⟩
   simpa using q1
 obtain ⟨v', w', hr, q1, q2⟩ := key
 have hshape : ∃ av cv, v' = .slice av n cv := by
  rcases q1.2 with ⟨hv, hn⟩ | ⟨g2, cap, cur, hv, _⟩
  ·exact ⟨none, 0, by rw [hv, hn]⟩
  ·exact ⟨_, cap, hv⟩
 obtain ⟨av, cv, rfl⟩ := hshape
 unfold Oper.wp execOp
 simp only [ho, resolve, invoke, builtin, Sem.run_bind, Sem.run_pure, Result.andThen_ok, List.map_toArray, List.map_cons, List.map_nil, hs, hx, hr]
 exact h av cv w' q1 q2 ((Below.refl _ _).grown q2 hB (fun j hj => by cases hj; exact hbg)) (fun b2 e2 s2 n2 v2 xs2 hne h2 => World.ownsRow.kept h2 q2 (own_apart h2 hown hne))

theorem hblk_old {W : World} {g : Nat} {o o' : Obj} (h : W.heap[g]? = some o) : (W.alloc o').heap[g]? = some o := by
 rw [Below.heap_alloc _ _ _ (Array.getElem?_eq_some_iff.1 h).1]; exact h

theorem hblk_new {W : World} {g : Nat} {o : Obj} (hg : g = W.heap.size) : (W.alloc o).heap[g]? = some o := by subst hg; exact heap_alloc_new W o
theorem hblk_drew {W : World} {g : Nat} {o : Obj} (h : W.heap[g]? = some o) : W.drew.heap[g]? = some o := h

def CS (w : World) (x y : Value) (W : World) : Prop :=
 W.cell? ⟨w.heap.size, 0, none⟩ = some x ∧ W.cell? ⟨w.heap.size, 1, none⟩ = some y ∧ Below w.heap.size w W ∧ w.heap.size + 1 + 1 ≤ W.heap.size ∧ ∃ p q, Bx W (w.heap.size + 1) p q
theorem CS.b {w : World} {x y : Value} {W : World} (h : CS w x y W) : Below w.heap.size w W := h.2.2.1
theorem CS.z {w : World} {x y : Value} {W : World} (h : CS w x y W) : w.heap.size + 1 + 1 ≤ W.heap.size := h.2.2.2.1
theorem CS.alloc {w : World} {x y : Value} {W : World} (h : CS w x y W) (o : Obj) : CS w x y (W.alloc o) := by
 obtain ⟨h0, h1, h2, h3, p, q, h4⟩ := h
 have b : Below W.heap.size W (W.alloc o) := (belowRefl W).alloc (Nat.le_refl _) o
 exact ⟨(b.cell (p := ⟨w.heap.size, 0, none⟩) (by show w.heap.size < W.heap.size; omega)).trans h0, (b.cell (p := ⟨w.heap.size, 1, none⟩) (by show w.heap.size < W.heap.size; omega)).trans h1, h2.alloc h2.size o, by simp; omega, p, q, h4.alloc o⟩
theorem CS.app {w : World} {x y : Value} {W W' : World} (h : CS w x y W) (b : Below (w.heap.size + 1 + 1) W W') : CS w x y W' := by
 obtain ⟨h0, h1, h2, h3, p, q, h4⟩ := h
 exact ⟨(b.cell (p := ⟨w.heap.size, 0, none⟩) (by show w.heap.size < w.heap.size + 1 + 1; omega)).trans h0, (b.cell (p := ⟨w.heap.size, 1, none⟩) (by show w.heap.size < w.heap.size + 1 + 1; omega)).trans h1, h2.trans (b.mono (by omega)), Nat.le_trans h3 b.size, p, q, h4.keep b (by omega)⟩
theorem CS.set0 {w : World} {x y : Value} {W : World} (h : CS w x y W) (u : Value) : CS w x y (W.setCell ⟨w.heap.size + 1, 0, none⟩ u) := by
 obtain ⟨h0, h1, h2, h3, p, q, h4⟩ := h
 exact ⟨(World.cell?_setCell_other _ _ _ _ (fun e => by simp at e)).trans h0, (World.cell?_setCell_other _ _ _ _ (fun e => by simp at e)).trans h1, h2.setCell (by show _ ≤ _ + 1; omega) u, by simpa [World.setCell] using h3, u, q, h4.set0 u⟩
theorem CS.set1 {w : World} {x y : Value} {W : World} (h : CS w x y W) (u : Value) : CS w x y (W.setCell ⟨w.heap.size + 1, 1, none⟩ u) := by
 obtain ⟨h0, h1, h2, h3, p, q, h4⟩ := h
 exact ⟨(World.cell?_setCell_other _ _ _ _ (fun e => by simp at e)).trans h0, (World.cell?_setCell_other _ _ _ _ (fun e => by simp at e)).trans h1, h2.setCell (by show _ ≤ _ + 1; omega) u, by simpa [World.setCell] using h3, p, u, h4.set1 u⟩
theorem CS.set {w : World} {x y : Value} {W : World} (h : CS w x y W) (u v : Value) : CS w x y ((W.setCell ⟨w.heap.size + 1, 0, none⟩ u).setCell ⟨w.heap.size + 1, 1, none⟩ v) := (h.set0 u).set1 v

set_option maxRecDepth 100000 in
set_option maxHeartbeats 4000000 in
theorem copy64 (ss : List ByteArray) (ps : List Wr) (a1 a2 : Option Addr) (c1 c2 B0 : Nat) (hn : ss.length ≤ 100000000) (hm : ps.length ≤ 100000000) (w : World) (hd : DOwn w B0 a1 c1 a2 c2 ss ps) :
  Calls Tryz.prog 25 #[.agg #[.slice a1 ss.length c1, .slice a2 ps.length c2]] w fun e w' => ∃ b1 d1 b2 d2, e = .returned (.agg #[.slice b1 ss.length d1, .slice b2 ps.length d2]) ∧ DOwn w' w.heap.size b1 d1 b2 d2 ss ps ∧ Below w.heap.size w w' := by
 have HD : Hid (DOwn w B0 a1 c1 a2 c2 ss ps) := hd
 clear hd
 have CS0 : Hid (CS w (.slice a1 ss.length c1) (.slice a2 ps.length c2) (((w.alloc (.cells #[.slice a1 ss.length c1, .slice a2 ps.length c2] 27)).alloc (.cells #[.slice none 0 0, .slice none 0 0] 27)).drew)) := by
  have h0 := (Bx.new w (.slice a1 ss.length c1) (.slice a2 ps.length c2) 27).alloc (.cells #[.slice none 0 0, .slice none 0 0] 27)
  have h1 := Bx.new (w.alloc (.cells #[.slice a1 ss.length c1, .slice a2 ps.length c2] 27)) (.slice none 0 0) (.slice none 0 0) 27
  rw [World.size_alloc] at h1
  exact ⟨h0.c0, h0.c1, (((belowRefl w).alloc (Nat.le_refl _) _).alloc (by simp) _).drew, by show _ ≤ ((w.alloc _).alloc _).heap.size; simp, _, _, h1.drew⟩
 go_enter Tryz.func25, Tryz.ntmps25
 go_wp2
 go_region_held3 (fun w' => w'.cell? ⟨w.heap.size, 0, none⟩ = some (.slice a1 ss.length c1) ∧ w'.cell? ⟨w.heap.size, 1, none⟩ = some (.slice a2 ps.length c2) ∧ Below w.heap.size w w' ∧ w.heap.size + 1 + 1 ≤ w'.heap.size ∧ ∃ p q, Bx w' (w.heap.size + 1) p q)
  (first | exact CS0.out | exact CS.alloc (by assumption) _ | exact CS.app (by assumption) hb6 | exact CS.app (by assumption) hb10 | exact CS.set (by assumption) _ _)
  ((first
   | (refine stepCopy 24 9 1 16 (.string ByteArray.empty) Tryz.underlying24 Tryz.info9 rfl (by decide) (by omega) (by rfl) _ _ (by rfl) (base := w.heap.size + 1 + 1) (base' := B0) (xs := scs ss) (by rfl) ?hb1 ?hb2 (by rfl) ?hb3 (oneCell_s ss) hn ?hb4 ?_
      case hb1 => first | exact hblk_new (by simp) | exact hblk_drew (hblk_new (by simp)) | exact hblk_old (hblk_new (by simp)) | exact hblk_drew (hblk_old (hblk_new (by simp))) | exact (hg10.block _ (by simp) (by simp)).trans (by first | exact hblk_new (by simp) | exact hblk_drew (hblk_new (by simp)) | exact hblk_old (hblk_new (by simp)) | exact hblk_drew (hblk_old (hblk_new (by simp))))
      case hb2 => first | omega | (have q := hb6.size; simp at q; omega) | (have q := hb10.size; simp at q; omega)
      case hb3 => exact HD.out.s.below (CS.b (x := .slice a1 ss.length c1) (y := .slice a2 ps.length c2) (by assumption))
      case hb4 => exact CS.z (x := .slice a1 ss.length c1) (y := .slice a2 ps.length c2) (by assumption)
      intro av6 cv6 w6 hown6 hg6 hb6 hk6
      obtain ⟨_, _, _, _, p6, q6, bx6⟩ := CS.app (x := .slice a1 ss.length c1) (y := .slice a2 ps.length c2) (by assumption) hb6
      have u60 := bx6.c0; have u61 := bx6.c1; have u6f := bx6.fz
      skip)
   | (refine stepCopy 25 56 2 24 (.agg #[.int .i64 0, .string ByteArray.empty]) Tryz.underlying25 Tryz.info56 rfl (by decide) (by omega) (by rfl) _ _ (by rfl) (base := w.heap.size + 1 + 1) (base' := B0) (xs := pcs ps) (by rfl) ?hb1 ?hb2 (by rfl) ?hb3 (oneCell_p ps) hm ?hb4 ?_
      case hb1 => first | exact hblk_new (by simp) | exact hblk_drew (hblk_new (by simp)) | exact hblk_old (hblk_new (by simp)) | exact hblk_drew (hblk_old (hblk_new (by simp))) | exact (hg6.block _ (by simp) (by simp)).trans (by first | exact hblk_new (by simp) | exact hblk_drew (hblk_new (by simp)) | exact hblk_old (hblk_new (by simp)) | exact hblk_drew (hblk_old (hblk_new (by simp))))
      case hb2 => first | omega | (have q := hb6.size; simp at q; omega) | (have q := hb10.size; simp at q; omega)
      case hb3 => exact HD.out.p.below (CS.b (x := .slice a1 ss.length c1) (y := .slice a2 ps.length c2) (by assumption))
      case hb4 => exact CS.z (x := .slice a1 ss.length c1) (y := .slice a2 ps.length c2) (by assumption)
      intro av10 cv10 w10 hown10 hg10 hb10 hk10
      obtain ⟨_, _, _, _, p10, q10, bx10⟩ := CS.app (x := .slice a1 ss.length c1) (y := .slice a2 ps.length c2) (by assumption) hb10
      have hbw10 : Hid (Below w.heap.size w w10) := CS.b (CS.app (x := .slice a1 ss.length c1) (y := .slice a2 ps.length c2) (by assumption) hb10)
      have u100 := bx10.c0; have u101 := bx10.c1; have u10f := bx10.fz
      try have hs6 := hk10 _ _ _ _ _ _ (by decide) hown6
      try have hs6 := hk10 _ _ _ _ _ _ (by decide) (World.ownsRow.alloc hown6 _))))
 all_goals
  have HS : Hid (SOwn w10 (w.heap.size + 1 + 1) (.slice av6 ss.length cv6) ss) := hs6
  have HP : Hid (POwn w10 (w.heap.size + 1 + 1) (.slice av10 ps.length cv10) ps) := hown10
  clear hs6 hown10 hown6 hg6 hg10 hk6 hk10 hb6 hb10 u60 u61 u6f bx6
  go_wp2
  refine bodyPost_ret (v := .agg #[.slice av6 ss.length cv6, .slice av10 ps.length cv10]) (by simp [results, Tryz.results25, go_sem, u100, u101]) rfl ⟨av6, cv6, av10, cv10, rfl, ⟨?_, ?_⟩, ?_⟩
  ·exact ((HS.out.set (by show w.heap.size + 1 < w.heap.size + 1 + 1; omega) _).set (by show w.heap.size + 1 < w.heap.size + 1 + 1; omega) _).mono (by omega)
  ·exact ((HP.out.set (by show w.heap.size + 1 < w.heap.size + 1 + 1; omega) _).set (by show w.heap.size + 1 < w.heap.size + 1 + 1; omega) _).mono (by omega)
  ·exact (hbw10.out.setCell (by show w.heap.size ≤ w.heap.size + 1; omega) _).setCell (by show w.heap.size ≤ w.heap.size + 1; omega) _
end Go.Proofs.YtekjpoenbcnhdaaGreat

namespace Go.Proofs.YtekjpoenbcnhdaaGreat
open Go.RowKit
open DM
attribute [local go_sem ↓] Go.wp_at_zero Go.wp_at_succ

def arT (ss : List ByteArray) (ps : List Wr) (a : Int) : ByteArray := stT ss ps (af a + 1) 47
def raO (ss : List ByteArray) (ps : List Wr) (a : Int) : Option (List ByteArray × Nat) :=
 if isA a = true then (if stB ss (af a + 1) 47 = true then recsGo (arT ss ps a) (cnt ss ps a).toNat [] 0 else none) else none
def oB (o : Option (List ByteArray × Nat)) : Bool := o.isSome
def oE (o : Option (List ByteArray × Nat)) : Nat := (o.map Prod.snd).getD 0
def oL (o : Option (List ByteArray × Nat)) : List ByteArray := (o.map Prod.fst).getD []
theorem raO_na {ss : List ByteArray} {ps : List Wr} {a : Int} (h : isA a = false) : raO ss ps a = none := if_neg (by simp [h])
theorem raO_ns {ss : List ByteArray} {ps : List Wr} {a : Int} (h : isA a = true) (h2 : stB ss (af a + 1) 47 = false) : raO ss ps a = none := by
 unfold raO; rw [if_pos h, if_neg (by simp [h2])]
theorem raO_yes {ss : List ByteArray} {ps : List Wr} {a : Int} (h : isA a = true) (h2 : stB ss (af a + 1) 47 = true) : recsGo (arT ss ps a) (cnt ss ps a).toNat [] 0 = raO ss ps a := by
 unfold raO; rw [if_pos h, if_pos h2]
theorem af_bd (a : Int) : 0 ≤ af a ∧ af a ≤ 49 := by
 by_cases h : isA a = true
 ·rcases isA_iff.1 h with rfl | rfl <;> decide
 ·rw [af_no (by simpa using h)]; omega
theorem scs_len' {l : List ByteArray} {k : Nat} {x : ByteArray} (h : l.length = k) : (l ++ [x]).length = k + 1 := by simp [h]
theorem SOwn.of {w : World} {base k : Nat} {v : Value} {l : List ByteArray} (h : w.ownsRow base 9 1 v k (scs l)) (hl : l.length = k) : SOwn w base v l := by
 show World.ownsRow _ _ _ _ _ _ _
 rw [hl]; exact h
set_option maxRecDepth 100000 in
set_option maxHeartbeats 4000000 in
theorem ira30 (ss : List ByteArray) (ps : List Wr) (a : Int) (a1 a2 : Option Addr) (c1 c2 : Nat) (hn : ss.length ≤ 1048576) (hm : ps.length ≤ 1048576) (hs : ∀ s ∈ ss, s.size ≤ 1048576) (hp : ∀ p ∈ ps, p.2.size ≤ 1048576) (hz : (arT ss ps a).size ≤ 20000) (w : World) (hsr : SRow w a1 ss) (hpr : PRow w a2 ps) :
  Calls Tryz.prog 67 #[.agg #[.slice a1 ss.length c1, .slice a2 ps.length c2], .int .i64 a] w fun e w' => ∃ v, e = .returned (.tuple #[v, .int .i64 (oE (raO ss ps a) : Nat), .bool (oB (raO ss ps a))]) ∧ SOwn w' w.heap.size v (oL (raO ss ps a)) ∧ Below w.heap.size w w' := by
 have HB0 : Hid (Below w.heap.size w (w.alloc (.cells #[.slice a1 ss.length c1, .slice a2 ps.length c2] 27))) := (belowRefl w).alloc (Nat.le_refl _) _
 have HBX : Hid (Bx ((w.alloc (.cells #[.slice a1 ss.length c1, .slice a2 ps.length c2] 27))).drew w.heap.size (.slice a1 ss.length c1) (.slice a2 ps.length c2)) := (Bx.new w _ _ 27).drew
 have HSR : Hid (∀ w' : World, Below w.heap.size w w' → SRow w' a1 ss) := fun w' h => hsr.below h
 have HPR : Hid (∀ w' : World, Below w.heap.size w w' → PRow w' a2 ps) := fun w' h => hpr.below h
 cases hA : isA a with
 | false =>
  have HA : Hid (isA a = false) := hA
  have HN : Hid (raO ss ps a = none) := raO_na hA
  clear hA hsr hpr
  generalize raO ss ps a = R at *
  go_enter Tryz.func67, Tryz.ntmps67
  go_wp2_with (go_at_call 76; refine (isa50 _ false HA.out _).mono ?_; rintro e w2 ⟨rfl, rfl⟩)
  go_ret3
  exact ⟨.slice none 0 0, by rw [HN.out]; rfl, by rw [HN.out]; exact SOwn.nil _ _, HB0.out⟩
 | true =>
  have HA : Hid (isA a = true) := hA
  have HST : Hid (Calls Tryz.prog 91 #[.agg #[.slice a1 ss.length c1, .slice a2 ps.length c2], .int .i64 (af a + 1), .int .i64 47] ((w.alloc (.cells #[.slice a1 ss.length c1, .slice a2 ps.length c2] 27))).drew fun e w' => e = .returned (.tuple #[.string (arT ss ps a), .bool (stB ss (af a + 1) 47)]) ∧ Below ((w.alloc (.cells #[.slice a1 ss.length c1, .slice a2 ps.length c2] 27))).drew.heap.size ((w.alloc (.cells #[.slice a1 ss.length c1, .slice a2 ps.length c2] 27))).drew w') := ist32 ss ps (af a + 1) 47 a1 a2 c1 c2 (by have := af_bd a; omega) (by have := af_bd a; omega) hn hm hs hp _ (hsr.below HB0.out).drew (hpr.below HB0.out).drew
  have HAF : Hid (∀ w : World, Calls Tryz.prog 70 #[.int .i64 a] w fun e w' => e = .returned (.int .i64 (af a)) ∧ w' = w) := iaf15 a
  obtain ⟨hq0, hq1⟩ := af_bd a
  cases hT : stB ss (af a + 1) 47 with
  | false =>
   have HN : Hid (raO ss ps a = none) := raO_ns hA hT
   rw [hT] at HST
   clear hA hsr hpr hT
   generalize raO ss ps a = R at *
   generalize arT ss ps a = s at *
   generalize af a = q at *
   have hqw : IntKind.i64.wrap (q + 1) = q + 1 := by rw [IntKind.wrap_i64]; omega
   go_enter Tryz.func67, Tryz.ntmps67
   go_wp2_with (go_at_call 76; refine (isa50 _ true HA.out _).mono ?_; rintro e w2 ⟨rfl, rfl⟩)
   go_region_held3 (fun w' => w'.cell? ⟨w.heap.size, 0, none⟩ = some (.slice a1 ss.length c1) ∧ w'.cell? ⟨w.heap.size, 1, none⟩ = some (.slice a2 ps.length c2)) (first | go_keep | exact t4.out) ((first | (go_at_call 70; refine (HAF.out _).mono ?_; rintro e w3 ⟨rfl, rfl⟩) | (go_at_call 91; refine HST.out.mono ?_; rintro e w4 ⟨rfl, hb4⟩; have t4 : Hid (w4.cell? ⟨w.heap.size, 0, none⟩ = some (.slice a1 ss.length c1) ∧ w4.cell? ⟨w.heap.size, 1, none⟩ = some (.slice a2 ps.length c2)) := ⟨(HBX.out.keep hb4 HBX.out.lt).c0, (HBX.out.keep hb4 HBX.out.lt).c1⟩)))
   all_goals
    go_wp2
    go_ret3
    exact ⟨.slice none 0 0, by rw [HN.out]; rfl, by rw [HN.out]; exact SOwn.nil _ _, HB0.out.drew.trans (hb4.mono HB0.out.size)⟩
  | true =>
   have HN : Hid (recsGo (arT ss ps a) (cnt ss ps a).toNat [] 0 = raO ss ps a) := raO_yes hA hT
   rw [hT] at HST
   have HCN : Hid (∀ w' : World, Below w.heap.size w w' → Calls Tryz.prog 34 #[.agg #[.slice a1 ss.length c1, .slice a2 ps.length c2], .int .i64 a] w' fun e w'' => e = .returned (.int .i64 (cnt ss ps a)) ∧ Below w'.heap.size w' w'') := fun w' h => icn28 ss ps a a1 a2 c1 c2 (by omega) (by omega) (fun s h => Nat.le_trans (hs s h) (by omega)) (fun p h => Nat.le_trans (hp p h) (by omega)) _ (hsr.below h) (hpr.below h)
   have hcb := cnt_le ss ps a
   have HZ : Hid ((arT ss ps a).size ≤ 20000) := hz
   clear hA hsr hpr hT hz
   generalize raO ss ps a = R at *
   generalize arT ss ps a = s at *
   generalize af a = q at *
   generalize cnt ss ps a = c at *
   obtain ⟨C, rfl⟩ := Int.eq_ofNat_of_zero_le hcb.1
   have hC : C ≤ 255 := by omega
   clear hcb
   simp only [Int.toNat_natCast] at HN
   have hqw : IntKind.i64.wrap (q + 1) = q + 1 := by rw [IntKind.wrap_i64]; omega
   go_enter Tryz.func67, Tryz.ntmps67
   go_wp2_with (go_at_call 76; refine (isa50 _ true HA.out _).mono ?_; rintro e w2 ⟨rfl, rfl⟩)
   go_region_held3 (fun w' => w'.cell? ⟨w.heap.size, 0, none⟩ = some (.slice a1 ss.length c1) ∧ w'.cell? ⟨w.heap.size, 1, none⟩ = some (.slice a2 ps.length c2)) (first | go_keep | exact t4.out) ((first | (go_at_call 70; refine (HAF.out _).mono ?_; rintro e w3 ⟨rfl, rfl⟩) | (go_at_call 91; refine HST.out.mono ?_; rintro e w4 ⟨rfl, hb4⟩; have t4 : Hid (w4.cell? ⟨w.heap.size, 0, none⟩ = some (.slice a1 ss.length c1) ∧ w4.cell? ⟨w.heap.size, 1, none⟩ = some (.slice a2 ps.length c2)) := ⟨(HBX.out.keep hb4 HBX.out.lt).c0, (HBX.out.keep hb4 HBX.out.lt).c1⟩)))
   all_goals
    have HB4 : Hid (Below w.heap.size w w4) := HB0.out.drew.trans (hb4.mono HB0.out.size)
    have HU4 : Hid (Below ((w.alloc (.cells #[.slice a1 ss.length c1, .slice a2 ps.length c2] 27))).heap.size (w.alloc (.cells #[.slice a1 ss.length c1, .slice a2 ps.length c2] 27)) w4) := undrew hb4
    have z4 : w.heap.size + 1 ≤ w4.heap.size := by have := hb4.size; simp at this; omega
    have k0 := t4.out.1
    have k1 := t4.out.2
    clear hb4 HST HAF HB0 t4
    go_wp2_with fail
    refine (HCN.out _ HB4.out).mono ?_
    rintro e w5 ⟨rfl, hb5⟩
    have HB5 : Hid (Below w.heap.size w w5) := HB4.out.trans (hb5.mono HB4.out.size)
    have X5 : Hid (w5.cell? ⟨w.heap.size, 0, none⟩ = some (.slice a1 ss.length c1) ∧ w5.cell? ⟨w.heap.size, 1, none⟩ = some (.slice a2 ps.length c2)) := ⟨(hb5.cell (p := ⟨w.heap.size, 0, none⟩) z4).trans k0, (hb5.cell (p := ⟨w.heap.size, 1, none⟩) z4).trans k1⟩
    clear hb5 k0 k1
    go_wp2
    go_loopw [9, 10, 30] (fun v tp ti wr => ∃ (k p : Nat) (acc : List ByteArray) (av : Option Addr) (cv : Nat), k ≤ C ∧ ti = .int .i64 k ∧ tp = .int .i64 p ∧ v = .slice av k cv ∧ Hid (p ≤ s.size) ∧ Hid (acc.length = k) ∧ Hid (recsGo s (C - k) acc p = R) ∧ Hid (wr.ownsRow w5.heap.size 9 1 (.slice av k cv) k (scs acc)) ∧ Hid (Below w5.heap.size w5 wr)) (fun _ _ ti _ => C - (intOf ti).toNat)
    case atStart => exact ⟨0, 0, [], none, 0, Nat.zero_le _, rfl, rfl, rfl, Nat.zero_le _, rfl, HN, World.ownsRow_nil _ _ _ _, belowRefl _⟩
    case round =>
     clear HN HCN
     obtain ⟨k, p, acc, av, cv, hk, rfl, rfl, rfl, HP, HL, HE, HO, HX⟩ := hrel
     have HB : Hid (Below w.heap.size w wr) := HB5.out.trans (HX.out.mono HB5.out.size)
     by_cases hlt : k < C
     ·have hlt' : (k : Int) < (C : Int) := by omega
      have HE' : Hid (recsGo s (C - (k + 1) + 1) acc p = R) := by show _ = _; rw [show C - (k + 1) + 1 = C - k by omega]; exact HE.out
      clear HE
      go_wp2_with fail
      refine (irc66 s p HP.out HZ.out _).mono ?_
      rintro e w6 ⟨t, q, ok, rfl, hR, hb6⟩
      have HX6 : Hid (Below w5.heap.size w5 w6) := HX.out.trans (hb6.mono HX.out.size)
      have HO6 : Hid (w6.ownsRow w5.heap.size 9 1 (.slice av k cv) k (scs acc)) := ownsBelow HO.out hb6
      clear hb6 HX HO
      rcases hR with ⟨rfl, hr⟩ | ⟨q', rfl, rfl, h0, hq, hr⟩
      ·have HN2 : Hid (R = none) := recs_none HE'.out hr
       clear hr
       go_wp2
       go_ret3
       exact ⟨.slice none 0 0, by rw [HN2.out]; rfl, by rw [HN2.out]; exact SOwn.nil _ _, HB5.out.trans (HX6.out.mono HB5.out.size)⟩
      ·have HE2 : Hid (recsGo s (C - (k + 1)) (acc ++ [t]) q' = R) := recs_some HE'.out hr
       have HQ : Hid (q' ≤ s.size) := hq
       clear hr hq h0 HP
       go_wp2_with (at_builtin; refine wpAppH 24 9 1 16 (.string ByteArray.empty) Tryz.underlying24 Tryz.info9 rfl (by decide) (by omega) (by rfl) _ _ (by rfl) (base := w5.heap.size) (n := k) [.string t] (by rfl) (World.ownsRow.alloc HO6.out _) (by rfl) (by exact hblk_new (by simp)) rfl (by simp [Value.oneCell']) (by omega) (Nat.le_trans HX6.out.size (by simp)) ?_)
       intro g' cap w7 hown7 hb7 hg7
       have HO7 : Hid (w7.ownsRow w5.heap.size 9 1 (.slice (some ⟨g', 0, none⟩) (k + 1) cap) (k + 1) (scs (acc ++ [t]))) := by rw [scs_app]; exact hown7
       have HL7 : Hid ((acc ++ [t]).length = k + 1) := scs_len' HL.out
       have HX7 : Hid (Below w5.heap.size w5 w7) := (HX6.out.alloc HX6.out.size _).trans hb7
       clear hown7 hb7 hg7
       go_wp2
       go_roundw
       case rel => exact ⟨k + 1, q', acc ++ [t], _, _, by omega, by go_num, rfl, rfl, HQ, HL7, HE2, HO7, HX7⟩
       case measure => simp [intOf]; omega
     ·have hlt' : ¬ (k : Int) < (C : Int) := by omega
      have HE' : Hid (some (acc, p) = R) := by have h := HE.out; rw [show C - k = 0 by omega] at h; exact h
      have HS : Hid (SOwn wr w5.heap.size (.slice av k cv) acc) := SOwn.of HO.out HL.out
      go_wp2
      go_ret3
      exact ⟨.slice av k cv, by rw [← HE'.out]; rfl, by rw [← HE'.out]; exact HS.out.mono HB5.out.size, HB.out⟩

set_option maxRecDepth 100000 in
set_option maxHeartbeats 4000000 in
theorem sra29 (ss : List ByteArray) (ps : List Wr) (a : Int) (a1 a2 : Option Addr) (c1 c2 : Nat) (hn : ss.length ≤ 1048576) (hm : ps.length ≤ 1048576) (hs : ∀ s ∈ ss, s.size ≤ 1048576) (hp : ∀ p ∈ ps, p.2.size ≤ 1048576) (hz : (arT ss ps a).size ≤ 20000) (w : World) (hsr : SRow w a1 ss) (hpr : PRow w a2 ps) :
  Calls Tryz.prog 80 #[.agg #[.slice a1 ss.length c1, .slice a2 ps.length c2], .int .i64 a] w fun e w' => ∃ v, e = .returned (.tuple #[v, .int .i64 (oE (raO ss ps a) : Nat), .bool (oB (raO ss ps a))]) ∧ SOwn w' w.heap.size v (oL (raO ss ps a)) ∧ Below w.heap.size w w' := by
 have HB0 : Hid (Below w.heap.size w ((w.alloc (.cells #[.slice a1 ss.length c1, .slice a2 ps.length c2] 27)).alloc (.cells #[] 9))) := ((belowRefl w).alloc (Nat.le_refl _) _).alloc (by simp) _
 have HBX : Hid (Bx (((w.alloc (.cells #[.slice a1 ss.length c1, .slice a2 ps.length c2] 27)).alloc (.cells #[] 9))).drew w.heap.size (.slice a1 ss.length c1) (.slice a2 ps.length c2)) := ((Bx.new w _ _ 27).alloc _).drew
 have HSR : Hid (∀ w' : World, Below w.heap.size w w' → SRow w' a1 ss) := fun w' h => hsr.below h
 have HPR : Hid (∀ w' : World, Below w.heap.size w w' → PRow w' a2 ps) := fun w' h => hpr.below h
 have HE0 : Hid (SOwn ((w.alloc (.cells #[.slice a1 ss.length c1, .slice a2 ps.length c2] 27)).alloc (.cells #[] 9)) (w.heap.size + 1) (.slice (some ⟨w.heap.size + 1, 0, none⟩) 0 0) []) := by
  have h := SOwn.empty (w.alloc (.cells #[.slice a1 ss.length c1, .slice a2 ps.length c2] 27)) (w.heap.size + 1) (by simp)
  rw [World.size_alloc] at h
  exact h
 cases hA : isA a with
 | false =>
  have HA : Hid (isA a = false) := hA
  have HN : Hid (raO ss ps a = none) := raO_na hA
  clear hA hsr hpr
  generalize raO ss ps a = R at *
  go_enter Tryz.func80, Tryz.ntmps80
  go_wp2_with (go_at_call 83; refine (in57 _ _ _ false HA.out _).mono ?_; rintro e w2 ⟨rfl, rfl⟩)
  go_ret3
  exact ⟨.slice (some ⟨w.heap.size + 1, 0, none⟩) 0 0, by rw [HN.out]; rfl, by rw [HN.out]; exact (HE0.out.below (belowRefl _)).mono (by omega), HB0.out⟩
 | true =>
  have HA : Hid (isA a = true) := hA
  have HST : Hid (Calls Tryz.prog 99 #[.agg #[.slice a1 ss.length c1, .slice a2 ps.length c2], .int .i64 (af a + 1), .int .i64 47] (((w.alloc (.cells #[.slice a1 ss.length c1, .slice a2 ps.length c2] 27)).alloc (.cells #[] 9))).drew fun e w' => e = .returned (.tuple #[.string (arT ss ps a), .bool (stB ss (af a + 1) 47)]) ∧ Below (((w.alloc (.cells #[.slice a1 ss.length c1, .slice a2 ps.length c2] 27)).alloc (.cells #[] 9))).drew.heap.size (((w.alloc (.cells #[.slice a1 ss.length c1, .slice a2 ps.length c2] 27)).alloc (.cells #[] 9))).drew w') := sst31 ss ps (af a + 1) 47 a1 a2 c1 c2 hn hm hs hp _ (hsr.below HB0.out).drew (hpr.below HB0.out).drew
  have HAF : Hid (∀ w : World, Calls Tryz.prog 58 #[.int .i64 a] w fun e w' => e = .returned (.int .i64 (af a)) ∧ w' = w) := saf14 a
  obtain ⟨hq0, hq1⟩ := af_bd a
  cases hT : stB ss (af a + 1) 47 with
  | false =>
   have HN : Hid (raO ss ps a = none) := raO_ns hA hT
   rw [hT] at HST
   clear hA hsr hpr hT
   generalize raO ss ps a = R at *
   generalize arT ss ps a = s at *
   generalize af a = q at *
   have hqw : IntKind.i64.wrap (q + 1) = q + 1 := by rw [IntKind.wrap_i64]; omega
   go_enter Tryz.func80, Tryz.ntmps80
   go_wp2_with (go_at_call 83; refine (in57 _ _ _ true HA.out _).mono ?_; rintro e w2 ⟨rfl, rfl⟩)
   go_region_held3 (fun w' => w'.cell? ⟨w.heap.size, 0, none⟩ = some (.slice a1 ss.length c1) ∧ w'.cell? ⟨w.heap.size, 1, none⟩ = some (.slice a2 ps.length c2)) (first | go_keep | exact t4.out) ((first | (go_at_call 58; refine (HAF.out _).mono ?_; rintro e w3 ⟨rfl, rfl⟩) | (go_at_call 99; refine HST.out.mono ?_; rintro e w4 ⟨rfl, hb4⟩; have t4 : Hid (w4.cell? ⟨w.heap.size, 0, none⟩ = some (.slice a1 ss.length c1) ∧ w4.cell? ⟨w.heap.size, 1, none⟩ = some (.slice a2 ps.length c2)) := ⟨(HBX.out.keep hb4 HBX.out.lt).c0, (HBX.out.keep hb4 HBX.out.lt).c1⟩)))
   all_goals
    go_wp2
    go_ret3
    exact ⟨.slice (some ⟨w.heap.size + 1, 0, none⟩) 0 0, by rw [HN.out]; rfl, by rw [HN.out]; exact (HE0.out.below (undrew hb4)).mono (by omega), HB0.out.drew.trans (hb4.mono HB0.out.size)⟩
  | true =>
   have HN : Hid (recsGo (arT ss ps a) (cnt ss ps a).toNat [] 0 = raO ss ps a) := raO_yes hA hT
   rw [hT] at HST
   have HCN : Hid (∀ w' : World, Below w.heap.size w w' → Calls Tryz.prog 41 #[.agg #[.slice a1 ss.length c1, .slice a2 ps.length c2], .int .i64 a] w' fun e w'' => e = .returned (.int .i64 (cnt ss ps a)) ∧ Below w'.heap.size w' w'') := fun w' h => scn27 ss ps a a1 a2 c1 c2 (by omega) (by omega) _ (hsr.below h) (hpr.below h)
   have hcb := cnt_le ss ps a
   have HZ : Hid ((arT ss ps a).size ≤ 20000) := hz
   clear hA hsr hpr hT hz
   generalize raO ss ps a = R at *
   generalize arT ss ps a = s at *
   generalize af a = q at *
   generalize cnt ss ps a = c at *
   obtain ⟨C, rfl⟩ := Int.eq_ofNat_of_zero_le hcb.1
   have hC : C ≤ 255 := by omega
   clear hcb
   simp only [Int.toNat_natCast] at HN
   have hqw : IntKind.i64.wrap (q + 1) = q + 1 := by rw [IntKind.wrap_i64]; omega
   go_enter Tryz.func80, Tryz.ntmps80
   go_wp2_with (go_at_call 83; refine (in57 _ _ _ true HA.out _).mono ?_; rintro e w2 ⟨rfl, rfl⟩)
   go_region_held3 (fun w' => w'.cell? ⟨w.heap.size, 0, none⟩ = some (.slice a1 ss.length c1) ∧ w'.cell? ⟨w.heap.size, 1, none⟩ = some (.slice a2 ps.length c2)) (first | go_keep | exact t4.out) ((first | (go_at_call 58; refine (HAF.out _).mono ?_; rintro e w3 ⟨rfl, rfl⟩) | (go_at_call 99; refine HST.out.mono ?_; rintro e w4 ⟨rfl, hb4⟩; have t4 : Hid (w4.cell? ⟨w.heap.size, 0, none⟩ = some (.slice a1 ss.length c1) ∧ w4.cell? ⟨w.heap.size, 1, none⟩ = some (.slice a2 ps.length c2)) := ⟨(HBX.out.keep hb4 HBX.out.lt).c0, (HBX.out.keep hb4 HBX.out.lt).c1⟩)))
   all_goals
    have HB4 : Hid (Below w.heap.size w w4) := HB0.out.drew.trans (hb4.mono HB0.out.size)
    have HU4 : Hid (Below (((w.alloc (.cells #[.slice a1 ss.length c1, .slice a2 ps.length c2] 27)).alloc (.cells #[] 9))).heap.size ((w.alloc (.cells #[.slice a1 ss.length c1, .slice a2 ps.length c2] 27)).alloc (.cells #[] 9)) w4) := undrew hb4
    have z4 : w.heap.size + 1 ≤ w4.heap.size := by have := hb4.size; simp at this; omega
    have k0 := t4.out.1
    have k1 := t4.out.2
    clear hb4 HST HAF HB0 t4
    have HE4 : Hid (SOwn w4 (w.heap.size + 1) (.slice (some ⟨w.heap.size + 1, 0, none⟩) 0 0) []) := HE0.out.below HU4.out
    have z4' : w.heap.size + 1 < w4.heap.size := by have := HU4.out.size; simp at this; omega
    have X4 : Hid (w4.cell? ⟨w.heap.size, 0, none⟩ = some (.slice a1 ss.length c1) ∧ w4.cell? ⟨w.heap.size, 1, none⟩ = some (.slice a2 ps.length c2)) := ⟨k0, k1⟩
    have HS4 : Hid ((w4.alloc (.cells #[] 9)).ownsRow w4.heap.size 9 1 (.slice (some ⟨w4.heap.size, 0, none⟩) 0 0) 0 (scs [])) := SOwn.empty w4 w4.heap.size (Nat.le_refl _)
    clear k0 k1 HU4 HE0
    go_wp2
    go_loopw [10, 11, 12] (fun v tp ti wr => ∃ (k p : Nat) (acc : List ByteArray) (av : Option Addr) (cv : Nat), k ≤ C ∧ ti = .int .i64 k ∧ tp = .int .i64 p ∧ v = .slice av k cv ∧ Hid (p ≤ s.size) ∧ Hid (acc.length = k) ∧ Hid (recsGo s (C - k) acc p = R) ∧ Hid (wr.ownsRow w4.heap.size 9 1 (.slice av k cv) k (scs acc)) ∧ Hid (Below w4.heap.size w4 wr)) (fun _ _ ti _ => C - (intOf ti).toNat)
    case atStart => exact ⟨0, 0, [], _, _, Nat.zero_le _, rfl, rfl, rfl, Nat.zero_le _, rfl, HN, HS4, (belowRefl _).alloc (Nat.le_refl _) _⟩
    case round =>
     clear HN HS4
     obtain ⟨k, p, acc, av, cv, hk, rfl, rfl, rfl, HP, HL, HE, HO, HX⟩ := hrel
     have HB : Hid (Below w.heap.size w wr) := HB4.out.trans (HX.out.mono HB4.out.size)
     have k0 := (HX.out.cell (p := ⟨w.heap.size, 0, none⟩) z4).trans X4.out.1
     have k1 := (HX.out.cell (p := ⟨w.heap.size, 1, none⟩) z4).trans X4.out.2
     go_wp2_with fail
     refine (HCN.out _ HB.out).mono ?_
     rintro e w5 ⟨rfl, hb5⟩
     have HX5 : Hid (Below w4.heap.size w4 w5) := HX.out.trans (hb5.mono HX.out.size)
     have HO5 : Hid (w5.ownsRow w4.heap.size 9 1 (.slice av k cv) k (scs acc)) := ownsBelow HO.out hb5
     have HB5 : Hid (Below w.heap.size w w5) := HB.out.trans (hb5.mono HB.out.size)
     clear hb5 HX HO HB k0 k1
     by_cases hlt : k < C
     ·have hlt' : (k : Int) < (C : Int) := by omega
      have HE' : Hid (recsGo s (C - (k + 1) + 1) acc p = R) := by show _ = _; rw [show C - (k + 1) + 1 = C - k by omega]; exact HE.out
      clear HE
      go_wp2_with fail
      refine (srs64 s p HP.out HZ.out _).mono ?_
      rintro e w6 ⟨t, q, ok, rfl, hR, hb6⟩
      have HX6 : Hid (Below w4.heap.size w4 w6) := HX5.out.trans (hb6.mono HX5.out.size)
      have HO6 : Hid (w6.ownsRow w4.heap.size 9 1 (.slice av k cv) k (scs acc)) := ownsBelow HO5.out hb6
      have HE6 : Hid (SOwn w6 w.heap.size (.slice (some ⟨w.heap.size + 1, 0, none⟩) 0 0) []) := (HE4.out.below HX6.out).mono (by omega)
      clear hb6 HX5 HO5
      rcases hR with ⟨rfl, hr⟩ | ⟨rfl, rfl, hr⟩ | ⟨q', rfl, rfl, h0, hq, hr⟩
      ·have HN2 : Hid (R = none) := recs_none HE'.out hr
       clear hr
       go_wp2
       go_ret3
       exact ⟨.slice (some ⟨w.heap.size + 1, 0, none⟩) 0 0, by rw [HN2.out]; rfl, by rw [HN2.out]; exact HE6.out, HB4.out.trans (HX6.out.mono HB4.out.size)⟩
      ·have HN2 : Hid (R = none) := recs_none HE'.out hr
       clear hr
       go_wp2
       go_ret3
       exact ⟨.slice (some ⟨w.heap.size + 1, 0, none⟩) 0 0, by rw [HN2.out]; rfl, by rw [HN2.out]; exact HE6.out, HB4.out.trans (HX6.out.mono HB4.out.size)⟩
      ·have HE2 : Hid (recsGo s (C - (k + 1)) (acc ++ [t]) q' = R) := recs_some HE'.out hr
       have HQ : Hid (q' ≤ s.size) := hq
       have hne : t.toList.isEmpty = false := ne_nil h0
       clear hr hq h0 HP
       go_wp2_with (at_builtin; refine wpAppH 24 9 1 16 (.string ByteArray.empty) Tryz.underlying24 Tryz.info9 rfl (by decide) (by omega) (by rfl) _ _ (by rfl) (base := w4.heap.size) (n := k) [.string t] (by rfl) (World.ownsRow.alloc HO6.out _) (by rfl) (by exact hblk_new (by simp)) rfl (by simp [Value.oneCell']) (by omega) (Nat.le_trans HX6.out.size (by simp)) ?_)
       intro g' cap w7 hown7 hb7 hg7
       have HO7 : Hid (w7.ownsRow w4.heap.size 9 1 (.slice (some ⟨g', 0, none⟩) (k + 1) cap) (k + 1) (scs (acc ++ [t]))) := by rw [scs_app]; exact hown7
       have HL7 : Hid ((acc ++ [t]).length = k + 1) := scs_len' HL.out
       have HX7 : Hid (Below w4.heap.size w4 w7) := (HX6.out.alloc HX6.out.size _).trans hb7
       clear hown7 hb7 hg7
       go_wp2
       go_roundw
       case rel => exact ⟨k + 1, q', acc ++ [t], _, _, by omega, by go_num, rfl, rfl, HQ, HL7, HE2, HO7, HX7⟩
       case measure => simp [intOf]; omega
     ·have hlt' : ¬ (k : Int) < (C : Int) := by omega
      have HE' : Hid (some (acc, p) = R) := by have h := HE.out; rw [show C - k = 0 by omega] at h; exact h
      have HS : Hid (SOwn w5 w4.heap.size (.slice av k cv) acc) := SOwn.of HO5.out HL.out
      go_wp2
      go_ret3
      exact ⟨.slice av k cv, by rw [← HE'.out]; rfl, by rw [← HE'.out]; exact HS.out.mono HB4.out.size, HB5.out⟩
end Go.Proofs.YtekjpoenbcnhdaaGreat

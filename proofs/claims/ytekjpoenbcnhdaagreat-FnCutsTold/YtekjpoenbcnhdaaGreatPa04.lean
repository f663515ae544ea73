/- What impl.copyOfDisk and spec.l03Copy return. -/
import Derived.Test.YtekjpoenbcnhdaaGreatPa02
import Derived.Test.YtekjpoenbcnhdaaGreatPa03
import Derived.Deep.RegionLaw
namespace Go.Proofs.YtekjpoenbcnhdaaGreat
open Go.RowKit
open DM
attribute [local go_sem ↓] Go.wp_at_zero Go.wp_at_succ

theorem wpAppH {ops : Array Oper} {rest : List Oper} {o : Oper} {a : Act} {Q : Exit → Act → World → Prop} (T e size bytes : Nat) (z : Value) (hT : Tryz.prog.underlying T = some (.slice e))
  (hinfo : (Tryz.prog.info? e).map (fun i => (i.zero, i.size, i.bytes)) = some (some z, size, bytes)) (hzs : z.cells.size = size) (hsz : 0 < size) (hby : bytes ≤ 64)
  (hgd : o.guard = none) (s x : Operand) (ho : o.op = .call { callee := .builtin .append, args := #[s, x], argTypes := #[T, T] })
  {W : World} {base g n : Nat} {v : Value} {xs : List Value} (news : List Value)
  (hs : a.eval s = v) (hown : W.ownsRow base e size v n xs) (hx : a.eval x = .slice (some ⟨g, 0, none⟩) 1 1) (hblk : W.heap[g]? = some (.cells news.toArray e (0, 0)))
  (hl : news.length = size) (h1 : ∀ u ∈ news, u.oneCell' = true) (hlen : n ≤ 100000000) (hB : base ≤ W.heap.size)
  (h : ∀ g' cap w', w'.ownsRow base e size (.slice (some ⟨g', 0, none⟩) (n + 1) cap) (n + 1) (xs ++ news) → Below base W w' → W.grownBy w' v.ownBlock → wpList Tryz.prog ops Q rest (a.put o.dst (.slice (some ⟨g', 0, none⟩) (n + 1) cap)) w') :
  wpList Tryz.prog ops Q (o :: rest) a W := by
 obtain ⟨i0, hi, hz0, hz1, hz2⟩ := info_parts hinfo
 refine wpList_append_lies _ hgd s x T ho base e i0 z size bytes hT hi hz0 hz1 hz2 hzs hsz v n xs hs hown ⟨g, 0, none⟩ 1 1 news hx (by omega) ?_ h1 (by omega) (by unfold maxLen; omega) ?_ hB _ rfl ?_
 ·intro j u hj
  rw [Addr.add_lit, Nat.zero_add, World.cell?, hblk]
  simpa using hj
 ·calc (n + 1) * bytes ≤ 100000001 * 64 := Nat.mul_le_mul (by omega) hby
   _ ≤ _ := by omega
 ·intro g' cap w' h1 h2 _ _
  exact h g' cap w' h1 ((Below.refl _ _).grown h2 hB (fun j hj => (World.ownsRow.lt hown j hj).1)) h2

theorem stepAppH {ops : Array Oper} {o : Oper} {a : Act} {K : Act → World → Prop} {Q : Exit → Act → World → Prop} {E : Prop} (T e size bytes : Nat) (z : Value) (hT : Tryz.prog.underlying T = some (.slice e))
  (hinfo : (Tryz.prog.info? e).map (fun i => (i.zero, i.size, i.bytes)) = some (some z, size, bytes)) (hzs : z.cells.size = size) (hsz : 0 < size) (hby : bytes ≤ 64)
  (hgd : o.guard = none) (s x : Operand) (ho : o.op = .call { callee := .builtin .append, args := #[s, x], argTypes := #[T, T] })
  {W : World} {base g n : Nat} {v : Value} {xs : List Value} (news : List Value)
  (hs : a.eval s = v) (hown : W.ownsRow base e size v n xs) (hx : a.eval x = .slice (some ⟨g, 0, none⟩) 1 1) (hblk : W.heap[g]? = some (.cells news.toArray e (0, 0)))
  (hl : news.length = size) (h1 : ∀ u ∈ news, u.oneCell' = true) (hlen : n ≤ 100000000) (hB : base ≤ W.heap.size)
  (h : ∀ g' cap w', w'.ownsRow base e size (.slice (some ⟨g', 0, none⟩) (n + 1) cap) (n + 1) (xs ++ news) → Below base W w' → W.grownBy w' v.ownBlock → K (a.put o.dst (.slice (some ⟨g', 0, none⟩) (n + 1) cap)) w') :
  if Region.wanted o (yielded ops a.tmps) = true then Oper.wp Tryz.prog o a W K Q else E := by
 obtain ⟨i0, hi, hz0, hz1, hz2⟩ := info_parts hinfo
 refine step_append_lies _ hgd s x T ho base e i0 z size bytes hT hi hz0 hz1 hz2 hzs hsz v n xs hs hown ⟨g, 0, none⟩ 1 1 news hx (by omega) ?_ h1 (by omega) (by unfold maxLen; omega) ?_ hB _ rfl ?_
 ·intro j u hj
  rw [Addr.add_lit, Nat.zero_add, World.cell?, hblk]
  simpa using hj
 ·calc (n + 1) * bytes ≤ 100000001 * 64 := Nat.mul_le_mul (by omega) hby
   _ ≤ _ := by omega
 ·intro g' cap w' h1 h2 _ _
  exact h g' cap w' h1 ((Below.refl _ _).grown h2 hB (fun j hj => (World.ownsRow.lt hown j hj).1)) h2
structure Bx (w : World) (b : Nat) (x y : Value) : Prop where
 c0 : w.cell? ⟨b, 0, none⟩ = some x
 c1 : w.cell? ⟨b, 1, none⟩ = some y
 fz : ∀ j, w.frozen? ⟨b, j, none⟩ = false
 lt : b < w.heap.size
theorem Bx.keep {w w' : World} {b B : Nat} {x y : Value} (h : Bx w b x y) (hb : Below B w w') (hB : b < B) : Bx w' b x y :=
 ⟨(hb.cell (p := ⟨b, 0, none⟩) hB).trans h.c0, (hb.cell (p := ⟨b, 1, none⟩) hB).trans h.c1, fun j => (hb.frozen (p := ⟨b, j, none⟩) hB).trans (h.fz j), Nat.lt_of_lt_of_le h.lt hb.size⟩
theorem Bx.set0 {w : World} {b : Nat} {x y : Value} (h : Bx w b x y) (u : Value) : Bx (w.setCell ⟨b, 0, none⟩ u) b u y :=
 ⟨World.cell?_setCell_same _ _ _ h.c0, (World.cell?_setCell_other _ _ _ _ (fun e => by cases e)).trans h.c1, fun j => (World.frozen?_setCell _ _ _ _).trans (h.fz j), by simpa [World.setCell] using h.lt⟩
theorem Bx.set1 {w : World} {b : Nat} {x y : Value} (h : Bx w b x y) (u : Value) : Bx (w.setCell ⟨b, 1, none⟩ u) b x u :=
 ⟨(World.cell?_setCell_other _ _ _ _ (fun e => by cases e)).trans h.c0, World.cell?_setCell_same _ _ _ h.c1, fun j => (World.frozen?_setCell _ _ _ _).trans (h.fz j), by simpa [World.setCell] using h.lt⟩
theorem Bx.setO {w : World} {b : Nat} {x y : Value} (h : Bx w b x y) {a : Addr} (hne : a.block ≠ b) (u : Value) : Bx (w.setCell a u) b x y :=
 ⟨(World.cell?_setCell_other _ _ _ _ (fun e => hne (by rw [e]))).trans h.c0, (World.cell?_setCell_other _ _ _ _ (fun e => hne (by rw [e]))).trans h.c1, fun j => (World.frozen?_setCell _ _ _ _).trans (h.fz j), by simpa [World.setCell] using h.lt⟩
theorem Bx.new (w : World) (x y : Value) (t : TypeId) : Bx (w.alloc (.cells #[x, y] t)) w.heap.size x y :=
 ⟨by simp [go_sem], by simp [go_sem], fun j => by simp [go_sem], by simp⟩
theorem Bx.alloc {w : World} {b : Nat} {x y : Value} (h : Bx w b x y) (o : Obj) : Bx (w.alloc o) b x y := h.keep ((belowRefl w).alloc (Nat.le_refl _) o) h.lt
theorem Bx.drew {w : World} {b : Nat} {x y : Value} (h : Bx w b x y) : Bx w.drew b x y := ⟨h.c0, h.c1, h.fz, h.lt⟩

theorem undrew {w w' : World} (h : Below w.drew.heap.size w.drew w') : Below w.heap.size w w' := ⟨h.os, h.tape, h.output, h.size, h.block⟩
theorem take_succ_p (ps : List Wr) (k : Nat) (h : k < ps.length) : ps.take (k + 1) = ps.take k ++ [ps[k]] := by
 rw [List.take_succ_eq_append_getElem h]
theorem take_succ_b (ss : List ByteArray) (k : Nat) (h : k < ss.length) : ss.take (k + 1) = ss.take k ++ [ss[k]] := by
 rw [List.take_succ_eq_append_getElem h]

set_option maxRecDepth 100000 in
set_option maxHeartbeats 4000000 in
theorem copy53 (ss : List ByteArray) (ps : List Wr) (a1 a2 : Option Addr) (c1 c2 : Nat) (hn : ss.length ≤ 90000000) (hm : ps.length ≤ 90000000) (hls : ∀ s ∈ ss, s.size ≤ 1000000000) (hlp : ∀ p ∈ ps, p.2.size ≤ 1000000000) (w : World) (hs : SRow w a1 ss) (hp : PRow w a2 ps) :
  Calls Tryz.prog 73 #[.agg #[.slice a1 ss.length c1, .slice a2 ps.length c2]] w fun e w' => ∃ b1 d1 b2 d2, e = .returned (.agg #[.slice b1 ss.length d1, .slice b2 ps.length d2]) ∧ DOwn w' w.heap.size b1 d1 b2 d2 ss ps ∧ Below w.heap.size w w' := by
 have HS : Hid (SRow w a1 ss) := hs
 have HP : Hid (PRow w a2 ps) := hp
 have HLS : Hid (∀ s ∈ ss, s.size ≤ 1000000000) := hls
 have HLP : Hid (∀ p ∈ ps, p.2.size ≤ 1000000000) := hlp
 clear hs hp hls hlp
 go_enter Tryz.func73, Tryz.ntmps73
 go_wp2
 have X0 : Hid (Bx (((w.alloc (.cells #[.slice a1 ss.length c1, .slice a2 ps.length c2] 27)).alloc (.cells #[.slice none 0 0, .slice none 0 0] 27)).alloc (.cells #[.slice none 0 0, .slice none 0 0] 27)) w.heap.size (.slice a1 ss.length c1) (.slice a2 ps.length c2)) := ((Bx.new w _ _ _).alloc _).alloc _
 have X1 : Hid (Bx (((w.alloc (.cells #[.slice a1 ss.length c1, .slice a2 ps.length c2] 27)).alloc (.cells #[.slice none 0 0, .slice none 0 0] 27)).alloc (.cells #[.slice none 0 0, .slice none 0 0] 27)) (w.heap.size + 1) (.slice none 0 0) (.slice none 0 0)) := by
  have h := (Bx.new (w.alloc (.cells #[.slice a1 ss.length c1, .slice a2 ps.length c2] 27)) (.slice none 0 0) (.slice none 0 0) 27).alloc (.cells #[.slice none 0 0, .slice none 0 0] 27)
  show Bx _ _ _ _
  simpa using h
 have X2 : Hid (Bx (((w.alloc (.cells #[.slice a1 ss.length c1, .slice a2 ps.length c2] 27)).alloc (.cells #[.slice none 0 0, .slice none 0 0] 27)).alloc (.cells #[.slice none 0 0, .slice none 0 0] 27)) (w.heap.size + 1 + 1) (.slice none 0 0) (.slice none 0 0)) := by
  have h := Bx.new ((w.alloc (.cells #[.slice a1 ss.length c1, .slice a2 ps.length c2] 27)).alloc (.cells #[.slice none 0 0, .slice none 0 0] 27)) (.slice none 0 0) (.slice none 0 0) 27
  show Bx _ _ _ _
  simpa using h
 go_loopw [11] (fun t wr => ∃ (k : Nat) (av : Option Addr) (cv : Nat), k ≤ ss.length ∧ t = .int .i64 k ∧ Hid (Below w.heap.size w wr) ∧ Hid (Bx wr w.heap.size (.slice a1 ss.length c1) (.slice a2 ps.length c2)) ∧ Hid (Bx wr (w.heap.size + 1) (.slice none 0 0) (.slice none 0 0)) ∧ Hid (Bx wr (w.heap.size + 1 + 1) (.slice av k cv) (.slice none 0 0)) ∧ Hid (wr.ownsRow (w.heap.size + 1 + 1 + 1) 9 1 (.slice av k cv) k (scs (ss.take k)))) (fun t _ => ss.length - (intOf t).toNat)
 case atStart => exact ⟨0, none, 0, Nat.zero_le _, rfl, (((belowRefl w).alloc (Nat.le_refl _) _).alloc (by simp) _).alloc (by simp; omega) _, X0, X1, X2, World.ownsRow_nil _ _ _ _⟩
 case round =>
  clear X0 X1 X2
  obtain ⟨k, av, cv, hk, rfl, HB, Y0, Y1, Y2, HO⟩ := hrel
  by_cases hlt : k < ss.length
  ·have hlt' : (k : Int) < (ss.length : Int) := by omega
   have h0 : (0 : Int) ≤ (k : Int) := by omega
   obtain ⟨b, off, rfl, hbl, hc⟩ := (HS.out.below HB.out) (by omega)
   have hck := hc k hlt
   have HZ : Hid (ss[k].size ≤ 281474976710656) := Nat.le_trans (HLS.out _ (List.getElem_mem hlt)) (by omega)
   have o0 := Y2.out.c0
   have of0 := Y2.out.fz
   have olt := Y2.out.lt
   clear hc
   go_wp2
   go_region_law (first
    | (refine stepAppH 24 9 1 16 (.string ByteArray.empty) Tryz.underlying24 Tryz.info9 rfl (by decide) (by omega) (by rfl) _ _ (by rfl) (base := w.heap.size + 1 + 1 + 1) [.string ss[k]] (by rfl) (World.ownsRow.alloc (ownsBelow HO.out HB2.out) _) (by rfl) (by exact heap_alloc_new w2 _) rfl (by simp [Value.oneCell']) (by omega) (by simp; omega) ?_; intro g' cap w3 hown3 hb3 hg3; have Y23 := ((Y2.out.keep HB2.out olt).alloc (.cells #[.string ss[k]] 9)).keep hb3 (by omega); have o3 := Y23.c0; have of3 := Y23.fz; have ol3 := Y23.lt)
    | (go_simp; go_at_call 98; refine (clone54 _ HZ.out _).mono ?_; rintro e w2 ⟨rfl, hb2⟩; have HB2 : Hid (Below wr.heap.size wr w2) := undrew hb2; have o2 := (Y2.out.keep HB2.out olt).c0; have ol2 := (Y2.out.keep HB2.out olt).lt))
   all_goals
    have hz : w.heap.size + 1 + 1 + 1 ≤ wr.heap.size := olt
    have HB3 : Hid (Below (w.heap.size + 1 + 1 + 1) wr w3) := ((HB2.out.mono hz).alloc (Nat.le_trans hz HB2.out.size) _).trans hb3
    have HO3 : Hid ((w3.setCell ⟨w.heap.size + 1 + 1, 0, none⟩ (.slice (some ⟨g', 0, none⟩) (k + 1) cap)).ownsRow (w.heap.size + 1 + 1 + 1) 9 1 (.slice (some ⟨g', 0, none⟩) (k + 1) cap) (k + 1) (scs (ss.take (k + 1)))) := by
     rw [take_succ_b ss k hlt, scs_app]
     exact ownsRow_setCell_below hown3 (by show _ + 1 + 1 < _; omega) _
    have V0 : Hid (Bx (w3.setCell ⟨w.heap.size + 1 + 1, 0, none⟩ (.slice (some ⟨g', 0, none⟩) (k + 1) cap)) w.heap.size (.slice (some ⟨b, off, none⟩) ss.length c1) (.slice a2 ps.length c2)) := (Y0.out.keep HB3.out (by omega)).setO (by show _ + 1 + 1 ≠ _; omega) _
    have V1 : Hid (Bx (w3.setCell ⟨w.heap.size + 1 + 1, 0, none⟩ (.slice (some ⟨g', 0, none⟩) (k + 1) cap)) (w.heap.size + 1) (.slice none 0 0) (.slice none 0 0)) := (Y1.out.keep HB3.out (by omega)).setO (by show _ + 1 + 1 ≠ _ + 1; omega) _
    have V2 : Hid (Bx (w3.setCell ⟨w.heap.size + 1 + 1, 0, none⟩ (.slice (some ⟨g', 0, none⟩) (k + 1) cap)) (w.heap.size + 1 + 1) (.slice (some ⟨g', 0, none⟩) (k + 1) cap) (.slice none 0 0)) := (Y2.out.keep HB3.out (by omega)).set0 _
    have HB4 : Hid (Below w.heap.size w (w3.setCell ⟨w.heap.size + 1 + 1, 0, none⟩ (.slice (some ⟨g', 0, none⟩) (k + 1) cap))) := (HB.out.trans (HB3.out.mono (by omega))).setCell (by show _ ≤ _ + 1 + 1; omega) _
    clear hown3 hb3 hg3 Y23 o3 of3 ol3 o2 ol2 o0 of0 olt hck
    go_wp2
    go_roundw
    case rel => exact ⟨k + 1, _, _, by omega, by go_num, HB4, V0, V1, V2, HO3⟩
    case measure => simp [intOf]; omega
  ·have hlt' : ¬ (k : Int) < (ss.length : Int) := by omega
   obtain rfl : k = ss.length := by omega
   have HS1 : Hid (SOwn wr (w.heap.size + 1 + 1 + 1) (.slice av ss.length cv) ss) := by have h := HO.out; rw [List.take_length] at h; exact h
   have g1 := Y0.out.c1
   clear HO
   go_wp2
   clear g1
   go_loopw [26] (fun t wr => ∃ (k : Nat) (aq : Option Addr) (cq : Nat), k ≤ ps.length ∧ t = .int .i64 k ∧ Hid (Below w.heap.size w wr) ∧ Hid (Bx wr w.heap.size (.slice a1 ss.length c1) (.slice a2 ps.length c2)) ∧ Hid (Bx wr (w.heap.size + 1) (.slice none 0 0) (.slice none 0 0)) ∧ Hid (Bx wr (w.heap.size + 1 + 1) (.slice av ss.length cv) (.slice aq k cq)) ∧ Hid (SOwn wr (w.heap.size + 1 + 1 + 1) (.slice av ss.length cv) ss) ∧ Hid (wr.ownsRow (w.heap.size + 1 + 1 + 1) 56 2 (.slice aq k cq) k (pcs (ps.take k)))) (fun t _ => ps.length - (intOf t).toNat)
   case atStart => exact ⟨0, none, 0, Nat.zero_le _, rfl, HB, Y0, Y1, Y2, HS1, World.ownsRow_nil _ _ _ _⟩
   case round =>
    clear HB Y0 Y1 Y2 HS1
    obtain ⟨k, aq, cq, hk, rfl, HB, Y0, Y1, Y2, HS1, HO⟩ := hrel
    by_cases hlt2 : k < ps.length
    ·have hlt2' : (k : Int) < (ps.length : Int) := by omega
     have h0 : (0 : Int) ≤ (k : Int) := by omega
     obtain ⟨b, off, rfl, hbl, hc⟩ := (HP.out.below HB.out) (by omega)
     have hck := (hc k hlt2).1
     have hcl := (hc k hlt2).2
     have HZ : Hid (ps[k].2.size ≤ 281474976710656) := Nat.le_trans (HLP.out _ (List.getElem_mem hlt2)) (by omega)
     have o1 := Y2.out.c1
     have of0 := Y2.out.fz
     have olt := Y2.out.lt
     clear hc
     go_wp2
     have Z1 : Hid (Bx (wr.alloc (.cells #[.int .i64 ps[k].1, .string ps[k].2] 56)) wr.heap.size (.int .i64 ps[k].1) (.string ps[k].2)) := Bx.new _ _ _ _
     have Z2 : Hid (Bx (wr.alloc (.cells #[.int .i64 ps[k].1, .string ps[k].2] 56)) (w.heap.size + 1 + 1) (.slice av ss.length cv) (.slice aq k cq)) := Y2.out.alloc _
     have HO1 : Hid ((wr.alloc (.cells #[.int .i64 ps[k].1, .string ps[k].2] 56)).ownsRow (w.heap.size + 1 + 1 + 1) 56 2 (.slice aq k cq) k (pcs (ps.take k))) := World.ownsRow.alloc HO.out _
     have HS2 : Hid (SOwn (wr.alloc (.cells #[.int .i64 ps[k].1, .string ps[k].2] 56)) (w.heap.size + 1 + 1 + 1) (.slice av ss.length cv) ss) := HS1.out.alloc _
     have hz : w.heap.size + 1 + 1 + 1 ≤ wr.heap.size := olt
     have HW : Hid (Below (w.heap.size + 1 + 1 + 1) wr (wr.alloc (.cells #[.int .i64 ps[k].1, .string ps[k].2] 56))) := (Below.refl _ _).alloc hz _
     go_region_law (first
      | (refine stepAppH 25 56 2 24 (.agg #[.int .i64 0, .string ByteArray.empty]) Tryz.underlying25 Tryz.info56 rfl (by decide) (by omega) (by rfl) _ _ (by rfl) (base := w.heap.size + 1 + 1 + 1) [.int .i64 ps[k].1, .string ps[k].2] (by rfl) (World.ownsRow.alloc (ownsBelow HO1.out HB2.out) _) (by rfl) (by exact heap_alloc_new w2 _) rfl (by simp [Value.oneCell']) (by omega) (by simp; omega) ?_; intro g' cap w3 hown3 hb3 hg3; have Y23 := ((Z2.out.keep HB2.out Z2.out.lt).alloc (.cells #[.int .i64 ps[k].1, .string ps[k].2] 56)).keep hb3 (by omega); have o3 := Y23.c1; have of3 := Y23.fz; have ol3 := Y23.lt)
      | (go_simp; go_at_call 98; refine (clone54 _ HZ.out _).mono ?_; rintro e w2 ⟨rfl, hb2⟩; have HB2 : Hid (Below (wr.alloc (.cells #[.int .i64 ps[k].1, .string ps[k].2] 56)).heap.size (wr.alloc (.cells #[.int .i64 ps[k].1, .string ps[k].2] 56)) w2) := undrew hb2; have o2 := (Z2.out.keep HB2.out Z2.out.lt).c1; have ol2 := (Z2.out.keep HB2.out Z2.out.lt).lt; have p2 := (Z1.out.keep HB2.out Z1.out.lt).c0; have pl2 := (Z1.out.keep HB2.out Z1.out.lt).lt))
     all_goals
      have hz2 : w.heap.size + 1 + 1 + 1 ≤ w2.heap.size := ol2
      have HB3 : Hid (Below (w.heap.size + 1 + 1 + 1) wr w3) := ((HW.out.trans (HB2.out.mono (by simp; omega))).alloc hz2 _).trans hb3
      have HO3 : Hid ((w3.setCell ⟨w.heap.size + 1 + 1, 1, none⟩ (.slice (some ⟨g', 0, none⟩) (k + 1) cap)).ownsRow (w.heap.size + 1 + 1 + 1) 56 2 (.slice (some ⟨g', 0, none⟩) (k + 1) cap) (k + 1) (pcs (ps.take (k + 1)))) := by
       rw [take_succ_p ps k hlt2, pcs_app]
       exact ownsRow_setCell_below hown3 (by show _ + 1 + 1 < _; omega) _
      have HS3 : Hid (SOwn (w3.setCell ⟨w.heap.size + 1 + 1, 1, none⟩ (.slice (some ⟨g', 0, none⟩) (k + 1) cap)) (w.heap.size + 1 + 1 + 1) (.slice av ss.length cv) ss) := by
       have q1 := World.ownsRow.alloc (ownsBelow HS2.out HB2.out) (.cells #[.int .i64 ps[k].1, .string ps[k].2] 56)
       have q2 := World.ownsRow.alloc (ownsBelow HO1.out HB2.out) (.cells #[.int .i64 ps[k].1, .string ps[k].2] 56)
       exact ownsRow_setCell_below (World.ownsRow.kept q1 hg3 (own_apart q1 q2 (by decide))) (by show _ + 1 + 1 < _; omega) _
      have V0 : Hid (Bx (w3.setCell ⟨w.heap.size + 1 + 1, 1, none⟩ (.slice (some ⟨g', 0, none⟩) (k + 1) cap)) w.heap.size (.slice a1 ss.length c1) (.slice (some ⟨b, off, none⟩) ps.length c2)) := (Y0.out.keep HB3.out (by omega)).setO (by show _ + 1 + 1 ≠ _; omega) _
      have V1 : Hid (Bx (w3.setCell ⟨w.heap.size + 1 + 1, 1, none⟩ (.slice (some ⟨g', 0, none⟩) (k + 1) cap)) (w.heap.size + 1) (.slice none 0 0) (.slice none 0 0)) := (Y1.out.keep HB3.out (by omega)).setO (by show _ + 1 + 1 ≠ _ + 1; omega) _
      have V2 : Hid (Bx (w3.setCell ⟨w.heap.size + 1 + 1, 1, none⟩ (.slice (some ⟨g', 0, none⟩) (k + 1) cap)) (w.heap.size + 1 + 1) (.slice av ss.length cv) (.slice (some ⟨g', 0, none⟩) (k + 1) cap)) := (Y2.out.keep HB3.out (by omega)).set1 _
      have HB4 : Hid (Below w.heap.size w (w3.setCell ⟨w.heap.size + 1 + 1, 1, none⟩ (.slice (some ⟨g', 0, none⟩) (k + 1) cap))) := (HB.out.trans (HB3.out.mono (by omega))).setCell (by show _ ≤ _ + 1 + 1; omega) _
      clear hown3 hb3 hg3 Y23 o3 of3 ol3 o2 ol2 p2 pl2 o1 of0 olt hck hcl
      go_wp2
      go_roundw
      case rel => exact ⟨k + 1, _, _, by omega, by go_num, HB4, V0, V1, V2, HS3, HO3⟩
      case measure => simp [intOf]; omega
    ·have hlt2' : ¬ (k : Int) < (ps.length : Int) := by omega
     obtain rfl : k = ps.length := by omega
     have HP1 : Hid (POwn wr (w.heap.size + 1 + 1 + 1) (.slice aq ps.length cq) ps) := by have h := HO.out; rw [List.take_length] at h; exact h
     have q0 := Y2.out.c0
     have q1 := Y2.out.c1
     have r0 := Y1.out.c0
     have r1 := Y1.out.c1
     have rf := Y1.out.fz
     clear HO
     go_wp2
     refine bodyPost_ret (v := .agg #[.slice av ss.length cv, .slice aq ps.length cq]) (by simp [results, Tryz.results73, go_sem, r0, r1]) rfl ⟨av, cv, aq, cq, rfl, ⟨?_, ?_⟩, ?_⟩
     ·exact ((HS1.out.set (by show _ + 1 < _; omega) _).set (by show _ + 1 < _; omega) _).mono (by omega)
     ·exact ((HP1.out.set (by show _ + 1 < _; omega) _).set (by show _ + 1 < _; omega) _).mono (by omega)
     ·exact (HB.out.setCell (by show _ ≤ _ + 1; omega) _).setCell (by show _ ≤ _ + 1; omega) _
end Go.Proofs.YtekjpoenbcnhdaaGreat

namespace Go.Proofs.YtekjpoenbcnhdaaGreat
open Go.RowKit
open DM
attribute [local go_sem ↓] Go.wp_at_zero Go.wp_at_succ

theorem back_mem {ps : List Wr} {a : Int} {t : ByteArray} : ∀ k, back ps a k = some t → ∃ p ∈ ps, p.2 = t
 | 0, h => by simp [back] at h
 | k + 1, h => by
  simp only [back] at h
  split at h
  ·rename_i p hp
   split at h
   ·exact ⟨p, List.mem_of_getElem? hp, by simpa using h⟩
   ·exact back_mem k h
  ·exact back_mem k h
theorem rdR_size {ss : List ByteArray} {ps : List Wr} (hs : ∀ s ∈ ss, s.size ≤ 1048576) (hp : ∀ p ∈ ps, p.2.size ≤ 1048576) (a : Int) : (rdR ss ps a).size ≤ 1048576 := by
 unfold rdR
 split
 ·unfold rd
  cases h : back ps a ps.length with
  | some t =>
   obtain ⟨p, hm, rfl⟩ := back_mem _ h
   exact hp p hm
  | none =>
   simp only [Option.getD_none]
   rw [List.getD_eq_getElem?_getD]
   cases h2 : ss[a.toNat]? with
   | some s => exact hs s (List.mem_of_getElem? h2)
   | none => exact Nat.zero_le 1048576
 ·exact Nat.zero_le 1048576

def stx (ss : List ByteArray) (ps : List Wr) (f : Int) : Nat → List UInt8
 | 0 => []
 | k + 1 => stx ss ps f k ++ (rdR ss ps (f + k)).data.toList
theorem stx_len {ss : List ByteArray} {ps : List Wr} (hs : ∀ s ∈ ss, s.size ≤ 1048576) (hp : ∀ p ∈ ps, p.2.size ≤ 1048576) (f : Int) : ∀ k, (stx ss ps f k).length ≤ k * 1048576
 | 0 => by simp [stx]
 | k + 1 => by
  have h1 := stx_len hs hp f k
  have h2 := rdR_size hs hp (f + k)
  have h3 : (rdR ss ps (f + k)).data.toList.length = (rdR ss ps (f + k)).size := by simp
  simp only [stx, List.length_append]
  omega
def stOk (ss : List ByteArray) (f n : Int) : Prop := 0 ≤ n ∧ n ≤ 100 ∧ ∀ i, i < n.toNat → hasB (f + (i : Nat)) ss.length = true
instance (ss : List ByteArray) (f n : Int) : Decidable (stOk ss f n) := by unfold stOk; infer_instance
def stB (ss : List ByteArray) (f n : Int) : Bool := decide (stOk ss f n)
def stT (ss : List ByteArray) (ps : List Wr) (f n : Int) : ByteArray := if stB ss f n = true then ⟨(stx ss ps f n.toNat).toArray⟩ else ⟨#[]⟩
theorem st_no {ss : List ByteArray} {ps : List Wr} {f n : Int} (h : ¬ stOk ss f n) : stB ss f n = false ∧ stT ss ps f n = ⟨#[]⟩ := by
 have : stB ss f n = false := by simp [stB, h]
 exact ⟨this, if_neg (by simp [this])⟩
theorem st_yes {ss : List ByteArray} {ps : List Wr} {f n : Int} (h : stOk ss f n) : stB ss f n = true ∧ stT ss ps f n = ⟨(stx ss ps f n.toNat).toArray⟩ := by
 have : stB ss f n = true := by simp [stB, h]
 exact ⟨this, if_pos this⟩
theorem ret_sb2 {s t : ByteArray} {a b : Bool} (h : s = t) (h2 : a = b) : Ending.returned (.tuple #[.string s, .bool a]) = .returned (.tuple #[.string t, .bool b]) := by rw [h, h2]
theorem cat_stx (ss : List ByteArray) (ps : List Wr) (f : Int) (k : Nat) : (⟨(stx ss ps f k).toArray⟩ : ByteArray) ++ rdR ss ps (f + k) = ⟨(stx ss ps f (k + 1)).toArray⟩ := by
 apply ByteArray.ext
 simp [stx]

set_option maxRecDepth 100000 in
set_option maxHeartbeats 2000000 in
theorem sst31 (ss : List ByteArray) (ps : List Wr) (f n : Int) (a1 a2 : Option Addr) (c1 c2 : Nat) (hn : ss.length ≤ 1048576) (hm : ps.length ≤ 1048576) (hs : ∀ s ∈ ss, s.size ≤ 1048576) (hp : ∀ p ∈ ps, p.2.size ≤ 1048576) (w : World) (hsr : SRow w a1 ss) (hpr : PRow w a2 ps) :
  Calls Tryz.prog 99 #[.agg #[.slice a1 ss.length c1, .slice a2 ps.length c2], .int .i64 f, .int .i64 n] w fun e w' => e = .returned (.tuple #[.string (stT ss ps f n), .bool (stB ss f n)]) ∧ Below w.heap.size w w' := by
 have HS : Hid (SRow w a1 ss) := hsr
 have HP : Hid (PRow w a2 ps) := hpr
 have HLS : Hid (∀ s ∈ ss, s.size ≤ 1048576) := hs
 have HLP : Hid (∀ p ∈ ps, p.2.size ≤ 1048576) := hp
 clear hsr hpr hs hp
 have b0 : Hid (Below w.heap.size w (w.alloc (.cells #[.slice a1 ss.length c1, .slice a2 ps.length c2] 27))) := (belowRefl w).alloc (Nat.le_refl _) _
 by_cases hn0 : 0 ≤ n ∧ n ≤ 100
 ·have HI : Hid (decide ((0 : Int) ≤ n ∧ n ≤ 100) = true) := by show _ = _; simp; exact hn0
  obtain ⟨m, rfl⟩ := Int.eq_ofNat_of_zero_le hn0.1
  have hm100 : m ≤ 100 := by omega
  go_enter Tryz.func99, Tryz.ntmps99
  go_wp2_with (go_at_call 83; refine (in57 _ _ _ true HI.out _).mono ?_; rintro e w2 ⟨rfl, rfl⟩)
  go_loopw [8, 9] (fun v t wr => ∃ (k : Nat), k ≤ m ∧ t = .int .i64 k ∧ v = .string ⟨(stx ss ps f k).toArray⟩ ∧ Hid (∀ i, i < k → hasB (f + (i : Nat)) ss.length = true) ∧ Hid (Below (w.heap.size + 1) (w.alloc (.cells #[.slice a1 ss.length c1, .slice a2 ps.length c2] 27)) wr)) (fun _ t _ => m - (intOf t).toNat)
  case atStart => exact ⟨0, Nat.zero_le _, rfl, rfl, (fun i hi => by omega), Below.refl _ _⟩
  case round =>
   obtain ⟨k, hk, rfl, rfl, HA, HX⟩ := hrel
   have HB : Hid (Below w.heap.size w wr) := b0.out.trans (HX.out.mono (by omega))
   obtain ⟨g0, g1, z0⟩ := boxed HX.out
   by_cases hlt : k < m
   ·have hlt' : (k : Int) < (m : Int) := by omega
    by_cases hf : 0 ≤ f ∧ f ≤ (ss.length : Int)
    ·have e1 : decide (f < 0) = false := by simp; omega
     have e2 : decide ((ss.length : Int) < f) = false := by simp; omega
     cases hh : hasB (f + (k : Nat)) ss.length with
     | true =>
      have HA2 : Hid (∀ i, i < k + 1 → hasB (f + (i : Nat)) ss.length = true) := fun i hi => by
       by_cases e : i = k
       ·subst e; exact hh
       ·exact HA.out i (by omega)
      have HC : Hid ((⟨(stx ss ps f k).toArray⟩ : ByteArray) ++ rdR ss ps (f + k) = ⟨(stx ss ps f (k + 1)).toArray⟩) := cat_stx ss ps f k
      have hz1 : (⟨(stx ss ps f k).toArray⟩ : ByteArray).size ≤ 200000000 := by
       have := stx_len HLS.out HLP.out f k
       have e : (⟨(stx ss ps f k).toArray⟩ : ByteArray).size = (stx ss ps f k).length := by show (stx ss ps f k).toArray.size = _; simp
       omega
      have hz2 := rdR_size HLS.out HLP.out (f + k)
      have HH : Hid (hasB (f + (k : Nat)) ss.length = true) := hh
      clear hh
      go_wp2_with fail
      refine (srd20_any ss ps _ a1 a2 c1 c2 (by omega) (by omega) _ (HS.out.below HB.out) (HP.out.below HB.out)).mono ?_
      rintro e w2 ⟨rfl, hb2⟩
      rw [HH.out]
      have HX2 : Hid (Below (w.heap.size + 1) (w.alloc (.cells #[.slice a1 ss.length c1, .slice a2 ps.length c2] 27)) w2) := HX.out.trans (hb2.mono (by omega))
      clear hb2 g0 g1 z0
      generalize rdR ss ps (f + k) = tx at *
      go_wp2
      go_roundw
      case rel => exact ⟨k + 1, by omega, by go_num, by rw [← HC.out], HA2, HX2⟩
      case measure => simp [intOf]; omega
     | false =>
      have HN : Hid (stB ss f m = false ∧ stT ss ps f m = ⟨#[]⟩) := st_no (fun h => by have := h.2.2 k (by simpa using hlt); rw [hh] at this; cases this)
      have HH : Hid (hasB (f + (k : Nat)) ss.length = false) := hh
      clear hh
      go_wp2_with fail
      refine (srd20_any ss ps _ a1 a2 c1 c2 (by omega) (by omega) _ (HS.out.below HB.out) (HP.out.below HB.out)).mono ?_
      rintro e w2 ⟨rfl, hb2⟩
      rw [HH.out]
      have HB2 : Hid (Below w.heap.size w w2) := HB.out.trans (hb2.mono HB.out.size)
      clear hb2 g0 g1 z0
      go_wp2
      go_ret2
      exact ⟨ret_sb2 HN.out.2.symm HN.out.1.symm, HB2.out⟩
    ·have HN : Hid (stB ss f m = false ∧ stT ss ps f m = ⟨#[]⟩) := st_no (fun h => by
      have := hasB_iff.1 (h.2.2 0 (by simp; omega))
      simp at this
      omega)
     by_cases hf0 : f < 0
     ·have e1 : decide (f < 0) = true := by simpa using hf0
      go_wp2
      go_ret2
      exact ⟨ret_sb2 HN.out.2.symm HN.out.1.symm, HB.out⟩
     ·have e1 : decide (f < 0) = false := by simpa using hf0
      have e2 : decide ((ss.length : Int) < f) = true := by simp; omega
      go_wp2
      go_ret2
      exact ⟨ret_sb2 HN.out.2.symm HN.out.1.symm, HB.out⟩
   ·have hlt' : ¬ (k : Int) < (m : Int) := by omega
    obtain rfl : k = m := by omega
    have HY : Hid (stB ss f k = true ∧ stT ss ps f k = ⟨(stx ss ps f k).toArray⟩) := st_yes ⟨hn0.1, hn0.2, fun i hi => HA.out i (by simpa using hi)⟩
    go_wp2
    go_ret2
    exact ⟨ret_sb2 HY.out.2.symm HY.out.1.symm, HB.out⟩
 ·have HI : Hid (decide ((0 : Int) ≤ n ∧ n ≤ 100) = false) := by show _ = _; simp only [decide_eq_false_iff_not]; exact hn0
  have HN : Hid (stB ss f n = false ∧ stT ss ps f n = ⟨#[]⟩) := st_no (fun h => hn0 ⟨h.1, h.2.1⟩)
  clear hn0
  go_enter Tryz.func99, Tryz.ntmps99
  go_wp2_with (go_at_call 83; refine (in57 _ _ _ false HI.out _).mono ?_; rintro e w2 ⟨rfl, rfl⟩)
  go_ret2
  exact ⟨ret_sb2 HN.out.2.symm HN.out.1.symm, (belowRefl _).alloc (Nat.le_refl _) _⟩
end Go.Proofs.YtekjpoenbcnhdaaGreat

namespace Go.Proofs.YtekjpoenbcnhdaaGreat
open Go.RowKit
open DM
attribute [local go_sem ↓] Go.wp_at_zero Go.wp_at_succ

theorem fresh92 (w : World) : Lib.IsBuilder 113 5 w.heap.size w.heap.size (bv []) (w.alloc (.cells #[.pointer none, .slice none 0 0] 113)) :=
 Or.inl ⟨Nat.le_refl _, .slice none 0 0, heap_alloc_new w _, World.ownsRow_nil _ _ _ _, by simp [Value.ownBlock]⟩

theorem builder_below {w w' : World} {b : Nat} {bs : List Value} (h : Lib.IsBuilder 113 5 b b bs w) (hb : Below w.heap.size w w') : Lib.IsBuilder 113 5 b b bs w' := by
 have key : ∀ p, Lib.BuilderAt 113 5 b b p bs w → Lib.BuilderAt 113 5 b b p bs w' := fun p h => by
  have hlt := h.lt
  obtain ⟨hB, v, hbk, hown, hne⟩ := h
  exact ⟨hB, v, (hb.block b hlt).trans hbk, ownsBelow hown hb, hne⟩
 rcases h with h | h
 ·exact Or.inl (key _ h)
 ·exact Or.inr (key _ h)

set_option maxRecDepth 100000 in
set_option maxHeartbeats 2000000 in
theorem ist32 (ss : List ByteArray) (ps : List Wr) (f n : Int) (a1 a2 : Option Addr) (c1 c2 : Nat) (hf1 : -9223372036854775808 ≤ f) (hf2 : f ≤ 9223372036854775807) (hn : ss.length ≤ 1048576) (hm : ps.length ≤ 1048576) (hs : ∀ s ∈ ss, s.size ≤ 1048576) (hp : ∀ p ∈ ps, p.2.size ≤ 1048576) (w : World) (hsr : SRow w a1 ss) (hpr : PRow w a2 ps) :
  Calls Tryz.prog 91 #[.agg #[.slice a1 ss.length c1, .slice a2 ps.length c2], .int .i64 f, .int .i64 n] w fun e w' => e = .returned (.tuple #[.string (stT ss ps f n), .bool (stB ss f n)]) ∧ Below w.heap.size w w' := by
 have HS : Hid (SRow w a1 ss) := hsr
 have HP : Hid (PRow w a2 ps) := hpr
 have HLS : Hid (∀ s ∈ ss, s.size ≤ 1048576) := hs
 have HLP : Hid (∀ p ∈ ps, p.2.size ≤ 1048576) := hp
 have HLS2 : Hid (∀ s ∈ ss, s.size ≤ 1000000000) := fun s h => Nat.le_trans (hs s h) (by omega)
 have HLP2 : Hid (∀ p ∈ ps, p.2.size ≤ 1000000000) := fun p h => Nat.le_trans (hp p h) (by omega)
 clear hsr hpr hs hp
 by_cases hn0 : 0 ≤ n ∧ n ≤ 100
 ·obtain ⟨m, rfl⟩ := Int.eq_ofNat_of_zero_le hn0.1
  have hm100 : m ≤ 100 := by omega
  have e1 : decide ((m : Int) < 0) = false := by simp
  have e2 : decide ((100 : Int) < (m : Int)) = false := by simp; omega
  have b0 : Hid (Below w.heap.size w ((w.alloc (.cells #[.slice a1 ss.length c1, .slice a2 ps.length c2] 27)).alloc (.cells #[.pointer none, .slice none 0 0] 113))) := ((belowRefl w).alloc (Nat.le_refl _) _).alloc (by simp) _
  have HI0 : Hid (Lib.IsBuilder 113 5 (w.heap.size + 1) (w.heap.size + 1) (bv (stx ss ps f 0)) ((w.alloc (.cells #[.slice a1 ss.length c1, .slice a2 ps.length c2] 27)).alloc (.cells #[.pointer none, .slice none 0 0] 113))) := by
   have h := fresh92 (w.alloc (.cells #[.slice a1 ss.length c1, .slice a2 ps.length c2] 27))
   rw [World.size_alloc] at h
   exact h
  go_enter Tryz.func91, Tryz.ntmps91
  go_wp2
  go_loopw [19] (fun t wr => ∃ (k : Nat), k ≤ m ∧ t = .int .i64 k ∧ Hid (∀ i, i < k → hasB (f + (i : Nat)) ss.length = true) ∧ Hid (Below (w.heap.size + 1) (w.alloc (.cells #[.slice a1 ss.length c1, .slice a2 ps.length c2] 27)) wr) ∧ Hid (Lib.IsBuilder 113 5 (w.heap.size + 1) (w.heap.size + 1) (bv (stx ss ps f k)) wr)) (fun t _ => m - (intOf t).toNat)
  case atStart => exact ⟨0, Nat.zero_le _, rfl, (fun i hi => by omega), (Below.refl _ _).alloc (by simp) _, HI0⟩
  case round =>
   clear HI0
   obtain ⟨k, hk, rfl, HA, HX, HI⟩ := hrel
   have HB : Hid (Below w.heap.size w wr) := ((belowRefl w).alloc (Nat.le_refl _) _).trans (HX.out.mono (by omega))
   obtain ⟨g0, g1, z0⟩ := boxed HX.out
   by_cases hlt : k < m
   ·have hlt' : (k : Int) < (m : Int) := by omega
    have hfk : IntKind.i64.wrap (f + (k : Int)) = f + (k : Int) := by
     rw [IntKind.wrap_i64]
     by_cases hk0 : k = 0
     ·subst hk0; simp; omega
     ·have := hasB_iff.1 (HA.out (k - 1) (by omega))
      omega
    cases hh : hasB (f + (k : Nat)) ss.length with
    | true =>
     have HA2 : Hid (∀ i, i < k + 1 → hasB (f + (i : Nat)) ss.length = true) := fun i hi => by
      by_cases e : i = k
      ·subst e; exact hh
      ·exact HA.out i (by omega)
     have HLen : Hid ((stx ss ps f k).length + (rdR ss ps (f + k)).size ≤ 1000000000) := by
      have h1 := stx_len HLS.out HLP.out f k
      have h2 := rdR_size HLS.out HLP.out (f + k)
      show _ ≤ _
      omega
     have HSX : Hid (stx ss ps f (k + 1) = stx ss ps f k ++ (rdR ss ps (f + k)).data.toList) := rfl
     have HH : Hid (hasB (f + (k : Nat)) ss.length = true) := hh
     clear hh
     go_wp2_with fail
     refine (ird21_any ss ps _ a1 a2 c1 c2 (by omega) (by omega) HLS2.out HLP2.out _ (HS.out.below HB.out) (HP.out.below HB.out)).mono ?_
     rintro e w2 ⟨rfl, hb2⟩
     rw [HH.out]
     have HX2 : Hid (Below (w.heap.size + 1) (w.alloc (.cells #[.slice a1 ss.length c1, .slice a2 ps.length c2] 27)) w2) := HX.out.trans (hb2.mono (by omega))
     have HI2 : Hid (Lib.IsBuilder 113 5 (w.heap.size + 1) (w.heap.size + 1) (bv (stx ss ps f k)) w2) := builder_below HI.out hb2
     have hw2 : w.heap.size + 1 ≤ w2.heap.size := Nat.le_trans z0 hb2.size
     clear hb2 g0 g1 z0 hfk
     generalize rdR ss ps (f + k) = tx at *
     go_wp2_with fail
     refine (write69 (w.heap.size + 1) (w.heap.size + 1) (stx ss ps f k) tx _ HI2.out HLen.out hw2).mono ?_
     rintro e w3 ⟨rfl, h3, hb3⟩
     have HI3 : Hid (Lib.IsBuilder 113 5 (w.heap.size + 1) (w.heap.size + 1) (bv (stx ss ps f (k + 1))) w3) := Or.inr (by rw [HSX.out]; exact h3)
     have HX3 : Hid (Below (w.heap.size + 1) (w.alloc (.cells #[.slice a1 ss.length c1, .slice a2 ps.length c2] 27)) w3) := HX2.out.trans hb3
     clear h3 hb3
     go_wp2
     go_roundw
     case rel => exact ⟨k + 1, by omega, by go_num, HA2, HX3, HI3⟩
     case measure => simp [intOf]; omega
    | false =>
     have HN : Hid (stB ss f m = false ∧ stT ss ps f m = ⟨#[]⟩) := st_no (fun h => by have := h.2.2 k (by simpa using hlt); rw [hh] at this; cases this)
     have HH : Hid (hasB (f + (k : Nat)) ss.length = false) := hh
     clear hh
     go_wp2_with fail
     refine (ird21_any ss ps _ a1 a2 c1 c2 (by omega) (by omega) HLS2.out HLP2.out _ (HS.out.below HB.out) (HP.out.below HB.out)).mono ?_
     rintro e w2 ⟨rfl, hb2⟩
     rw [HH.out]
     have HB2 : Hid (Below w.heap.size w w2) := HB.out.trans (hb2.mono HB.out.size)
     clear hb2 g0 g1 z0 hfk
     go_wp2
     go_ret2
     exact ⟨ret_sb2 HN.out.2.symm HN.out.1.symm, HB2.out⟩
   ·have hlt' : ¬ (k : Int) < (m : Int) := by omega
    obtain rfl : k = m := by omega
    have HY : Hid (stB ss f k = true ∧ stT ss ps f k = ⟨(stx ss ps f k).toArray⟩) := st_yes ⟨hn0.1, hn0.2, fun i hi => HA.out i (by simpa using hi)⟩
    go_wp2_with fail
    refine (Tryz.Builder_String_any (w.heap.size + 1) (w.heap.size + 1) (stx ss ps f k) _ HI.out z0).mono ?_
    rintro e w2 ⟨rfl, hb2⟩
    have HB2 : Hid (Below w.heap.size w w2) := HB.out.trans (hb2.mono (by omega))
    clear hb2
    go_wp2
    go_ret2
    exact ⟨ret_sb2 HY.out.2.symm HY.out.1.symm, HB2.out⟩
 ·have HN : Hid (stB ss f n = false ∧ stT ss ps f n = ⟨#[]⟩) := st_no (fun h => hn0 ⟨h.1, h.2.1⟩)
  by_cases h0 : n < 0
  ·have e1 : decide (n < 0) = true := by simpa using h0
   go_enter Tryz.func91, Tryz.ntmps91
   go_wp2
   go_ret2
   exact ⟨ret_sb2 HN.out.2.symm HN.out.1.symm, (belowRefl _).alloc (Nat.le_refl _) _⟩
  ·have e1 : decide (n < 0) = false := by simpa using h0
   have e2 : decide ((100 : Int) < n) = true := by simp; omega
   go_enter Tryz.func91, Tryz.ntmps91
   go_wp2
   go_ret2
   exact ⟨ret_sb2 HN.out.2.symm HN.out.1.symm, (belowRefl _).alloc (Nat.le_refl _) _⟩
end Go.Proofs.YtekjpoenbcnhdaaGreat

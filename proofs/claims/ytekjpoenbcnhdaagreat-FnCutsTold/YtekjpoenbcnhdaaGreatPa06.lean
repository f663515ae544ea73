/- What WriteSector returns, on both sides. -/
import Derived.Test.YtekjpoenbcnhdaaGreatPa05
import Derived.Test.YtekjpoenbcnhdaaGreatPa02
import Derived.Lib.BufferWrite
import Derived.Deep.MidRow
namespace Go.Proofs.YtekjpoenbcnhdaaGreat
open Go.RowKit
open DM
attribute [local go_sem ↓] Go.wp_at_zero Go.wp_at_succ

theorem Bx.keepG {w w' : World} {b : Nat} {x y : Value} {row : Option Nat} (h : Bx w b x y) (hg : w.grownBy w' row) (hne : some b ≠ row) : Bx w' b x y := by
 have e := hg.block b h.lt hne
 exact ⟨(World.cell?_of_block (w := w) (a := ⟨b, 0, none⟩) e).trans h.c0, (World.cell?_of_block (w := w) (a := ⟨b, 1, none⟩) e).trans h.c1, fun j => (World.frozen?_of_block (w := w) (a := ⟨b, j, none⟩) e).trans (h.fz j), Nat.lt_of_lt_of_le h.lt hg.size⟩

theorem grown_set (w : World) (g k : Nat) (v : Value) : w.grownBy (w.setCell ⟨g, k, none⟩ v) (some g) :=
 ⟨rfl, rfl, rfl, by simp [World.setCell], fun j _ hne => Below.heap_setCell _ _ _ _ (fun e => hne (by rw [e]))⟩
theorem blk_ne {w : World} {b e s n X : Nat} {v : Value} {xs : List Value} {cs : Array Value} {e2 : TypeId} {m : Nat × Nat} (h : w.ownsRow b e s v n xs) (hX : w.heap[X]? = some (.cells cs e2 m)) (hne : e2 ≠ e) : v.ownBlock ≠ some X := by
 rcases h.2 with ⟨rfl, _⟩ | ⟨g, cap, cur, rfl, _, hh, _⟩
 ·simp [Value.ownBlock]
 ·intro he
  simp only [Value.ownBlock, Option.some.injEq] at he
  rw [he, hX] at hh
  simp only [Option.some.injEq, Obj.cells.injEq] at hh
  exact hne hh.2.1
theorem own_set {w : World} {b e s n X k : Nat} {v u : Value} {xs : List Value} (h : w.ownsRow b e s v n xs) (hne : v.ownBlock ≠ some X) : (w.setCell ⟨X, k, none⟩ u).ownsRow b e s v n xs :=
 World.ownsRow.kept h (grown_set w X k u) (Or.inr hne)

def wsP (ss : List ByteArray) (ps : List Wr) (at' : Int) (t : ByteArray) : List Wr := if okB ss (ps ++ [(at', t)]) = true then ps ++ [(at', t)] else ps
theorem wsP_yes {ss : List ByteArray} {ps : List Wr} {at' : Int} {t : ByteArray} (h : okB ss (ps ++ [(at', t)]) = true) : wsP ss ps at' t = ps ++ [(at', t)] := if_pos h
theorem wsP_no {ss : List ByteArray} {ps : List Wr} {at' : Int} {t : ByteArray} (h : okB ss (ps ++ [(at', t)]) = false) : wsP ss ps at' t = ps := if_neg (by simp [h])
theorem okB_snoc (ss : List ByteArray) (ps : List Wr) (at' : Int) (t : ByteArray) :
  okB ss (ps ++ [(at', t)]) = true ↔ okB ss ps = true ∧ (0 ≤ at' ∧ at' < (ss.length : Int)) ∧ t.size = 64 ∧ ps.length < 60 := by
 rw [okB_iff, okB_iff]
 unfold OkD
 constructor
 ·rintro ⟨h1, h2, h3, h4, h5⟩
  have hl := h5 (at', t) (by simp)
  simp only [List.length_append, List.length_cons, List.length_nil] at h3
  exact ⟨⟨h1, h2, by omega, h4, fun p hp => h5 p (List.mem_append_left _ hp)⟩, ⟨hl.1, hl.2.1⟩, hl.2.2, by omega⟩
 ·rintro ⟨⟨h1, h2, h3, h4, h5⟩, ha, ht, hm⟩
  refine ⟨h1, h2, by simp; omega, h4, fun p hp => ?_⟩
  rcases List.mem_append.1 hp with hp | hp
  ·exact h5 p hp
  ·rw [List.mem_singleton.1 hp]
   exact ⟨ha.1, ha.2, ht⟩

set_option maxRecDepth 100000 in
set_option maxHeartbeats 4000000 in
theorem iws18 (ss : List ByteArray) (ps : List Wr) (at' : Int) (t : ByteArray) (a1 a2 : Option Addr) (c1 c2 : Nat) (hn : ss.length ≤ 90000000) (hm : ps.length ≤ 80000000) (hls : ∀ s ∈ ss, s.size ≤ 1000000000) (hlp : ∀ p ∈ ps, p.2.size ≤ 1000000000) (ht : t.size ≤ 1000000000) (w : World) (hs : SRow w a1 ss) (hp : PRow w a2 ps) :
  Calls Tryz.prog 97 #[.agg #[.slice a1 ss.length c1, .slice a2 ps.length c2], .int .i64 at', .string t] w fun e w' => ∃ b1 d1 b2 d2, e = .returned (.tuple #[.agg #[.slice b1 ss.length d1, .slice b2 (wsP ss ps at' t).length d2], .bool (okB ss (ps ++ [(at', t)]))]) ∧ DOwn w' w.heap.size b1 d1 b2 d2 ss (wsP ss ps at' t) ∧ Below w.heap.size w w' := by
 have HS : Hid (SRow w a1 ss) := hs
 have HP : Hid (PRow w a2 ps) := hp
 have HLS : Hid (∀ s ∈ ss, s.size ≤ 1000000000) := hls
 have HLP : Hid (∀ p ∈ ps, p.2.size ≤ 1000000000) := hlp
 clear hs hp hls hlp
 have b0 : Hid (Below w.heap.size w ((w.alloc (.cells #[.slice a1 ss.length c1, .slice a2 ps.length c2] 27)).alloc (.cells #[.slice none 0 0, .slice none 0 0] 27))) := ((belowRefl w).alloc (Nat.le_refl _) _).alloc (by simp) _
 have X0 : Hid (Bx ((w.alloc (.cells #[.slice a1 ss.length c1, .slice a2 ps.length c2] 27)).alloc (.cells #[.slice none 0 0, .slice none 0 0] 27)) w.heap.size (.slice a1 ss.length c1) (.slice a2 ps.length c2)) := (Bx.new w _ _ _).alloc _
 have X1 : Hid (Bx ((w.alloc (.cells #[.slice a1 ss.length c1, .slice a2 ps.length c2] 27)).alloc (.cells #[.slice none 0 0, .slice none 0 0] 27)) (w.heap.size + 1) (.slice none 0 0) (.slice none 0 0)) := by
  have h := Bx.new (w.alloc (.cells #[.slice a1 ss.length c1, .slice a2 ps.length c2] 27)) (.slice none 0 0) (.slice none 0 0) 27
  show Bx _ _ _ _
  simpa using h
 go_enter Tryz.func97, Tryz.ntmps97
 go_wp2_with fail
 refine (copy53 ss ps a1 a2 c1 c2 hn (by omega) HLS.out HLP.out _ (HS.out.below b0.out) (HP.out.below b0.out)).mono ?_
 rintro e w1 ⟨b1, d1, b2, d2, rfl, hd1, hb1⟩
 have hz1 : w.heap.size + 1 + 1 ≤ w1.heap.size := by have := hb1.size; simp at this; omega
 have HD1 : Hid (DOwn w1 (w.heap.size + 1 + 1) b1 d1 b2 d2 ss ps) := hd1.mono (by simp)
 have Y0 : Hid (Bx w1 w.heap.size (.slice a1 ss.length c1) (.slice a2 ps.length c2)) := X0.out.keep hb1 X0.out.lt
 have Y1 : Hid (Bx w1 (w.heap.size + 1) (.slice none 0 0) (.slice none 0 0)) := X1.out.keep hb1 X1.out.lt
 have HB1 : Hid (Below w.heap.size w w1) := b0.out.trans (hb1.mono b0.out.size)
 clear hd1 hb1 X0 X1 b0
 have HZ : Hid (t.size ≤ 281474976710656) := by show _ ≤ _; omega
 have Z1 : Hid (Bx (w1.alloc (.cells #[.slice b1 ss.length d1, .slice b2 ps.length d2] 27)) w1.heap.size (.slice b1 ss.length d1) (.slice b2 ps.length d2)) := Bx.new _ _ _ _
 have HD2 : Hid (DOwn (w1.alloc (.cells #[.slice b1 ss.length d1, .slice b2 ps.length d2] 27)) (w.heap.size + 1 + 1) b1 d1 b2 d2 ss ps) := ⟨HD1.out.s.alloc _, HD1.out.p.alloc _⟩
 have HX1 : Hid ((w1.alloc (.cells #[.slice b1 ss.length d1, .slice b2 ps.length d2] 27)).heap[w1.heap.size]? = some (.cells #[.slice b1 ss.length d1, .slice b2 ps.length d2] 27 (0, 0))) := heap_alloc_new w1 _
 have HN : Hid (some w1.heap.size ≠ (Value.slice b2 ps.length d2).ownBlock) := fun e => by have := (World.ownsRow.lt HD1.out.p _ e.symm).2; omega
 go_wp2
 go_region_law (first
  | (refine stepAppH 25 56 2 24 (.agg #[.int .i64 0, .string ByteArray.empty]) Tryz.underlying25 Tryz.info56 rfl (by decide) (by omega) (by rfl) _ _ (by rfl) (base := w.heap.size + 1 + 1) [.int .i64 at', .string t] (by rfl) (World.ownsRow.alloc (ownsBelow HD2.out.p HB2.out) _) (by rfl) (by exact heap_alloc_new w2 _) rfl (by simp [Value.oneCell']) (by omega) (by simp; omega) ?_; intro g' cap w3 hown3 hb3 hg3; have Y23 := ((Z1.out.keep HB2.out Z1.out.lt).alloc (.cells #[.int .i64 at', .string t] 56)).keepG hg3 HN.out; have o3 := Y23.c1; have of3 := Y23.fz; have ol3 := Y23.lt)
  | (go_simp; go_at_call 98; refine (clone54 _ HZ.out _).mono ?_; rintro e w2 ⟨rfl, hb2⟩; have HB2 : Hid (Below (w1.alloc (.cells #[.slice b1 ss.length d1, .slice b2 ps.length d2] 27)).heap.size (w1.alloc (.cells #[.slice b1 ss.length d1, .slice b2 ps.length d2] 27)) w2) := undrew hb2; have o2 := (Z1.out.keep HB2.out Z1.out.lt).c1; have ol2 := (Z1.out.keep HB2.out Z1.out.lt).lt; have hz2 : w.heap.size + 1 + 1 ≤ w2.heap.size := by have := HB2.out.size; simp at this; omega))
 all_goals
  have HX3 : Hid (w3.heap[w1.heap.size]? = some (.cells #[.slice b1 ss.length d1, .slice b2 ps.length d2] 27 (0, 0))) := by
   have h1 := (HB2.out.block w1.heap.size (by simp)).trans HX1.out
   have h2 : (w2.alloc (.cells #[.int .i64 at', .string t] 56)).heap[w1.heap.size]? = _ := (Below.heap_alloc _ _ _ (Nat.lt_of_lt_of_le (by simp) HB2.out.size)).trans h1
   exact (hg3.block _ (Nat.lt_of_lt_of_le (Nat.lt_of_lt_of_le (by simp) HB2.out.size) (by simp)) HN.out).trans h2
  have HP4 : Hid (POwn (w3.setCell ⟨w1.heap.size, 1, none⟩ (.slice (some ⟨g', 0, none⟩) (ps.length + 1) cap)) (w.heap.size + 1 + 1) (.slice (some ⟨g', 0, none⟩) (ps ++ [(at', t)]).length cap) (ps ++ [(at', t)])) := by
   have h := own_set (u := .slice (some ⟨g', 0, none⟩) (ps.length + 1) cap) (k := 1) hown3 (blk_ne hown3 HX3.out (by decide))
   show World.ownsRow _ _ _ _ _ _ _
   rw [pcs_app, show pcs [(at', t)] = [.int .i64 at', .string t] from rfl]
   simpa using h
  have HS4 : Hid (SOwn (w3.setCell ⟨w1.heap.size, 1, none⟩ (.slice (some ⟨g', 0, none⟩) (ps.length + 1) cap)) (w.heap.size + 1 + 1) (.slice b1 ss.length d1) ss) := by
   have q1 := World.ownsRow.alloc (ownsBelow HD2.out.s HB2.out) (.cells #[.int .i64 at', .string t] 56)
   have q2 := World.ownsRow.alloc (ownsBelow HD2.out.p HB2.out) (.cells #[.int .i64 at', .string t] 56)
   have q3 := World.ownsRow.kept q1 hg3 (own_apart q1 q2 (by decide))
   exact own_set q3 (blk_ne q3 HX3.out (by decide))
  have HB3 : Hid (Below (w.heap.size + 1 + 1) w1 w3) := (((((Below.refl _ _).alloc hz1 _).trans (HB2.out.mono (by simp; omega)))).alloc hz2 _).trans hb3
  have V0 : Hid (Bx (w3.setCell ⟨w1.heap.size, 1, none⟩ (.slice (some ⟨g', 0, none⟩) (ps.length + 1) cap)) w.heap.size (.slice a1 ss.length c1) (.slice a2 ps.length c2)) := (Y0.out.keep HB3.out (by omega)).setO (by show w1.heap.size ≠ _; omega) _
  have V1 : Hid (Bx (w3.setCell ⟨w1.heap.size, 1, none⟩ (.slice (some ⟨g', 0, none⟩) (ps.length + 1) cap)) (w.heap.size + 1) (.slice none 0 0) (.slice none 0 0)) := (Y1.out.keep HB3.out (by omega)).setO (by show w1.heap.size ≠ _; omega) _
  have V2 : Hid (Bx (w3.setCell ⟨w1.heap.size, 1, none⟩ (.slice (some ⟨g', 0, none⟩) (ps.length + 1) cap)) w1.heap.size (.slice b1 ss.length d1) (.slice (some ⟨g', 0, none⟩) (ps.length + 1) cap)) := Y23.set1 _
  have HB4 : Hid (Below w.heap.size w (w3.setCell ⟨w1.heap.size, 1, none⟩ (.slice (some ⟨g', 0, none⟩) (ps.length + 1) cap))) := (HB1.out.trans (HB3.out.mono (by omega))).setCell (by show w.heap.size ≤ w1.heap.size; omega) _
  have hlen : (ps ++ [(at', t)]).length = ps.length + 1 := by simp
  have HLN : Hid ((ps ++ [(at', t)]).length = ps.length + 1) := hlen
  clear hown3 hb3 hg3 Y23 o3 of3 ol3 o2 ol2 HB3 hlen
  generalize w3.setCell ⟨w1.heap.size, 1, none⟩ (.slice (some ⟨g', 0, none⟩) (ps.length + 1) cap) = w4 at *
  have u0 := V2.out.c0
  have u1 := V2.out.c1
  go_wp2_with fail
  have HC := iok22 ss (ps ++ [(at', t)]) b1 (some ⟨g', 0, none⟩) d1 cap (by omega) (by rw [HLN.out]; omega) w4 HS4.out.srow HP4.out.prow
  rw [HLN.out] at HC
  refine HC.mono ?_
  rintro e w5 ⟨rfl, hb5⟩
  have HS5 : Hid (SOwn w5 (w.heap.size + 1 + 1) (.slice b1 ss.length d1) ss) := HS4.out.below hb5
  have HP5 : Hid (POwn w5 (w.heap.size + 1 + 1) (.slice (some ⟨g', 0, none⟩) (ps ++ [(at', t)]).length cap) (ps ++ [(at', t)])) := HP4.out.below hb5
  have HB5 : Hid (Below w.heap.size w w5) := HB4.out.trans (hb5.mono HB4.out.size)
  have T0 : Hid (Bx w5 w.heap.size (.slice a1 ss.length c1) (.slice a2 ps.length c2)) := V0.out.keep hb5 V0.out.lt
  have T1 : Hid (Bx w5 (w.heap.size + 1) (.slice none 0 0) (.slice none 0 0)) := V1.out.keep hb5 V1.out.lt
  have T2 : Hid (Bx w5 w1.heap.size (.slice b1 ss.length d1) (.slice (some ⟨g', 0, none⟩) (ps.length + 1) cap)) := V2.out.keep hb5 V2.out.lt
  clear hb5 u0 u1 HC
  by_cases hok : okB ss (ps ++ [(at', t)]) = true
  ·have HW : Hid (wsP ss ps at' t = ps ++ [(at', t)]) := wsP_yes hok
   have s0 := T2.out.c0
   have s1 := T2.out.c1
   have t0 := T1.out.c0
   have t1 := T1.out.c1
   have tf := T1.out.fz
   have HOK : Hid (okB ss (ps ++ [(at', t)]) = true) := hok
   go_wp2
   refine bodyPost_ret (v := .tuple #[.agg #[.slice b1 ss.length d1, .slice (some ⟨g', 0, none⟩) (ps.length + 1) cap], .bool true]) (by simp [results, Tryz.results97, go_sem, t0, t1]) rfl ⟨b1, d1, some ⟨g', 0, none⟩, cap, ?_, ⟨?_, ?_⟩, ?_⟩
   ·rw [HW.out, HLN.out, HOK.out]
   ·exact ((HS5.out.set (by show w.heap.size + 1 < _; omega) _).set (by show w.heap.size + 1 < _; omega) _).mono (by omega)
   ·rw [HW.out]
    exact ((HP5.out.set (by show w.heap.size + 1 < _; omega) _).set (by show w.heap.size + 1 < _; omega) _).mono (by omega)
   ·exact (HB5.out.setCell (by show _ ≤ w.heap.size + 1; omega) _).setCell (by show _ ≤ w.heap.size + 1; omega) _
  ·have hok' : okB ss (ps ++ [(at', t)]) = false := by simpa using hok
   have HW : Hid (wsP ss ps at' t = ps) := wsP_no hok'
   have HOK : Hid (okB ss (ps ++ [(at', t)]) = false) := hok'
   have s0 := T0.out.c0
   have s1 := T0.out.c1
   clear hok
   go_wp2_with fail
   refine (copy53 ss ps a1 a2 c1 c2 hn (by omega) HLS.out HLP.out _ (HS.out.below HB5.out) (HP.out.below HB5.out)).mono ?_
   rintro e w6 ⟨p1, q1, p2, q2, rfl, hd6, hb6⟩
   have hz5 : w.heap.size + 1 < w5.heap.size := T1.out.lt
   have HD6 : Hid (DOwn w6 (w.heap.size + 1 + 1) p1 q1 p2 q2 ss ps) := hd6.mono hz5
   have HB6 : Hid (Below w.heap.size w w6) := HB5.out.trans (hb6.mono HB5.out.size)
   have R1 : Hid (Bx w6 (w.heap.size + 1) (.slice none 0 0) (.slice none 0 0)) := T1.out.keep hb6 T1.out.lt
   have t0 := R1.out.c0
   have t1 := R1.out.c1
   have tf := R1.out.fz
   clear hd6 hb6 s0 s1
   go_wp2
   refine bodyPost_ret (v := .tuple #[.agg #[.slice p1 ss.length q1, .slice p2 ps.length q2], .bool false]) (by simp [results, Tryz.results97, go_sem, t0, t1]) rfl ⟨p1, q1, p2, q2, ?_, ⟨?_, ?_⟩, ?_⟩
   ·rw [HW.out, HOK.out]
   ·exact ((HD6.out.s.set (by show w.heap.size + 1 < _; omega) _).set (by show w.heap.size + 1 < _; omega) _).mono (by omega)
   ·rw [HW.out]
    exact ((HD6.out.p.set (by show w.heap.size + 1 < _; omega) _).set (by show w.heap.size + 1 < _; omega) _).mono (by omega)
   ·exact (HB6.out.setCell (by show _ ≤ w.heap.size + 1; omega) _).setCell (by show _ ≤ w.heap.size + 1; omega) _

theorem geq60_no {m : Nat} (h : m < 60) : decide ((60 : Int) ≤ (m : Int)) = false := by simp; omega
theorem geq60_yes {m : Nat} (h : ¬ m < 60) : decide ((60 : Int) ≤ (m : Int)) = true := by simp; omega

set_option maxRecDepth 100000 in
set_option maxHeartbeats 4000000 in
theorem sws45 (ss : List ByteArray) (ps : List Wr) (at' : Int) (t : ByteArray) (a1 a2 : Option Addr) (c1 c2 B0 : Nat) (hn : ss.length ≤ 90000000) (hm : ps.length ≤ 80000000) (w : World) (hd : DOwn w B0 a1 c1 a2 c2 ss ps) :
  Calls Tryz.prog 60 #[.agg #[.slice a1 ss.length c1, .slice a2 ps.length c2], .int .i64 at', .string t] w fun e w' => ∃ b1 d1 b2 d2, e = .returned (.tuple #[.agg #[.slice b1 ss.length d1, .slice b2 (wsP ss ps at' t).length d2], .bool (okB ss (ps ++ [(at', t)]))]) ∧ DOwn w' w.heap.size b1 d1 b2 d2 ss (wsP ss ps at' t) ∧ Below w.heap.size w w' := by
 have HD : Hid (DOwn w B0 a1 c1 a2 c2 ss ps) := hd
 clear hd
 have b0 : Hid (Below w.heap.size w ((w.alloc (.cells #[.slice a1 ss.length c1, .slice a2 ps.length c2] 27)).alloc (.cells #[.slice none 0 0, .slice none 0 0] 27))) := ((belowRefl w).alloc (Nat.le_refl _) _).alloc (by simp) _
 have X0 : Hid (Bx ((w.alloc (.cells #[.slice a1 ss.length c1, .slice a2 ps.length c2] 27)).alloc (.cells #[.slice none 0 0, .slice none 0 0] 27)) w.heap.size (.slice a1 ss.length c1) (.slice a2 ps.length c2)) := (Bx.new w _ _ _).alloc _
 have X1 : Hid (Bx ((w.alloc (.cells #[.slice a1 ss.length c1, .slice a2 ps.length c2] 27)).alloc (.cells #[.slice none 0 0, .slice none 0 0] 27)) (w.heap.size + 1) (.slice none 0 0) (.slice none 0 0)) := by
  have h := Bx.new (w.alloc (.cells #[.slice a1 ss.length c1, .slice a2 ps.length c2] 27)) (.slice none 0 0) (.slice none 0 0) 27
  show Bx _ _ _ _
  simpa using h
 go_enter Tryz.func60, Tryz.ntmps60
 go_wp2_with fail
 refine (copy64 ss ps a1 a2 c1 c2 B0 (by omega) (by omega) _ (HD.out.below b0.out)).mono ?_
 rintro e w1 ⟨b1, d1, b2, d2, rfl, hd1, hb1⟩
 have hz1 : w.heap.size + 1 + 1 ≤ w1.heap.size := by have := hb1.size; simp at this; omega
 have HD1 : Hid (DOwn w1 (w.heap.size + 1 + 1) b1 d1 b2 d2 ss ps) := hd1.mono (by simp)
 have Y0 : Hid (Bx (w1.alloc (.cells #[.slice b1 ss.length d1, .slice b2 ps.length d2] 27)) w.heap.size (.slice a1 ss.length c1) (.slice a2 ps.length c2)) := (X0.out.keep hb1 X0.out.lt).alloc _
 have Y1 : Hid (Bx (w1.alloc (.cells #[.slice b1 ss.length d1, .slice b2 ps.length d2] 27)) (w.heap.size + 1) (.slice none 0 0) (.slice none 0 0)) := (X1.out.keep hb1 X1.out.lt).alloc _
 have HB1 : Hid (Below w.heap.size w (w1.alloc (.cells #[.slice b1 ss.length d1, .slice b2 ps.length d2] 27))) := (b0.out.trans (hb1.mono b0.out.size)).alloc (by omega) _
 have Z1 : Hid (Bx (w1.alloc (.cells #[.slice b1 ss.length d1, .slice b2 ps.length d2] 27)) w1.heap.size (.slice b1 ss.length d1) (.slice b2 ps.length d2)) := Bx.new _ _ _ _
 have HD2 : Hid (DOwn (w1.alloc (.cells #[.slice b1 ss.length d1, .slice b2 ps.length d2] 27)) (w.heap.size + 1 + 1) b1 d1 b2 d2 ss ps) := ⟨HD1.out.s.alloc _, HD1.out.p.alloc _⟩
 have HX1 : Hid ((w1.alloc (.cells #[.slice b1 ss.length d1, .slice b2 ps.length d2] 27)).heap[w1.heap.size]? = some (.cells #[.slice b1 ss.length d1, .slice b2 ps.length d2] 27 (0, 0))) := heap_alloc_new w1 _
 have g0 := Y0.out.c0
 have g1 := Y0.out.c1
 clear hd1 hb1 X0 X1 b0
 go_wp2_with fail
 refine (sok37 ss ps a1 a2 c1 c2 (by omega) (by omega) _ (HD.out.s.srow.below HB1.out) (HD.out.p.prow.below HB1.out)).mono ?_
 rintro e w2 ⟨rfl, hb2⟩
 have HB2 : Hid (Below w.heap.size w w2) := HB1.out.trans (hb2.mono HB1.out.size)
 have V0 : Hid (Bx w2 w.heap.size (.slice a1 ss.length c1) (.slice a2 ps.length c2)) := Y0.out.keep hb2 Y0.out.lt
 have V1 : Hid (Bx w2 (w.heap.size + 1) (.slice none 0 0) (.slice none 0 0)) := Y1.out.keep hb2 Y1.out.lt
 have V2 : Hid (Bx w2 w1.heap.size (.slice b1 ss.length d1) (.slice b2 ps.length d2)) := Z1.out.keep hb2 Z1.out.lt
 have HX2 : Hid (w2.heap[w1.heap.size]? = some (.cells #[.slice b1 ss.length d1, .slice b2 ps.length d2] 27 (0, 0))) := (hb2.block w1.heap.size (by simp)).trans HX1.out
 have HD3 : Hid (DOwn w2 (w.heap.size + 1 + 1) b1 d1 b2 d2 ss ps) := HD2.out.below hb2
 have hX2 : w.heap.size + 1 + 1 ≤ w2.heap.size := Nat.le_trans hz1 (Nat.le_of_lt V2.out.lt)
 clear hb2 Y0 Y1 Z1 HD1 HD2 HX1 HB1 g0 g1
 have g0 := V0.out.c0
 have g1 := V0.out.c1
 have u0 := V2.out.c0
 have u1 := V2.out.c1
 have t0 := V1.out.c0
 have t1 := V1.out.c1
 have tf := V1.out.fz
 have uf := V2.out.fz
 have ul := V2.out.lt
 by_cases k1 : okB ss ps = true
 ·have HN60 : Hid (ss.length ≤ 100) := (okB_iff.1 k1).2.1
  have hs100 : ss.length ≤ 100 := HN60.out
  by_cases k2 : 0 ≤ at' ∧ at' < (ss.length : Int)
  ·have HI : Hid (decide ((0 : Int) ≤ at' ∧ at' ≤ (ss.length : Int) - 1) = true) := by show _ = _; simp; omega
   by_cases k3 : t.size = 64
   ·have e3 : ((t.size : Int) != 64) = false := by rw [bne_eq_false_iff_eq]; omega
    by_cases k4 : ps.length < 60
    ·have e4 := geq60_no k4
     have HOK : Hid (okB ss (ps ++ [(at', t)]) = true) := (okB_snoc ss ps at' t).2 ⟨k1, k2, k3, k4⟩
     have HW : Hid (wsP ss ps at' t = ps ++ [(at', t)]) := wsP_yes HOK.out
     have HLN : Hid ((ps ++ [(at', t)]).length = ps.length + 1) := by show _ = _; simp
     clear k2 k3
     go_wp2_with (first | (go_at_call 83; refine (in57 _ _ _ true HI.out _).mono ?_; rintro e w2 ⟨rfl, rfl⟩) | (at_builtin; refine wpAppH 25 56 2 24 (.agg #[.int .i64 0, .string ByteArray.empty]) Tryz.underlying25 Tryz.info56 rfl (by decide) (by omega) (by rfl) _ _ (by rfl) (base := w.heap.size + 1 + 1) [.int .i64 at', .string t] (by rfl) (World.ownsRow.alloc HD3.out.p _) (by rfl) (by exact heap_alloc_new w2 _) rfl (by simp [Value.oneCell']) (by omega) (by simp; omega) ?_))
     intro g' cap w3 hown3 hb3 hg3
     have HN : Hid (some w1.heap.size ≠ (Value.slice b2 ps.length d2).ownBlock) := (blk_ne HD3.out.p HX2.out (by decide)).symm
     have Y23 := (V2.out.alloc (.cells #[.int .i64 at', .string t] 56)).keepG hg3 HN.out
     have HX3 : Hid (w3.heap[w1.heap.size]? = some (.cells #[.slice b1 ss.length d1, .slice b2 ps.length d2] 27 (0, 0))) := by
      have h2 : (w2.alloc (.cells #[.int .i64 at', .string t] 56)).heap[w1.heap.size]? = _ := (Below.heap_alloc _ _ _ V2.out.lt).trans HX2.out
      exact (hg3.block _ (Nat.lt_of_lt_of_le V2.out.lt (by simp)) HN.out).trans h2
     have HP4 : Hid (POwn (w3.setCell ⟨w1.heap.size, 1, none⟩ (.slice (some ⟨g', 0, none⟩) (ps.length + 1) cap)) (w.heap.size + 1 + 1) (.slice (some ⟨g', 0, none⟩) (ps ++ [(at', t)]).length cap) (ps ++ [(at', t)])) := by
      have h := own_set (u := .slice (some ⟨g', 0, none⟩) (ps.length + 1) cap) (k := 1) hown3 (blk_ne hown3 HX3.out (by decide))
      show World.ownsRow _ _ _ _ _ _ _
      rw [pcs_app, show pcs [(at', t)] = [.int .i64 at', .string t] from rfl]
      simpa using h
     have HS4 : Hid (SOwn (w3.setCell ⟨w1.heap.size, 1, none⟩ (.slice (some ⟨g', 0, none⟩) (ps.length + 1) cap)) (w.heap.size + 1 + 1) (.slice b1 ss.length d1) ss) := by
      have q1 := World.ownsRow.alloc HD3.out.s (.cells #[.int .i64 at', .string t] 56)
      have q2 := World.ownsRow.alloc HD3.out.p (.cells #[.int .i64 at', .string t] 56)
      have q3 := World.ownsRow.kept q1 hg3 (own_apart q1 q2 (by decide))
      exact own_set q3 (blk_ne q3 HX3.out (by decide))
     have HB3 : Hid (Below (w.heap.size + 1 + 1) w2 w3) := ((Below.refl _ _).alloc hX2 _).trans hb3
     have T1 : Hid (Bx w3 (w.heap.size + 1) (.slice none 0 0) (.slice none 0 0)) := V1.out.keep HB3.out (by omega)
     have hne1 : w.heap.size + 1 ≠ w1.heap.size := by omega
     have HB4 : Hid (Below w.heap.size w (w3.setCell ⟨w1.heap.size, 1, none⟩ (.slice (some ⟨g', 0, none⟩) (ps.length + 1) cap))) := (HB2.out.trans (HB3.out.mono (by omega))).setCell (by show w.heap.size ≤ w1.heap.size; omega) _
     have s0 := Y23.c0
     have s1 := Y23.c1
     have sf := Y23.fz
     clear hown3 hb3 hg3 g0 g1 u0 u1 t0 t1 tf uf ul
     have t0 := T1.out.c0
     have t1 := T1.out.c1
     have tf := T1.out.fz
     go_wp2
     refine bodyPost_ret (v := .tuple #[.agg #[.slice b1 ss.length d1, .slice (some ⟨g', 0, none⟩) (ps.length + 1) cap], .bool true]) (by simp [results, Tryz.results60, go_sem, t0, t1]) rfl ⟨b1, d1, some ⟨g', 0, none⟩, cap, ?_, ⟨?_, ?_⟩, ?_⟩
     ·rw [HW.out, HLN.out, HOK.out]
     ·exact ((HS4.out.set (by show w.heap.size + 1 < _; omega) _).set (by show w.heap.size + 1 < _; omega) _).mono (by omega)
     ·rw [HW.out]
      exact ((HP4.out.set (by show w.heap.size + 1 < _; omega) _).set (by show w.heap.size + 1 < _; omega) _).mono (by omega)
     ·exact (HB4.out.setCell (by show _ ≤ w.heap.size + 1; omega) _).setCell (by show _ ≤ w.heap.size + 1; omega) _
    ·have e4 := geq60_yes k4
     have HOK : Hid (okB ss (ps ++ [(at', t)]) = false) := by
      cases h : okB ss (ps ++ [(at', t)]) with
      | false => exact rfl
      | true => exact absurd ((okB_snoc ss ps at' t).1 h).2.2.2 k4
     have HW : Hid (wsP ss ps at' t = ps) := wsP_no HOK.out
     clear k2 k3 k4
     go_wp2_with (go_at_call 83; refine (in57 _ _ _ true HI.out _).mono ?_; rintro e w' ⟨rfl, rfl⟩)
     refine bodyPost_ret (v := .tuple #[.agg #[.slice b1 ss.length d1, .slice b2 ps.length d2], .bool false]) (by simp [results, Tryz.results60, go_sem, t0, t1]) rfl ⟨b1, d1, b2, d2, ?_, ⟨?_, ?_⟩, ?_⟩
     ·rw [HW.out, HOK.out]
     ·exact ((HD3.out.s.set (by show w.heap.size + 1 < _; omega) _).set (by show w.heap.size + 1 < _; omega) _).mono (by omega)
     ·rw [HW.out]
      exact ((HD3.out.p.set (by show w.heap.size + 1 < _; omega) _).set (by show w.heap.size + 1 < _; omega) _).mono (by omega)
     ·exact (HB2.out.setCell (by show _ ≤ w.heap.size + 1; omega) _).setCell (by show _ ≤ w.heap.size + 1; omega) _
   ·have e3 : ((t.size : Int) != 64) = true := by rw [bne_iff_ne]; omega
    have HOK : Hid (okB ss (ps ++ [(at', t)]) = false) := by
     cases h : okB ss (ps ++ [(at', t)]) with
     | false => exact rfl
     | true => exact absurd ((okB_snoc ss ps at' t).1 h).2.2.1 k3
    have HW : Hid (wsP ss ps at' t = ps) := wsP_no HOK.out
    clear k2 k3
    go_wp2_with (go_at_call 83; refine (in57 _ _ _ true HI.out _).mono ?_; rintro e w' ⟨rfl, rfl⟩)
    refine bodyPost_ret (v := .tuple #[.agg #[.slice b1 ss.length d1, .slice b2 ps.length d2], .bool false]) (by simp [results, Tryz.results60, go_sem, t0, t1]) rfl ⟨b1, d1, b2, d2, ?_, ⟨?_, ?_⟩, ?_⟩
    ·rw [HW.out, HOK.out]
    ·exact ((HD3.out.s.set (by show w.heap.size + 1 < _; omega) _).set (by show w.heap.size + 1 < _; omega) _).mono (by omega)
    ·rw [HW.out]
     exact ((HD3.out.p.set (by show w.heap.size + 1 < _; omega) _).set (by show w.heap.size + 1 < _; omega) _).mono (by omega)
    ·exact (HB2.out.setCell (by show _ ≤ w.heap.size + 1; omega) _).setCell (by show _ ≤ w.heap.size + 1; omega) _
  ·have HI : Hid (decide ((0 : Int) ≤ at' ∧ at' ≤ (ss.length : Int) - 1) = false) := by show _ = _; simp; omega
   have HOK : Hid (okB ss (ps ++ [(at', t)]) = false) := by
    cases h : okB ss (ps ++ [(at', t)]) with
    | false => exact rfl
    | true => exact absurd ((okB_snoc ss ps at' t).1 h).2.1 k2
   have HW : Hid (wsP ss ps at' t = ps) := wsP_no HOK.out
   clear k2
   go_wp2_with (go_at_call 83; refine (in57 _ _ _ false HI.out _).mono ?_; rintro e w' ⟨rfl, rfl⟩)
   refine bodyPost_ret (v := .tuple #[.agg #[.slice b1 ss.length d1, .slice b2 ps.length d2], .bool false]) (by simp [results, Tryz.results60, go_sem, t0, t1]) rfl ⟨b1, d1, b2, d2, ?_, ⟨?_, ?_⟩, ?_⟩
   ·rw [HW.out, HOK.out]
   ·exact ((HD3.out.s.set (by show w.heap.size + 1 < _; omega) _).set (by show w.heap.size + 1 < _; omega) _).mono (by omega)
   ·rw [HW.out]
    exact ((HD3.out.p.set (by show w.heap.size + 1 < _; omega) _).set (by show w.heap.size + 1 < _; omega) _).mono (by omega)
   ·exact (HB2.out.setCell (by show _ ≤ w.heap.size + 1; omega) _).setCell (by show _ ≤ w.heap.size + 1; omega) _
 ·have k1' : okB ss ps = false := by simpa using k1
  have HOK : Hid (okB ss (ps ++ [(at', t)]) = false) := by
   cases h : okB ss (ps ++ [(at', t)]) with
   | false => exact rfl
   | true => exact absurd ((okB_snoc ss ps at' t).1 h).1 k1
  have HW : Hid (wsP ss ps at' t = ps) := wsP_no HOK.out
  clear k1
  go_wp2
  refine bodyPost_ret (v := .tuple #[.agg #[.slice b1 ss.length d1, .slice b2 ps.length d2], .bool false]) (by simp [results, Tryz.results60, go_sem, t0, t1]) rfl ⟨b1, d1, b2, d2, ?_, ⟨?_, ?_⟩, ?_⟩
  ·rw [HW.out, HOK.out]
  ·exact ((HD3.out.s.set (by show w.heap.size + 1 < _; omega) _).set (by show w.heap.size + 1 < _; omega) _).mono (by omega)
  ·rw [HW.out]
   exact ((HD3.out.p.set (by show w.heap.size + 1 < _; omega) _).set (by show w.heap.size + 1 < _; omega) _).mono (by omega)
  ·exact (HB2.out.setCell (by show _ ≤ w.heap.size + 1; omega) _).setCell (by show _ ≤ w.heap.size + 1; omega) _
end Go.Proofs.YtekjpoenbcnhdaaGreat

namespace Go.Proofs.YtekjpoenbcnhdaaGreat
open Go.RowKit
open DM

def Bxs (w : World) (L : List (Nat × Value × Value)) : Prop := ∀ q ∈ L, Bx w q.1 q.2.1 q.2.2
theorem Bxs.nil (w : World) : Bxs w [] := fun q h => by cases h
theorem Bxs.keep {w w' : World} {L : List (Nat × Value × Value)} (h : Bxs w L) (hb : Below w.heap.size w w') : Bxs w' L := fun q hq => (h q hq).keep hb (h q hq).lt
theorem Bxs.new {w : World} {L : List (Nat × Value × Value)} (h : Bxs w L) (x y : Value) (t : TypeId) : Bxs (w.alloc (.cells #[x, y] t)) ((w.heap.size, x, y) :: L) := fun q hq => by
 rcases List.mem_cons.1 hq with rfl | hq
 ·exact Bx.new w x y t
 ·exact (h q hq).alloc _
theorem Bxs.drew {w : World} {L : List (Nat × Value × Value)} (h : Bxs w L) : Bxs w.drew L := fun q hq => (h q hq).drew
structure DR (w : World) (lo hi : Nat) (a1 : Option Addr) (c1 : Nat) (a2 : Option Addr) (c2 : Nat) (ss : List ByteArray) (ps : List Wr) : Prop where
 d : DOwn w lo a1 c1 a2 c2 ss ps
 u1 : ∀ k, (Value.slice a1 ss.length c1).ownBlock = some k → lo ≤ k ∧ k < hi
 u2 : ∀ k, (Value.slice a2 ps.length c2).ownBlock = some k → lo ≤ k ∧ k < hi
theorem DR.keep {w w' : World} {lo hi : Nat} {a1 a2 : Option Addr} {c1 c2 : Nat} {ss : List ByteArray} {ps : List Wr} (h : DR w lo hi a1 c1 a2 c2 ss ps) (hb : Below w.heap.size w w') : DR w' lo hi a1 c1 a2 c2 ss ps := ⟨h.d.below hb, h.u1, h.u2⟩
theorem DR.alloc {w : World} {lo hi : Nat} {a1 a2 : Option Addr} {c1 c2 : Nat} {ss : List ByteArray} {ps : List Wr} (h : DR w lo hi a1 c1 a2 c2 ss ps) (o : Obj) : DR (w.alloc o) lo hi a1 c1 a2 c2 ss ps := h.keep ((belowRefl w).alloc (Nat.le_refl _) o)
theorem DR.drew {w : World} {lo hi : Nat} {a1 a2 : Option Addr} {c1 c2 : Nat} {ss : List ByteArray} {ps : List Wr} (h : DR w lo hi a1 c1 a2 c2 ss ps) : DR w.drew lo hi a1 c1 a2 c2 ss ps := h.keep (belowRefl w).drew

end Go.Proofs.YtekjpoenbcnhdaaGreat

namespace Go.Proofs.YtekjpoenbcnhdaaGreat
open Go.RowKit
open DM

def flatC (rows : List (List UInt8)) : List Value := rows.flatMap bv
def All64 (rows : List (List UInt8)) : Prop := ∀ r ∈ rows, r.length = 64
theorem flatC_len : ∀ rows : List (List UInt8), All64 rows → (flatC rows).length = rows.length * 64
 | [], _ => rfl
 | r :: rows, h => by
  have h1 := flatC_len rows (fun q hq => h q (List.mem_cons_of_mem _ hq))
  have h2 := h r (List.mem_cons_self ..)
  have e : flatC (r :: rows) = bv r ++ flatC rows := rfl
  rw [e, List.length_append, h1, bv_len, h2, List.length_cons]
  omega
theorem flatC_app (a b : List (List UInt8)) : flatC (a ++ b) = flatC a ++ flatC b := by simp [flatC]
theorem flatC_one (r : List UInt8) : flatC [r] = bv r := by simp [flatC]

def putL (r : List UInt8) (t : ByteArray) : List UInt8 := t.data.toList ++ r.drop t.size
theorem putL_len (r : List UInt8) (t : ByteArray) (hr : r.length = 64) (ht : t.size ≤ 64) : (putL r t).length = 64 := by
 have e : t.data.toList.length = t.size := by simp
 simp only [putL, List.length_append, List.length_drop, e]
 omega
theorem All64.set {rows : List (List UInt8)} (h : All64 rows) (i : Nat) {r : List UInt8} (hr : r.length = 64) : All64 (rows.set i r) := fun q hq => by
 rcases List.mem_or_eq_of_mem_set hq with h1 | h1
 ·exact h q h1
 ·rw [h1]; exact hr

theorem split_at (rows : List (List UInt8)) (i : Nat) (h : i < rows.length) : rows = rows.take i ++ [rows[i]] ++ rows.drop (i + 1) := by
 rw [← List.take_succ_eq_append_getElem h, List.take_append_drop]
theorem set_split (rows : List (List UInt8)) (i : Nat) (h : i < rows.length) (r : List UInt8) : rows.set i r = rows.take i ++ [r] ++ rows.drop (i + 1) := by
 rw [List.set_eq_take_append_cons_drop, if_pos h]; simp

theorem splice {α : Type} (A R T D : List α) (a s : Nat) (hA : A.length = a) (hs : s ≤ R.length) : A ++ (T ++ (R.drop s ++ D)) = (A ++ (R ++ D)).take a ++ T ++ (A ++ (R ++ D)).drop (a + s) := by
 subst hA
 have e : (A ++ (R ++ D)).drop (A.length + s) = R.drop s ++ D := by
  rw [List.drop_append, List.drop_eq_nil_of_le (by omega), List.nil_append, show A.length + s - A.length = s by omega, List.drop_append_of_le_length hs]
 rw [e, List.take_left, List.append_assoc]
theorem take_splice {α : Type} (C B : List α) (o s n : Nat) (hB : B.length = s) (h : o + s ≤ n) (hn : n ≤ C.length) : (C.take o ++ B ++ C.drop (o + s)).take n = (C.take n).take o ++ B ++ (C.take n).drop (o + s) := by
 have hl : (C.take o ++ B).length = o + s := by
  rw [List.length_append, List.length_take, hB, Nat.min_eq_left (by omega)]
 rw [List.take_take, Nat.min_eq_left (by omega), List.drop_take, List.take_append, List.take_of_length_le (by omega), hl]

theorem flat_put (rows : List (List UInt8)) (h : All64 rows) (i : Nat) (hi : i < rows.length) (t : ByteArray) (ht : t.size ≤ 64) :
  flatC (rows.set i (putL rows[i] t)) = (flatC rows).take (i * 64) ++ bv t.data.toList ++ (flatC rows).drop (i * 64 + t.size) := by
 have hA : (flatC (rows.take i)).length = i * 64 := by
  rw [flatC_len _ (fun q hq => h q (List.mem_of_mem_take hq)), List.length_take]
  rw [Nat.min_eq_left (by omega)]
 have hr : rows[i].length = 64 := h _ (List.getElem_mem hi)
 have e1 : flatC rows = flatC (rows.take i) ++ (bv rows[i] ++ flatC (rows.drop (i + 1))) := by
  conv => lhs; rw [split_at rows i hi]
  rw [flatC_app, flatC_app, flatC_one, List.append_assoc]
 have e2 : flatC (rows.set i (putL rows[i] t)) = flatC (rows.take i) ++ (bv t.data.toList ++ (bv (rows[i].drop t.size) ++ flatC (rows.drop (i + 1)))) := by
  rw [set_split rows i hi, flatC_app, flatC_app, flatC_one, List.append_assoc]
  simp [putL, bv]
 rw [e2, e1]
 have hd : bv (rows[i].drop t.size) = (bv rows[i]).drop t.size := by simp [bv]
 rw [hd]
 exact splice _ _ _ _ _ _ hA (by rw [bv_len]; omega)

theorem flat_at (rows : List (List UInt8)) (h : All64 rows) (i : Nat) (hi : i < rows.length) (j : Nat) (hj : j < 64) : (flatC rows)[i * 64 + j]? = (bv rows[i])[j]? := by
 have hA : (flatC (rows.take i)).length = i * 64 := by
  rw [flatC_len _ (fun q hq => h q (List.mem_of_mem_take hq)), List.length_take]
  rw [Nat.min_eq_left (by omega)]
 have hr : rows[i].length = 64 := h _ (List.getElem_mem hi)
 have e1 : flatC rows = flatC (rows.take i) ++ (bv rows[i] ++ flatC (rows.drop (i + 1))) := by
  conv => lhs; rw [split_at rows i hi]
  rw [flatC_app, flatC_app, flatC_one, List.append_assoc]
 rw [e1, List.getElem?_append_right (by omega), hA, show i * 64 + j - i * 64 = j by omega, List.getElem?_append_left (by rw [bv_len]; omega)]

def AOwn (w : World) (base : Nat) (v : Value) (rows : List (List UInt8)) : Prop := w.ownsRow base 107 64 v rows.length (flatC rows) ∧ All64 rows

theorem info5s : (Tryz.prog.info? 5).map (·.size) = some 1 := by kernel_rfl

theorem stepPut {ops : Array Oper} {o : Oper} {a : Act} {K : Act → World → Prop} {Q : Exit → Act → World → Prop} {E : Prop}
  (hgd : o.guard = none) (d x : Operand) (ho : o.op = .call { callee := .builtin .copy, args := #[d, x], argTypes := #[22, 9] })
  {W : World} {base g c i : Nat} {rows : List (List UInt8)} {t : ByteArray}
  (hd : a.eval d = .slice (some ⟨g, i * 64, none⟩) 64 64) (hx : a.eval x = .string t) (hown : AOwn W base (.slice (some ⟨g, 0, none⟩) rows.length c) rows) (hi : i < rows.length) (ht : t.size ≤ 64)
  (h : ∀ w', AOwn w' base (.slice (some ⟨g, 0, none⟩) (rows.set i (putL rows[i] t)).length c) (rows.set i (putL rows[i] t)) → W.grownBy w' (some g) → K (a.put o.dst (goInt t.size)) w') :
  if Region.wanted o (yielded ops a.tmps) = true then Oper.wp Tryz.prog o a W K Q else E := by
 have hw : Region.wanted o (yielded ops a.tmps) = true := by simp [Region.wanted, hgd]
 rw [if_pos hw]
 obtain ⟨ho1, h64⟩ := hown
 rcases ho1.2 with ⟨hv, hn⟩ | ⟨g', cap, cur, hv, hbg, hg, hnc, hcm, hcs, htake⟩
 ·omega
 cases hv
 have hfl := flatC_len rows h64
 have hmul : i * 64 + 64 ≤ rows.length * 64 := by
  have : (i + 1) * 64 ≤ rows.length * 64 := Nat.mul_le_mul_right 64 hi
  omega
 have hcap : rows.length * 64 ≤ c * 64 := Nat.mul_le_mul_right 64 hnc
 have hfit : i * 64 + t.size ≤ cur.size := by rw [hcs]; omega
 have hrun := Lib.run_copy_row_string (P := Tryz.prog) W 22 9 o.type 5 g (i * 64) 64 64 t cur 107 Tryz.underlying22 info5s hg ht hfit
 have hlen : (Lib.byteCells t.data.toList).length = t.size := by rw [Lib.byteCells_length]; simp
 have hbc : Lib.byteCells t.data.toList = bv t.data.toList := rfl
 unfold Oper.wp execOp
 simp only [ho, resolve, invoke, builtin, Sem.run_bind, Sem.run_pure, Result.andThen_ok, List.map_toArray, List.map_cons, List.map_nil, hd, hx, hrun]
 refine h _ ⟨⟨?_, .inr ⟨g, c, _, by rw [List.length_set], hbg, setRow_heap W g cur _ 107 _ hg, by rw [List.length_set]; exact hnc, hcm, ?_, ?_⟩⟩, h64.set i (putL_len _ t (h64 _ (List.getElem_mem hi)) ht)⟩ ⟨rfl, rfl, rfl, by simp, fun k _ hk => setRow_other W g k _ (fun e => hk (by simp [e]))⟩
 ·rw [flatC_len _ (h64.set i (putL_len _ t (h64 _ (List.getElem_mem hi)) ht))]
 ·simp only [List.size_toArray, List.length_append, List.length_take, List.length_drop, Array.length_toList, hlen]
  rw [Nat.min_eq_left (by omega)]
  omega
 ·rw [flat_put rows h64 i hi t ht, ← htake, hbc]
  rw [List.length_set]
  exact take_splice _ _ _ _ _ (by rw [bv_len]; simp) (by omega) (by have e : cur.toList.length = cur.size := Array.length_toList; omega)
end Go.Proofs.YtekjpoenbcnhdaaGreat

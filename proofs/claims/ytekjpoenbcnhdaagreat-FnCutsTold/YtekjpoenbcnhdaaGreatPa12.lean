/- What spec.l04Put returns, of a right disk. -/
import Derived.Test.YtekjpoenbcnhdaaGreatPa10
import Derived.Test.YtekjpoenbcnhdaaGreatPa11
namespace Go.Proofs.YtekjpoenbcnhdaaGreat
open Go.RowKit
open DM
attribute [local go_sem ↓] Go.wp_at_zero Go.wp_at_succ

def RS2 (W0 : World) (b c : Nat) (x y z u : Value) (W : World) : Prop := W.cell? ⟨b, 0, none⟩ = some x ∧ W.cell? ⟨b, 1, none⟩ = some y ∧ W.cell? ⟨c, 0, none⟩ = some z ∧ W.cell? ⟨c, 1, none⟩ = some u ∧ Below W0.heap.size W0 W
theorem RS2.b {W0 : World} {b c : Nat} {x y z u : Value} {W : World} (h : RS2 W0 b c x y z u W) : Below W0.heap.size W0 W := h.2.2.2.2
theorem RS2.call {W0 : World} {b c : Nat} {x y z u : Value} {W W' : World} (h : RS2 W0 b c x y z u W) (hb : Below W.heap.size W W') (h1 : b < W0.heap.size) (h2 : c < W0.heap.size) : RS2 W0 b c x y z u W' := by
 have hz := h.b.size
 exact ⟨(hb.cell (p := ⟨b, 0, none⟩) (by show b < _; omega)).trans h.1, (hb.cell (p := ⟨b, 1, none⟩) (by show b < _; omega)).trans h.2.1, (hb.cell (p := ⟨c, 0, none⟩) (by show c < _; omega)).trans h.2.2.1, (hb.cell (p := ⟨c, 1, none⟩) (by show c < _; omega)).trans h.2.2.2.1, h.b.trans (hb.mono hz)⟩
theorem RS2.alloc {W0 : World} {b c : Nat} {x y z u : Value} {W : World} (h : RS2 W0 b c x y z u W) (o : Obj) (h1 : b < W0.heap.size) (h2 : c < W0.heap.size) : RS2 W0 b c x y z u (W.alloc o) := h.call ((belowRefl W).alloc (Nat.le_refl _) o) h1 h2
theorem RS2.set {W0 : World} {b c : Nat} {x y z u : Value} {W : World} (h : RS2 W0 b c x y z u W) (a : Addr) (v : Value) (ha : W0.heap.size ≤ a.block) (h1 : b < W0.heap.size) (h2 : c < W0.heap.size) : RS2 W0 b c x y z u (W.setCell a v) :=
 ⟨(World.cell?_setCell_other _ _ _ _ (fun e => by have := congrArg Addr.block e; simp at this; omega)).trans h.1, (World.cell?_setCell_other _ _ _ _ (fun e => by have := congrArg Addr.block e; simp at this; omega)).trans h.2.1, (World.cell?_setCell_other _ _ _ _ (fun e => by have := congrArg Addr.block e; simp at this; omega)).trans h.2.2.1, (World.cell?_setCell_other _ _ _ _ (fun e => by have := congrArg Addr.block e; simp at this; omega)).trans h.2.2.2.1, h.b.setCell ha v⟩

def lpS (ss : List ByteArray) (ps : List Wr) (a : Int) (t : ByteArray) : List ByteArray := if recB ss ps a t = true then putS ss ps a t else ss
theorem lpS_yes {ss : List ByteArray} {ps : List Wr} {a : Int} {t : ByteArray} (h : recB ss ps a t = true) : lpS ss ps a t = putS ss ps a t := if_pos h
theorem lpS_no {ss : List ByteArray} {ps : List Wr} {a : Int} {t : ByteArray} (h : recB ss ps a t = false) : lpS ss ps a t = ss := if_neg (by simp [h])

set_option maxRecDepth 100000 in
set_option maxHeartbeats 8000000 in
theorem sput69 (ss : List ByteArray) (ps : List Wr) (a : Int) (t : ByteArray) (a1 a2 : Option Addr) (c1 c2 B0 : Nat) (hA : isA a = true) (hok : okB ss ps = true) (hps : ps = []) (h97 : ss.length = 97) (htz : t.size ≤ 1048576) (w : World) (hd : DOwn w B0 a1 c1 a2 c2 ss ps) :
  Calls Tryz.prog 84 #[.agg #[.slice a1 ss.length c1, .slice a2 ps.length c2], .int .i64 a, .string t] w fun e w' => ∃ b1 d1 b2 d2, e = .returned (.tuple #[.agg #[.slice b1 (lpS ss ps a t).length d1, .slice b2 ps.length d2], .bool (recB ss ps a t)]) ∧ DOwn w' w.heap.size b1 d1 b2 d2 (lpS ss ps a t) ps ∧ Below w.heap.size w w' := by
 have HD : Hid (DOwn w B0 a1 c1 a2 c2 ss ps) := hd
 have HBEG : Hid (∀ (W : World) (B : Nat) (x1 : Option Addr) (x2 : Nat) (x3 : Option Addr) (x4 : Nat), DOwn W B x1 x2 x3 x4 ss ps → Calls Tryz.prog 37 #[.agg #[.slice x1 ss.length x2, .slice x3 ps.length x4], .int .i64 a, .string t] W fun e w' => ∃ f1 f2 f3 f4, e = .returned (.tuple #[.agg #[.slice f1 ss.length f2, .slice f3 (recW ss ps a t).length f4], .bool (recB ss ps a t)]) ∧ DOwn w' W.heap.size f1 f2 f3 f4 ss (recW ss ps a t) ∧ okB ss (recW ss ps a t) = true ∧ Below W.heap.size W w') := fun W B x1 x2 x3 x4 h => sbeg95 ss ps a t x1 x3 x2 x4 B hA hok hps h97 htz W h
 have b0 : Hid (Below w.heap.size w ((w.alloc (.cells #[.slice a1 ss.length c1, .slice a2 ps.length c2] 27)).alloc (.cells #[.slice none 0 0, .slice none 0 0] 27))) := ((belowRefl w).alloc (Nat.le_refl _) _).alloc (by simp) _
 have X0 : Hid (Bx ((w.alloc (.cells #[.slice a1 ss.length c1, .slice a2 ps.length c2] 27)).alloc (.cells #[.slice none 0 0, .slice none 0 0] 27)) w.heap.size (.slice a1 ss.length c1) (.slice a2 ps.length c2)) := (Bx.new w _ _ _).alloc _
 have X1 : Hid (Bx ((w.alloc (.cells #[.slice a1 ss.length c1, .slice a2 ps.length c2] 27)).alloc (.cells #[.slice none 0 0, .slice none 0 0] 27)) (w.heap.size + 1) (.slice none 0 0) (.slice none 0 0)) := by
  have h := Bx.new (w.alloc (.cells #[.slice a1 ss.length c1, .slice a2 ps.length c2] 27)) (.slice none 0 0) (.slice none 0 0) 27
  rw [World.size_alloc] at h
  exact h
 have HD0 : Hid (DOwn ((w.alloc (.cells #[.slice a1 ss.length c1, .slice a2 ps.length c2] 27)).alloc (.cells #[.slice none 0 0, .slice none 0 0] 27)) B0 a1 c1 a2 c2 ss ps) := HD.out.below b0.out
 have hz0 : ((w.alloc (.cells #[.slice a1 ss.length c1, .slice a2 ps.length c2] 27)).alloc (.cells #[.slice none 0 0, .slice none 0 0] 27)).heap.size = w.heap.size + 1 + 1 := by simp
 cases hB : recB ss ps a t with
 | false =>
  have HS : Hid (lpS ss ps a t = ss) := lpS_no hB
  have HW : Hid (recW ss ps a t = ps) := by show _ = _; exact if_neg (by simp [hB])
  rw [HS.out]
  rw [HW.out, hB] at HBEG
  clear hB HS HW hd hok hps h97 hA
  go_enter Tryz.func84, Tryz.ntmps84
  go_wp2_with fail
  refine (HBEG.out _ _ _ _ _ _ HD0.out).mono ?_
  rintro e w1 ⟨y1, y2, y3, y4, rfl, hd1, _, hb1⟩
  have hz1 := hb1.size
  have HD1 : Hid (DOwn w1 (w.heap.size + 1 + 1) y1 y2 y3 y4 ss ps) := by rw [← hz0]; exact hd1
  have Y1 : Hid (Bx (w1.alloc (.cells #[.slice y1 ss.length y2, .slice y3 ps.length y4] 27)) (w.heap.size + 1) (.slice none 0 0) (.slice none 0 0)) := (X1.out.keep hb1 X1.out.lt).alloc _
  have Y2 : Hid (Bx (w1.alloc (.cells #[.slice y1 ss.length y2, .slice y3 ps.length y4] 27)) w1.heap.size (.slice y1 ss.length y2) (.slice y3 ps.length y4)) := Bx.new w1 _ _ _
  have HB1 : Hid (Below w.heap.size w (w1.alloc (.cells #[.slice y1 ss.length y2, .slice y3 ps.length y4] 27))) := (b0.out.trans (hb1.mono b0.out.size)).alloc (Nat.le_trans b0.out.size hz1) _
  have r0 := Y1.out.c0
  have r1 := Y1.out.c1
  have rf := Y1.out.fz
  have k0 := Y2.out.c0
  have k1 := Y2.out.c1
  have V9 : Hid (Bx (((w1.alloc (.cells #[.slice y1 ss.length y2, .slice y3 ps.length y4] 27)).setCell ⟨w.heap.size + 1, 0, none⟩ (.slice y1 ss.length y2)).setCell ⟨w.heap.size + 1, 1, none⟩ (.slice y3 ps.length y4)) (w.heap.size + 1) (.slice y1 ss.length y2) (.slice y3 ps.length y4)) := (Y1.out.set0 _).set1 _
  have v0 := V9.out.c0
  have v1 := V9.out.c1
  clear hd1 hb1
  go_wp2
  refine bodyPost_ret (v := .tuple #[.agg #[.slice y1 ss.length y2, .slice y3 ps.length y4], .bool false]) (by simp [results, Tryz.results84, go_sem, v0, v1]) rfl ⟨y1, y2, y3, y4, rfl, ⟨?_, ?_⟩, ?_⟩
  ·exact ((HD1.out.s.alloc _).set (by show w.heap.size + 1 < _; omega) _ |>.set (by show w.heap.size + 1 < _; omega) _).mono (by omega)
  ·exact ((HD1.out.p.alloc _).set (by show w.heap.size + 1 < _; omega) _ |>.set (by show w.heap.size + 1 < _; omega) _).mono (by omega)
  ·exact (HB1.out.setCell (by show _ ≤ w.heap.size + 1; omega) _).setCell (by show _ ≤ w.heap.size + 1; omega) _
 | true =>
  have hpt := recB_parts hB
  have hcb := cnt_le ss ps a
  obtain ⟨cn, hcn⟩ := Int.eq_ofNat_of_zero_le hcb.1
  have hcn255 : cn < 255 := by have := hpt.2.2.1; omega
  obtain ⟨S1, hS1⟩ : ∃ S1, S1 = flS ss (recW ss ps a t) := ⟨_, rfl⟩
  obtain ⟨WB, hWB⟩ : ∃ WB, WB = wb S1 (af a).toNat 0 [UInt8.ofNat (cn + 1)] := ⟨_, rfl⟩
  have HPS : Hid (lpS ss ps a t = flS S1 WB) := by
   show _ = _
   rw [lpS_yes hB, hWB, hS1]
   unfold putS
   rw [hcn]
   rfl
  have HO : Hid (OkD ss ps) := okB_iff.1 hok
  have hs100 : ss.length ≤ 100 := HO.out.2.1
  have hpl : ps.length ≤ 60 := HO.out.2.2.1
  have HRWK : Hid (okB ss (recW ss ps a t) = true → okB S1 ps = true ∧ S1.length = 97 ∧ flP ss (recW ss ps a t) = ps) := fun h => by
   have h2 := okB_flush h
   rw [← hS1, flP_yes h] at h2
   rw [← hps] at h2
   exact ⟨h2, by rw [hS1, flS_length h, h97], by rw [flP_yes h, hps]⟩
  have HFL : Hid (okB ss (recW ss ps a t) = true → ∀ (W : World) (B : Nat) (x1 : Option Addr) (x2 : Nat) (x3 : Option Addr) (x4 : Nat), DOwn W B x1 x2 x3 x4 ss (recW ss ps a t) → Calls Tryz.prog 40 #[.agg #[.slice x1 ss.length x2, .slice x3 (recW ss ps a t).length x4]] W fun e w' => ∃ f1 f2 f3 f4, e = .returned (.agg #[.slice f1 S1.length f2, .slice f3 ps.length f4]) ∧ DOwn w' W.heap.size f1 f2 f3 f4 S1 ps ∧ Below W.heap.size W w') := fun hk W B x1 x2 x3 x4 h => by
   have e := HRWK.out hk
   have h2 := sflush38 ss (recW ss ps a t) x1 x3 x2 x4 B (by omega) (by have := (okB_iff.1 hk).2.2.1; omega) W h
   rw [← hS1, e.2.2] at h2
   exact h2
  have HCN : Hid (∀ W : World, DOwn W B0 a1 c1 a2 c2 ss ps → Calls Tryz.prog 41 #[.agg #[.slice a1 ss.length c1, .slice a2 ps.length c2], .int .i64 a] W fun e w'' => e = .returned (.int .i64 (cn : Int)) ∧ Below W.heap.size W w'') := fun W h => by
   have h2 := scn27 ss ps a a1 a2 c1 c2 (by omega) (by omega) W h.s.srow h.p.prow
   rw [hcn] at h2
   exact h2
  have HCO : Hid (okB ss (recW ss ps a t) = true → ∀ (W : World) (B : Nat) (x1 : Option Addr) (x2 : Nat) (x3 : Option Addr) (x4 : Nat), DOwn W B x1 x2 x3 x4 S1 ps → Calls Tryz.prog 39 #[.agg #[.slice x1 S1.length x2, .slice x3 ps.length x4], .int .i64 a, .int .i64 ((cn : Int) + 1)] W fun e w' => ∃ f1 f2 f3 f4, e = .returned (.tuple #[.agg #[.slice f1 S1.length f2, .slice f3 WB.length f4], .bool true]) ∧ DOwn w' W.heap.size f1 f2 f3 f4 S1 WB ∧ okB S1 WB = true ∧ Below W.heap.size W w') := fun hk W B x1 x2 x3 x4 h => by
   have e := HRWK.out hk
   have h2 := scount96 S1 ps a (cn + 1) x1 x3 x2 x4 B hA e.1 hps e.2.1 (by omega) W h
   rw [← hWB, show ((cn + 1 : Nat) : Int) = (cn : Int) + 1 by omega] at h2
   exact h2
  have HFL2 : Hid (S1.length = 97 → okB S1 WB = true → ∀ (W : World) (B : Nat) (x1 : Option Addr) (x2 : Nat) (x3 : Option Addr) (x4 : Nat), DOwn W B x1 x2 x3 x4 S1 WB → Calls Tryz.prog 40 #[.agg #[.slice x1 S1.length x2, .slice x3 WB.length x4]] W fun e w' => ∃ f1 f2 f3 f4, e = .returned (.agg #[.slice f1 (lpS ss ps a t).length f2, .slice f3 ps.length f4]) ∧ DOwn w' W.heap.size f1 f2 f3 f4 (lpS ss ps a t) ps ∧ Below W.heap.size W w') := fun h9 hk W B x1 x2 x3 x4 h => by
   have h2 := sflush38 S1 WB x1 x3 x2 x4 B (by omega) (by have := (okB_iff.1 hk).2.2.1; omega) W h
   rw [← HPS.out, flP_yes hk, ← hps] at h2
   exact h2
  rw [hB] at HBEG
  clear hd hB HPS hS1 hWB hcn hok hps h97 hA HO hpt hcb
  generalize lpS ss ps a t = LP at *
  generalize recW ss ps a t = RW at *
  go_enter Tryz.func84, Tryz.ntmps84
  go_wp2_with fail
  refine (HBEG.out _ _ _ _ _ _ HD0.out).mono ?_
  rintro e w1 ⟨y1, y2, y3, y4, rfl, hd1, hk1, hb1⟩
  have hz1 := hb1.size
  have hS97 := (HRWK.out hk1).2.1
  obtain ⟨W0, hW0⟩ : ∃ W0, W0 = w1.alloc (.cells #[.slice y1 ss.length y2, .slice y3 RW.length y4] 27) := ⟨_, rfl⟩
  have HFL' : Hid (∀ (W : World) (B : Nat) (x1 : Option Addr) (x2 : Nat) (x3 : Option Addr) (x4 : Nat), DOwn W B x1 x2 x3 x4 ss RW → Calls Tryz.prog 40 #[.agg #[.slice x1 ss.length x2, .slice x3 RW.length x4]] W fun e w' => ∃ f1 f2 f3 f4, e = .returned (.agg #[.slice f1 S1.length f2, .slice f3 ps.length f4]) ∧ DOwn w' W.heap.size f1 f2 f3 f4 S1 ps ∧ Below W.heap.size W w') := HFL.out hk1
  have HCO' : Hid (∀ (W : World) (B : Nat) (x1 : Option Addr) (x2 : Nat) (x3 : Option Addr) (x4 : Nat), DOwn W B x1 x2 x3 x4 S1 ps → Calls Tryz.prog 39 #[.agg #[.slice x1 S1.length x2, .slice x3 ps.length x4], .int .i64 a, .int .i64 ((cn : Int) + 1)] W fun e w' => ∃ f1 f2 f3 f4, e = .returned (.tuple #[.agg #[.slice f1 S1.length f2, .slice f3 WB.length f4], .bool true]) ∧ DOwn w' W.heap.size f1 f2 f3 f4 S1 WB ∧ okB S1 WB = true ∧ Below W.heap.size W w') := HCO.out hk1
  have HFL2' : Hid (okB S1 WB = true → ∀ (W : World) (B : Nat) (x1 : Option Addr) (x2 : Nat) (x3 : Option Addr) (x4 : Nat), DOwn W B x1 x2 x3 x4 S1 WB → Calls Tryz.prog 40 #[.agg #[.slice x1 S1.length x2, .slice x3 WB.length x4]] W fun e w' => ∃ f1 f2 f3 f4, e = .returned (.agg #[.slice f1 LP.length f2, .slice f3 ps.length f4]) ∧ DOwn w' W.heap.size f1 f2 f3 f4 LP ps ∧ Below W.heap.size W w') := HFL2.out hS97
  have hA0z : ((w.alloc (.cells #[.slice a1 ss.length c1, .slice a2 ps.length c2] 27)).alloc (.cells #[.slice none 0 0, .slice none 0 0] 27)).heap.size ≤ w1.heap.size := hz1
  rw [hz0] at hA0z
  have HDX : Hid (DOwn W0 ((w.alloc (.cells #[.slice a1 ss.length c1, .slice a2 ps.length c2] 27)).alloc (.cells #[.slice none 0 0, .slice none 0 0] 27)).heap.size y1 y2 y3 y4 ss RW) := by rw [hW0]; exact hd1.below ((belowRefl w1).alloc (Nat.le_refl _) _)
  have HDA : Hid (DOwn W0 B0 a1 c1 a2 c2 ss ps) := by rw [hW0]; exact (HD0.out.below hb1).below ((belowRefl w1).alloc (Nat.le_refl _) _)
  have Y0 : Hid (Bx W0 w.heap.size (.slice a1 ss.length c1) (.slice a2 ps.length c2)) := by rw [hW0]; exact (X0.out.keep hb1 X0.out.lt).alloc _
  have Y1 : Hid (Bx W0 (w.heap.size + 1) (.slice none 0 0) (.slice none 0 0)) := by rw [hW0]; exact (X1.out.keep hb1 X1.out.lt).alloc _
  have Y2 : Hid (Bx W0 w1.heap.size (.slice y1 ss.length y2) (.slice y3 RW.length y4)) := by rw [hW0]; exact Bx.new w1 _ _ _
  have HB0 : Hid (Below w.heap.size w W0) := by rw [hW0]; exact (b0.out.trans (hb1.mono b0.out.size)).alloc (Nat.le_trans b0.out.size hz1) _
  have hzW : w1.heap.size + 1 ≤ W0.heap.size := by rw [hW0]; simp
  clear HBEG HFL HCO HFL2 HRWK HD0 X0 X1 b0 hz0 HD hd1 hb1 hz1 hS97 hk1
  generalize ((w.alloc (.cells #[.slice a1 ss.length c1, .slice a2 ps.length c2] 27)).alloc (.cells #[.slice none 0 0, .slice none 0 0] 27)).heap.size = AZ at *
  have g0 := Y0.out.c0
  have g1 := Y0.out.c1
  have k0 := Y2.out.c0
  have k1 := Y2.out.c1
  have l0 : w.heap.size < W0.heap.size := Y0.out.lt
  have l2 : w1.heap.size < W0.heap.size := Y2.out.lt
  have RS0 : Hid (RS2 W0 w.heap.size w1.heap.size (.slice a1 ss.length c1) (.slice a2 ps.length c2) (.slice y1 ss.length y2) (.slice y3 RW.length y4) W0.drew) := ⟨g0, g1, k0, k1, (belowRefl W0).drew⟩
  have hcw : IntKind.i64.wrap ((cn : Int) + 1) = (cn : Int) + 1 := by rw [IntKind.wrap_i64]; omega
  go_wp2
  rw [← hW0]
  clear hW0
  go_region_held3 (fun w' => w'.cell? ⟨w.heap.size, 0, none⟩ = some (.slice a1 ss.length c1) ∧ w'.cell? ⟨w.heap.size, 1, none⟩ = some (.slice a2 ps.length c2) ∧ w'.cell? ⟨w1.heap.size, 0, none⟩ = some (.slice y1 ss.length y2) ∧ w'.cell? ⟨w1.heap.size, 1, none⟩ = some (.slice y3 RW.length y4) ∧ Below W0.heap.size W0 w')
   (first | exact RS0.out | exact t5.out | exact t6.out | exact t8.out | exact RS2.alloc (by assumption) _ l0 l2 | exact RS2.set (RS2.set (by assumption) _ _ (by first | exact hz8 | exact Nat.le_refl _ | exact hz5 | exact hz6) l0 l2) _ _ (by first | exact hz8 | exact Nat.le_refl _ | exact hz5 | exact hz6) l0 l2)
   ((first
    | (go_at_call 40
       refine (HFL'.out _ _ _ _ _ _ (HDX.out.below (RS2.b (b := w.heap.size) (c := w1.heap.size) (x := .slice a1 ss.length c1) (y := .slice a2 ps.length c2) (z := .slice y1 ss.length y2) (u := .slice y3 RW.length y4) (by assumption)))).mono ?_
       rintro e w5 ⟨z1, z2, z3, z4, rfl, hd5, hb5⟩
       have t5 : Hid (RS2 W0 w.heap.size w1.heap.size (.slice a1 ss.length c1) (.slice a2 ps.length c2) (.slice y1 ss.length y2) (.slice y3 RW.length y4) w5) := RS2.call (by assumption) hb5 l0 l2
       have hz5 : W0.heap.size ≤ w5.heap.size := (RS2.b t5.out).size
       try have Q5 : Hid (Bx w5 _ (.slice none 0 0) (.slice none 0 0)) := (Bx.new _ _ _ 27).keep hb5 (Bx.new _ (.slice none 0 0) (.slice none 0 0) 27).lt
       try have Q5 : Hid (Bx w5 _ (.slice none 0 0) (.slice none 0 0)) := (Bx.new _ _ _ 27).drew.keep hb5 (Bx.new _ (.slice none 0 0) (.slice none 0 0) 27).drew.lt
       try have Q5 : Hid (Bx w5 _ (.slice none 0 0) (.slice none 0 0)) := Q6.out.keep hb5 Q6.out.lt)
    | (go_at_call 41
       refine (HCN.out _ (HDA.out.below (RS2.b (b := w.heap.size) (c := w1.heap.size) (x := .slice a1 ss.length c1) (y := .slice a2 ps.length c2) (z := .slice y1 ss.length y2) (u := .slice y3 RW.length y4) (by assumption)))).mono ?_
       rintro e w6 ⟨rfl, hb6⟩
       have t6 : Hid (RS2 W0 w.heap.size w1.heap.size (.slice a1 ss.length c1) (.slice a2 ps.length c2) (.slice y1 ss.length y2) (.slice y3 RW.length y4) w6) := RS2.call (by assumption) hb6 l0 l2
       have hz6 : W0.heap.size ≤ w6.heap.size := (RS2.b t6.out).size
       try have Q6 : Hid (Bx w6 _ (.slice none 0 0) (.slice none 0 0)) := (Bx.new _ _ _ 27).keep hb6 (Bx.new _ (.slice none 0 0) (.slice none 0 0) 27).lt
       try have Q6 : Hid (Bx w6 _ (.slice none 0 0) (.slice none 0 0)) := (Bx.new _ _ _ 27).drew.keep hb6 (Bx.new _ (.slice none 0 0) (.slice none 0 0) 27).drew.lt
       try have Q6 : Hid (Bx w6 _ (.slice none 0 0) (.slice none 0 0)) := Q5.out.keep hb6 Q5.out.lt)
    | (go_at_call 39
       refine (HCO'.out _ _ _ _ _ _ (by first | exact hd5 | exact hd5.below hb6 | exact hd5.below ((belowRefl _).alloc (Nat.le_refl _) _) | exact (hd5.below hb6).below ((belowRefl _).alloc (Nat.le_refl _) _) | exact (hd5.below ((belowRefl _).alloc (Nat.le_refl _) _)).below hb6)).mono ?_
       rintro e w8 ⟨u1, u2, u3, u4, rfl, hd8, hk8, hb8⟩
       have t8 : Hid (RS2 W0 w.heap.size w1.heap.size (.slice a1 ss.length c1) (.slice a2 ps.length c2) (.slice y1 ss.length y2) (.slice y3 RW.length y4) w8) := RS2.call (by assumption) hb8 l0 l2
       have hz8 : W0.heap.size ≤ w8.heap.size := (RS2.b t8.out).size
       try have Q8 : Hid (Bx w8 _ (.slice none 0 0) (.slice none 0 0)) := (Bx.new _ _ _ 27).keep hb8 (Bx.new _ (.slice none 0 0) (.slice none 0 0) 27).lt
       try have Q8 : Hid (Bx w8 _ (.slice none 0 0) (.slice none 0 0)) := (Bx.new _ _ _ 27).drew.keep hb8 (Bx.new _ (.slice none 0 0) (.slice none 0 0) 27).drew.lt
       try have Q8 : Hid (Bx w8 _ (.slice none 0 0) (.slice none 0 0)) := Q5.out.keep hb8 Q5.out.lt
       try have Q8 : Hid (Bx w8 _ (.slice none 0 0) (.slice none 0 0)) := Q6.out.keep hb8 Q6.out.lt
       try have r0 := Q8.out.c0
       try have r1 := Q8.out.c1
       try have rf := Q8.out.fz)))
  all_goals
   have hz6' : W0.heap.size ≤ w6.heap.size := (RS2.b t6.out).size
   have hz5' : W0.heap.size ≤ w5.heap.size := (RS2.b t5.out).size
   have h0w : w.heap.size + 1 + 1 ≤ W0.heap.size := by omega
   have HB8 : Hid (Below w.heap.size w w8) := HB0.out.trans ((RS2.b t8.out).mono HB0.out.size)
   have Y18 : Hid (Bx w8 (w.heap.size + 1) (.slice none 0 0) (.slice none 0 0)) := Y1.out.keep (RS2.b t8.out) Y1.out.lt
  ·have V : Hid (Bx (w8.alloc (.cells #[.slice u1 S1.length u2, .slice u3 WB.length u4] 27)) w8.heap.size (.slice u1 S1.length u2) (.slice u3 WB.length u4)) := Bx.new w8 _ _ _
   have HDu : Hid (DOwn (w8.alloc (.cells #[.slice u1 S1.length u2, .slice u3 WB.length u4] 27)) (w.heap.size + 1 + 1) u1 u2 u3 u4 S1 WB) := ⟨(hd8.s.alloc _).mono (by omega), (hd8.p.alloc _).mono (by omega)⟩
   have Yr : Hid (Bx (w8.alloc (.cells #[.slice u1 S1.length u2, .slice u3 WB.length u4] 27)) (w.heap.size + 1) (.slice none 0 0) (.slice none 0 0)) := Y18.out.alloc _
   have HBf : Hid (Below w.heap.size w (w8.alloc (.cells #[.slice u1 S1.length u2, .slice u3 WB.length u4] 27))) := HB8.out.alloc HB8.out.size _
   clear hd8 hb8 hb6 hd5 hb5 t5 t6 t8 RS0 g0 g1 k0 k1
   have g0 := V.out.c0
   have g1 := V.out.c1
   go_wp2_with fail
   refine (HFL2'.out hk8 _ _ _ _ _ _ HDu.out).mono ?_
   rintro e w10 ⟨v1, v2, v3, v4, rfl, hd10, hb10⟩
   have Yt : Hid (Bx w10 (w.heap.size + 1) (.slice none 0 0) (.slice none 0 0)) := Yr.out.keep hb10 Yr.out.lt
   have HBt : Hid (Below w.heap.size w w10) := HBf.out.trans (hb10.mono HBf.out.size)
   have HDt : Hid (DOwn w10 (w.heap.size + 1 + 1) v1 v2 v3 v4 LP ps) := hd10.mono Yr.out.lt
   have r0 := Yt.out.c0
   have r1 := Yt.out.c1
   have rf := Yt.out.fz
   have V9 : Hid (Bx ((w10.setCell ⟨w.heap.size + 1, 0, none⟩ (.slice v1 LP.length v2)).setCell ⟨w.heap.size + 1, 1, none⟩ (.slice v3 ps.length v4)) (w.heap.size + 1) (.slice v1 LP.length v2) (.slice v3 ps.length v4)) := (Yt.out.set0 _).set1 _
   have v0 := V9.out.c0
   have v9 := V9.out.c1
   clear hd10 hb10
   go_wp2
   refine bodyPost_ret (v := .tuple #[.agg #[.slice v1 LP.length v2, .slice v3 ps.length v4], .bool true]) (by simp [results, Tryz.results84, go_sem, v0, v9]) rfl ⟨v1, v2, v3, v4, rfl, ⟨?_, ?_⟩, ?_⟩
   ·exact ((HDt.out.s.set (by show w.heap.size + 1 < _; omega) _).set (by show w.heap.size + 1 < _; omega) _).mono (by omega)
   ·exact ((HDt.out.p.set (by show w.heap.size + 1 < _; omega) _).set (by show w.heap.size + 1 < _; omega) _).mono (by omega)
   ·exact (HBt.out.setCell (by show _ ≤ w.heap.size + 1; omega) _).setCell (by show _ ≤ w.heap.size + 1; omega) _
  ·have V : Hid (Bx ((w8.setCell ⟨w6.heap.size, 0, none⟩ (.slice u1 S1.length u2)).setCell ⟨w6.heap.size, 1, none⟩ (.slice u3 WB.length u4)) w6.heap.size (.slice u1 S1.length u2) (.slice u3 WB.length u4)) := (Q8.out.set0 _).set1 _
   have HDu : Hid (DOwn ((w8.setCell ⟨w6.heap.size, 0, none⟩ (.slice u1 S1.length u2)).setCell ⟨w6.heap.size, 1, none⟩ (.slice u3 WB.length u4)) (w.heap.size + 1 + 1) u1 u2 u3 u4 S1 WB) := ⟨((hd8.s.set (by show w6.heap.size < (w6.alloc _).heap.size; simp) _).set (by show w6.heap.size < (w6.alloc _).heap.size; simp) _).mono (by first | omega | (simp; omega)), ((hd8.p.set (by show w6.heap.size < (w6.alloc _).heap.size; simp) _).set (by show w6.heap.size < (w6.alloc _).heap.size; simp) _).mono (by first | omega | (simp; omega))⟩
   have Yr : Hid (Bx ((w8.setCell ⟨w6.heap.size, 0, none⟩ (.slice u1 S1.length u2)).setCell ⟨w6.heap.size, 1, none⟩ (.slice u3 WB.length u4)) (w.heap.size + 1) (.slice none 0 0) (.slice none 0 0)) := (Y18.out.setO (by show w6.heap.size ≠ _; omega) _).setO (by show w6.heap.size ≠ _; omega) _
   have HBf : Hid (Below w.heap.size w ((w8.setCell ⟨w6.heap.size, 0, none⟩ (.slice u1 S1.length u2)).setCell ⟨w6.heap.size, 1, none⟩ (.slice u3 WB.length u4))) := (HB8.out.setCell (by show _ ≤ w6.heap.size; omega) _).setCell (by show _ ≤ w6.heap.size; omega) _
   clear hd8 hb8 hb6 hd5 hb5 t5 t6 t8 RS0 g0 g1 k0 k1
   have g0 := V.out.c0
   have g1 := V.out.c1
   go_wp2_with fail
   refine (HFL2'.out hk8 _ _ _ _ _ _ HDu.out).mono ?_
   rintro e w10 ⟨v1, v2, v3, v4, rfl, hd10, hb10⟩
   have Yt : Hid (Bx w10 (w.heap.size + 1) (.slice none 0 0) (.slice none 0 0)) := Yr.out.keep hb10 Yr.out.lt
   have HBt : Hid (Below w.heap.size w w10) := HBf.out.trans (hb10.mono HBf.out.size)
   have HDt : Hid (DOwn w10 (w.heap.size + 1 + 1) v1 v2 v3 v4 LP ps) := hd10.mono Yr.out.lt
   have r0 := Yt.out.c0
   have r1 := Yt.out.c1
   have rf := Yt.out.fz
   have V9 : Hid (Bx ((w10.setCell ⟨w.heap.size + 1, 0, none⟩ (.slice v1 LP.length v2)).setCell ⟨w.heap.size + 1, 1, none⟩ (.slice v3 ps.length v4)) (w.heap.size + 1) (.slice v1 LP.length v2) (.slice v3 ps.length v4)) := (Yt.out.set0 _).set1 _
   have v0 := V9.out.c0
   have v9 := V9.out.c1
   clear hd10 hb10
   go_wp2
   refine bodyPost_ret (v := .tuple #[.agg #[.slice v1 LP.length v2, .slice v3 ps.length v4], .bool true]) (by simp [results, Tryz.results84, go_sem, v0, v9]) rfl ⟨v1, v2, v3, v4, rfl, ⟨?_, ?_⟩, ?_⟩
   ·exact ((HDt.out.s.set (by show w.heap.size + 1 < _; omega) _).set (by show w.heap.size + 1 < _; omega) _).mono (by omega)
   ·exact ((HDt.out.p.set (by show w.heap.size + 1 < _; omega) _).set (by show w.heap.size + 1 < _; omega) _).mono (by omega)
   ·exact (HBt.out.setCell (by show _ ≤ w.heap.size + 1; omega) _).setCell (by show _ ≤ w.heap.size + 1; omega) _
  ·have V : Hid (Bx ((w8.setCell ⟨w5.heap.size, 0, none⟩ (.slice u1 S1.length u2)).setCell ⟨w5.heap.size, 1, none⟩ (.slice u3 WB.length u4)) w5.heap.size (.slice u1 S1.length u2) (.slice u3 WB.length u4)) := (Q8.out.set0 _).set1 _
   have HDu : Hid (DOwn ((w8.setCell ⟨w5.heap.size, 0, none⟩ (.slice u1 S1.length u2)).setCell ⟨w5.heap.size, 1, none⟩ (.slice u3 WB.length u4)) (w.heap.size + 1 + 1) u1 u2 u3 u4 S1 WB) := ⟨((hd8.s.set (by show w5.heap.size < w6.heap.size; have := hb6.size; simp at this; omega) _).set (by show w5.heap.size < w6.heap.size; have := hb6.size; simp at this; omega) _).mono (by first | omega | (simp; omega)), ((hd8.p.set (by show w5.heap.size < w6.heap.size; have := hb6.size; simp at this; omega) _).set (by show w5.heap.size < w6.heap.size; have := hb6.size; simp at this; omega) _).mono (by first | omega | (simp; omega))⟩
   have Yr : Hid (Bx ((w8.setCell ⟨w5.heap.size, 0, none⟩ (.slice u1 S1.length u2)).setCell ⟨w5.heap.size, 1, none⟩ (.slice u3 WB.length u4)) (w.heap.size + 1) (.slice none 0 0) (.slice none 0 0)) := (Y18.out.setO (by show w5.heap.size ≠ _; omega) _).setO (by show w5.heap.size ≠ _; omega) _
   have HBf : Hid (Below w.heap.size w ((w8.setCell ⟨w5.heap.size, 0, none⟩ (.slice u1 S1.length u2)).setCell ⟨w5.heap.size, 1, none⟩ (.slice u3 WB.length u4))) := (HB8.out.setCell (by show _ ≤ w5.heap.size; omega) _).setCell (by show _ ≤ w5.heap.size; omega) _
   clear hd8 hb8 hb6 hd5 hb5 t5 t6 t8 RS0 g0 g1 k0 k1
   have g0 := V.out.c0
   have g1 := V.out.c1
   go_wp2_with fail
   refine (HFL2'.out hk8 _ _ _ _ _ _ HDu.out).mono ?_
   rintro e w10 ⟨v1, v2, v3, v4, rfl, hd10, hb10⟩
   have Yt : Hid (Bx w10 (w.heap.size + 1) (.slice none 0 0) (.slice none 0 0)) := Yr.out.keep hb10 Yr.out.lt
   have HBt : Hid (Below w.heap.size w w10) := HBf.out.trans (hb10.mono HBf.out.size)
   have HDt : Hid (DOwn w10 (w.heap.size + 1 + 1) v1 v2 v3 v4 LP ps) := hd10.mono Yr.out.lt
   have r0 := Yt.out.c0
   have r1 := Yt.out.c1
   have rf := Yt.out.fz
   have V9 : Hid (Bx ((w10.setCell ⟨w.heap.size + 1, 0, none⟩ (.slice v1 LP.length v2)).setCell ⟨w.heap.size + 1, 1, none⟩ (.slice v3 ps.length v4)) (w.heap.size + 1) (.slice v1 LP.length v2) (.slice v3 ps.length v4)) := (Yt.out.set0 _).set1 _
   have v0 := V9.out.c0
   have v9 := V9.out.c1
   clear hd10 hb10
   go_wp2
   refine bodyPost_ret (v := .tuple #[.agg #[.slice v1 LP.length v2, .slice v3 ps.length v4], .bool true]) (by simp [results, Tryz.results84, go_sem, v0, v9]) rfl ⟨v1, v2, v3, v4, rfl, ⟨?_, ?_⟩, ?_⟩
   ·exact ((HDt.out.s.set (by show w.heap.size + 1 < _; omega) _).set (by show w.heap.size + 1 < _; omega) _).mono (by omega)
   ·exact ((HDt.out.p.set (by show w.heap.size + 1 < _; omega) _).set (by show w.heap.size + 1 < _; omega) _).mono (by omega)
   ·exact (HBt.out.setCell (by show _ ≤ w.heap.size + 1; omega) _).setCell (by show _ ≤ w.heap.size + 1; omega) _
  ·have V : Hid (Bx ((w8.setCell ⟨W0.heap.size, 0, none⟩ (.slice u1 S1.length u2)).setCell ⟨W0.heap.size, 1, none⟩ (.slice u3 WB.length u4)) W0.heap.size (.slice u1 S1.length u2) (.slice u3 WB.length u4)) := (Q8.out.set0 _).set1 _
   have HDu : Hid (DOwn ((w8.setCell ⟨W0.heap.size, 0, none⟩ (.slice u1 S1.length u2)).setCell ⟨W0.heap.size, 1, none⟩ (.slice u3 WB.length u4)) (w.heap.size + 1 + 1) u1 u2 u3 u4 S1 WB) := ⟨((hd8.s.set (by show W0.heap.size < w6.heap.size; have h5 : (W0.alloc _).heap.size ≤ w5.heap.size := hb5.size; have h6 := hb6.size; rw [World.size_alloc] at h5; omega) _).set (by show W0.heap.size < w6.heap.size; have h5 : (W0.alloc _).heap.size ≤ w5.heap.size := hb5.size; have h6 := hb6.size; rw [World.size_alloc] at h5; omega) _).mono (by first | omega | (simp; omega)), ((hd8.p.set (by show W0.heap.size < w6.heap.size; have h5 : (W0.alloc _).heap.size ≤ w5.heap.size := hb5.size; have h6 := hb6.size; rw [World.size_alloc] at h5; omega) _).set (by show W0.heap.size < w6.heap.size; have h5 : (W0.alloc _).heap.size ≤ w5.heap.size := hb5.size; have h6 := hb6.size; rw [World.size_alloc] at h5; omega) _).mono (by first | omega | (simp; omega))⟩
   have Yr : Hid (Bx ((w8.setCell ⟨W0.heap.size, 0, none⟩ (.slice u1 S1.length u2)).setCell ⟨W0.heap.size, 1, none⟩ (.slice u3 WB.length u4)) (w.heap.size + 1) (.slice none 0 0) (.slice none 0 0)) := (Y18.out.setO (by show W0.heap.size ≠ _; omega) _).setO (by show W0.heap.size ≠ _; omega) _
   have HBf : Hid (Below w.heap.size w ((w8.setCell ⟨W0.heap.size, 0, none⟩ (.slice u1 S1.length u2)).setCell ⟨W0.heap.size, 1, none⟩ (.slice u3 WB.length u4))) := (HB8.out.setCell (by show _ ≤ W0.heap.size; omega) _).setCell (by show _ ≤ W0.heap.size; omega) _
   clear hd8 hb8 hb6 hd5 hb5 t5 t6 t8 RS0 g0 g1 k0 k1
   have g0 := V.out.c0
   have g1 := V.out.c1
   go_wp2_with fail
   refine (HFL2'.out hk8 _ _ _ _ _ _ HDu.out).mono ?_
   rintro e w10 ⟨v1, v2, v3, v4, rfl, hd10, hb10⟩
   have Yt : Hid (Bx w10 (w.heap.size + 1) (.slice none 0 0) (.slice none 0 0)) := Yr.out.keep hb10 Yr.out.lt
   have HBt : Hid (Below w.heap.size w w10) := HBf.out.trans (hb10.mono HBf.out.size)
   have HDt : Hid (DOwn w10 (w.heap.size + 1 + 1) v1 v2 v3 v4 LP ps) := hd10.mono Yr.out.lt
   have r0 := Yt.out.c0
   have r1 := Yt.out.c1
   have rf := Yt.out.fz
   have V9 : Hid (Bx ((w10.setCell ⟨w.heap.size + 1, 0, none⟩ (.slice v1 LP.length v2)).setCell ⟨w.heap.size + 1, 1, none⟩ (.slice v3 ps.length v4)) (w.heap.size + 1) (.slice v1 LP.length v2) (.slice v3 ps.length v4)) := (Yt.out.set0 _).set1 _
   have v0 := V9.out.c0
   have v9 := V9.out.c1
   clear hd10 hb10
   go_wp2
   refine bodyPost_ret (v := .tuple #[.agg #[.slice v1 LP.length v2, .slice v3 ps.length v4], .bool true]) (by simp [results, Tryz.results84, go_sem, v0, v9]) rfl ⟨v1, v2, v3, v4, rfl, ⟨?_, ?_⟩, ?_⟩
   ·exact ((HDt.out.s.set (by show w.heap.size + 1 < _; omega) _).set (by show w.heap.size + 1 < _; omega) _).mono (by omega)
   ·exact ((HDt.out.p.set (by show w.heap.size + 1 < _; omega) _).set (by show w.heap.size + 1 < _; omega) _).mono (by omega)
   ·exact (HBt.out.setCell (by show _ ≤ w.heap.size + 1; omega) _).setCell (by show _ ≤ w.heap.size + 1; omega) _
end Go.Proofs.YtekjpoenbcnhdaaGreat

namespace Go.Proofs.YtekjpoenbcnhdaaGreat
open Go.RowKit
open DM
open FM

theorem wbGo_len (ss : List ByteArray) (k0 : Nat) : ∀ (f : Nat) (cur : List Wr) (q : Nat) (rest : List UInt8), (wbGo ss k0 f cur q rest).length ≤ cur.length + (q % 64 + rest.length + 63) / 64
 | 0, cur, q, rest => by simp only [wbGo]; omega
 | f + 1, cur, q, rest => by
  simp only [wbGo]
  by_cases hn : rest = []
  ·rw [if_pos hn]; omega
  ·rw [if_neg hn]
   have hpos : 0 < rest.length := List.length_pos_iff.2 hn
   by_cases hs : rest.length ≤ 64 - q % 64
   ·rw [List.drop_of_length_le hs]
    have h := wbGo_nil (ss := ss) (k0 := k0) (f := f) (q := q + min (64 - q % 64) rest.length) (cur := cur ++ [(((k0 + q / 64 : Nat) : Int), spl (rdR ss cur ((k0 + q / 64 : Nat) : Int)) (q % 64) (rest.take (64 - q % 64)))]) rfl
    rw [← h, List.length_append, List.length_singleton]
    omega
   ·have h := wbGo_len ss k0 f (cur ++ [(((k0 + q / 64 : Nat) : Int), spl (rdR ss cur ((k0 + q / 64 : Nat) : Int)) (q % 64) (rest.take (64 - q % 64)))]) (q + min (64 - q % 64) rest.length) (rest.drop (64 - q % 64))
    refine Nat.le_trans h ?_
    rw [List.length_append, List.length_drop, List.length_singleton]
    rw [show min (64 - q % 64) rest.length = 64 - q % 64 by omega]
    have e1 : (q + (64 - q % 64)) % 64 = 0 := by omega
    omega
theorem wbGo_okW (ss : List ByteArray) (h64 : ∀ s ∈ ss, s.size = 64) (k0 : Nat) : ∀ (f : Nat) (cur : List Wr) (q : Nat) (rest : List UInt8), (∀ p ∈ cur, okW ss.length p) → k0 * 64 + q + rest.length ≤ ss.length * 64 → ∀ p ∈ wbGo ss k0 f cur q rest, okW ss.length p
 | 0, cur, q, rest, hc, _ => hc
 | f + 1, cur, q, rest, hc, hr => by
  simp only [wbGo]
  by_cases hn : rest = []
  ·rw [if_pos hn]; exact hc
  ·rw [if_neg hn]
   have hpos : 0 < rest.length := List.length_pos_iff.2 hn
   refine wbGo_okW ss h64 k0 f _ _ _ (fun r hr' => ?_) (by rw [List.length_drop]; omega)
   rcases List.mem_append.1 hr' with hr' | hr'
   ·exact hc r hr'
   ·obtain rfl := List.mem_singleton.1 hr'
    have hjl : k0 + q / 64 < ss.length := by omega
    have hS64 : ∀ s ∈ flush ss cur, s.size = 64 := flush_64 ss cur h64 (fun p hp => (hc p hp).2.2)
    have hjf : k0 + q / 64 < (flush ss cur).length := by rw [flush_len]; exact hjl
    have hsz : (rdR ss cur ((k0 + q / 64 : Nat) : Int)).size = 64 := by
     rw [rdR_flush ss cur hc _ hjl, List.getD_eq_getElem?_getD, List.getElem?_eq_getElem hjf]
     exact hS64 _ (List.getElem_mem hjf)
    refine ⟨by show (0 : Int) ≤ ((k0 + q / 64 : Nat) : Int); omega, by show ((k0 + q / 64 : Nat) : Int) < _; omega, ?_⟩
    show (spl _ _ _).size = 64
    rw [spl_size _ _ _ (by rw [hsz, List.length_take]; omega), hsz]
theorem wb_ok {ss : List ByteArray} (hok : okB ss [] = true) (k0 q : Nat) (l : List UInt8) (hl : l.length ≤ 3008) (h : k0 * 64 + q + l.length ≤ ss.length * 64) : okB ss (wb ss k0 q l) = true := by
 have hO := okB_iff.1 hok
 have h2 := wbGo_len ss k0 l.length [] q l
 have h3 := wbGo_okW ss hO.2.2.2.1 k0 l.length [] q l (fun p hp => by cases hp) h
 rw [okB_iff]
 refine ⟨hO.1, hO.2.1, ?_, hO.2.2.2.1, fun p hp => ?_⟩
 ·have : (wb ss k0 q l).length ≤ 0 + (q % 64 + l.length + 63) / 64 := h2
  omega
 ·have := h3 p hp
  exact ⟨this.1, this.2.1, this.2.2⟩

theorem logB_iff {ss : List ByteArray} : logB ss [] = true ↔ okB ss [] = true ∧ ss.length = 97 ∧ (∃ x, raF (flat ss) 0 = some x) ∧ (∃ x, raF (flat ss) 1 = some x) := by
 constructor
 ·intro h
  have hp := logB_parts h
  have h64 := (okB_iff.1 hp.1).2.2.2.1
  have h4 := logB_4 hp.1 hp.2.1 rfl
  rw [h] at h4
  have h5 := (Bool.and_eq_true _ _ ▸ h4.symm : oB (raO ss [] 0) = true ∧ oB (raO ss [] 1) = true)
  rw [raO_flat h64 hp.2.1 (by decide), raO_flat h64 hp.2.1 (by decide)] at h5
  exact ⟨hp.1, hp.2.1, Option.isSome_iff_exists.1 h5.1, Option.isSome_iff_exists.1 h5.2⟩
 ·rintro ⟨h1, h2, h3, h4⟩
  have h64 := (okB_iff.1 h1).2.2.2.1
  rw [logB_4 h1 h2 rfl, raO_flat h64 h2 (by decide), raO_flat h64 h2 (by decide)]
  unfold oB
  rw [Option.isSome_iff_exists.2 h3, Option.isSome_iff_exists.2 h4]
  rfl
theorem logB_some {ss : List ByteArray} (h : logB ss [] = true) {a : Int} (hA : isA a = true) : ∃ x, raF (flat ss) a = some x := by
 have h2 := logB_iff.1 h
 rcases isA_iff.1 hA with rfl | rfl
 ·exact h2.2.2.1
 ·exact h2.2.2.2
theorem logB_all {ss : List ByteArray} (h1 : okB ss [] = true) (h2 : ss.length = 97) (h : ∀ a, isA a = true → ∃ x, raF (flat ss) a = some x) : logB ss [] = true := logB_iff.2 ⟨h1, h2, h 0 (by decide), h 1 (by decide)⟩

theorem fl_wb {ss : List ByteArray} (hok : okB ss [] = true) (k0 q : Nat) (l : List UInt8) (hl : l.length ≤ 3008) (h : k0 * 64 + q + l.length ≤ ss.length * 64) : okB (flS ss (wb ss k0 q l)) [] = true ∧ (flS ss (wb ss k0 q l)).length = ss.length ∧ flat (flS ss (wb ss k0 q l)) = splL (flat ss) (k0 * 64 + q) l := by
 have hw := wb_ok hok k0 q l hl h
 have h2 := okB_flush hw
 rw [flP_yes hw] at h2
 refine ⟨h2, flS_length hw, ?_⟩
 rw [flS_yes hw, wb_flat ss (okB_iff.1 hok).2.2.2.1 k0 q l h]
theorem flat97 {ss : List ByteArray} (hok : okB ss [] = true) (h97 : ss.length = 97) : (flat ss).length = 6208 := by rw [flat_len ss (okB_iff.1 hok).2.2.2.1, h97]

theorem put_flat {ss : List ByteArray} {a : Int} {t : ByteArray} (hlog : logB ss [] = true) (hr : recB ss [] a t = true) : okB (putS ss [] a t) [] = true ∧ (putS ss [] a t).length = 97 ∧ flat (putS ss [] a t) = putF (flat ss) a (oE (raO ss [] a)) t := by
 have hp := logB_parts hlog
 have hpt := recB_parts hr
 have hA := hpt.2.2.2.2
 have hin := af_in hA
 have hin1 := af1_in hA
 have e1 := fl_wb hp.1 (af a + 1).toNat (oE (raO ss [] a)) (recL t) (by omega) (by have := hp.2.1; omega)
 have eW : recW ss [] a t = wb ss (af a + 1).toNat (oE (raO ss [] a)) (recL t) := if_pos hr
 rw [← eW] at e1
 have e2 := fl_wb e1.1 (af a).toNat 0 [UInt8.ofNat ((cnt ss [] a).toNat + 1)] (by simp) (by rw [e1.2.1]; have := hp.2.1; simp; omega)
 refine ⟨e2.1, by unfold putS; rw [e2.2.1, e1.2.1, hp.2.1], ?_⟩
 unfold putS
 rw [e2.2.2, e1.2.2, cnt_flat (okB_iff.1 hp.1).2.2.2.1 hp.2.1 hA, Int.toNat_natCast]
 rfl
theorem put_read {ss : List ByteArray} {a : Int} {t : ByteArray} (hlog : logB ss [] = true) (hr : recB ss [] a t = true) (htz : t.size ≤ 1048576) : raO (putS ss [] a t) [] a = some (oL (raO ss [] a) ++ [t], oE (raO ss [] a) + (recL t).length) ∧ (∀ b, isA b = true → b ≠ a → raO (putS ss [] a t) [] b = raO ss [] b) ∧ logB (putS ss [] a t) [] = true := by
 have hp := logB_parts hlog
 have hpt := recB_parts hr
 have hA := hpt.2.2.2.2
 have h64 := (okB_iff.1 hp.1).2.2.2.1
 have hf := put_flat hlog hr
 have h64' := (okB_iff.1 hf.1).2.2.2.1
 have hF := flat97 hp.1 hp.2.1
 obtain ⟨⟨l, E⟩, hx⟩ := logB_some hlog hA
 have hra : raO ss [] a = some (l, E) := by rw [raO_flat h64 hp.2.1 hA, hx]
 have hE : oE (raO ss [] a) = E := by rw [hra]; rfl
 have hL : oL (raO ss [] a) = l := by rw [hra]; rfl
 have hroom := hpt.2.2.2.1
 have hcn := hpt.2.2.1
 rw [cnt_flat h64 hp.2.1 hA] at hcn
 rw [hE] at hroom hf ⊢
 rw [hL]
 have h1 : raF (flat (putS ss [] a t)) a = some (l ++ [t], E + (recL t).length) := by
  rw [hf.2.2]
  exact putF_in hF hA hx hroom hpt.2.1 htz (by omega)
 have h2 : ∀ b, isA b = true → b ≠ a → raF (flat (putS ss [] a t)) b = raF (flat ss) b := fun b hB hne => by
  rw [hf.2.2]
  exact putF_out hF hA hB hne hroom
 refine ⟨by rw [raO_flat h64' hf.2.1 hA, h1], fun b hB hne => by rw [raO_flat h64' hf.2.1 hB, raO_flat h64 hp.2.1 hB, h2 b hB hne], logB_all hf.1 hf.2.1 (fun b hB => ?_)⟩
 by_cases hne : b = a
 ·rw [hne]; exact ⟨_, h1⟩
 ·rw [h2 b hB hne]; exact logB_some hlog hB

def zrS (ss : List ByteArray) (a : Int) : List ByteArray := flS ss (wb ss (af a).toNat 0 [UInt8.ofNat 0])
theorem zr_read {ss : List ByteArray} {a : Int} (hlog : logB ss [] = true) (hA : isA a = true) : raO (zrS ss a) [] a = some ([], 0) ∧ (∀ b, isA b = true → b ≠ a → raO (zrS ss a) [] b = raO ss [] b) ∧ logB (zrS ss a) [] = true := by
 have hp := logB_parts hlog
 have h64 := (okB_iff.1 hp.1).2.2.2.1
 have hF := flat97 hp.1 hp.2.1
 have hin := af_in hA
 have ho := af_off hA
 have hf := fl_wb hp.1 (af a).toNat 0 [UInt8.ofNat 0] (by simp) (by have := hp.2.1; simp; omega)
 have h64' : ∀ s ∈ zrS ss a, s.size = 64 := (okB_iff.1 hf.1).2.2.2.1
 have h97' : (zrS ss a).length = 97 := by unfold zrS; rw [hf.2.1, hp.2.1]
 have h1 : raF (flat (zrS ss a)) a = some ([], 0) := by
  unfold zrS
  rw [hf.2.2, Nat.add_zero]
  have e : UInt8.ofNat 0 = 0 := by decide
  rw [e]
  exact raF_zero hF hA
 have h2 : ∀ b, isA b = true → b ≠ a → raF (flat (zrS ss a)) b = raF (flat ss) b := fun b hB hne => by
  unfold zrS
  rw [hf.2.2, Nat.add_zero]
  have h3 := af_two hA hB hne
  exact raF_out hF hB (by simp; omega) (by simp; omega)
 refine ⟨by rw [raO_flat h64' h97' hA, h1], fun b hB hne => by rw [raO_flat h64' h97' hB, raO_flat h64 hp.2.1 hB, h2 b hB hne], logB_all hf.1 h97' (fun b hB => ?_)⟩
 by_cases hne : b = a
 ·rw [hne]; exact ⟨_, h1⟩
 ·rw [h2 b hB hne]; exact logB_some hlog hB

def fillO (a : Int) : List ByteArray → List ByteArray → List ByteArray × Bool
 | cur, [] => (cur, true)
 | cur, t :: ts => if recB cur [] a t = true then fillO a (putS cur [] a t) ts else (cur, false)
theorem fillO_yes {a : Int} {cur : List ByteArray} {ts : List ByteArray} {k : Nat} (hk : k < ts.length) (h : recB cur [] a ts[k] = true) : fillO a cur (ts.drop k) = fillO a (putS cur [] a ts[k]) (ts.drop (k + 1)) := by
 rw [List.drop_eq_getElem_cons hk, fillO, if_pos h]
theorem fillO_no {a : Int} {cur : List ByteArray} {ts : List ByteArray} {k : Nat} (hk : k < ts.length) (h : recB cur [] a ts[k] = false) : fillO a cur (ts.drop k) = (cur, false) := by
 rw [List.drop_eq_getElem_cons hk, fillO, if_neg (by simp [h])]
theorem fillO_end {a : Int} {cur : List ByteArray} {ts : List ByteArray} {k : Nat} (hk : ts.length ≤ k) : fillO a cur (ts.drop k) = (cur, true) := by
 rw [List.drop_of_length_le hk, fillO]
theorem fillO_log {a : Int} : ∀ (ts cur : List ByteArray), (∀ t ∈ ts, t.size ≤ 1048576) → logB cur [] = true → logB (fillO a cur ts).1 [] = true
 | [], cur, _, h => h
 | t :: ts, cur, ht, h => by
  rw [fillO]
  by_cases hr : recB cur [] a t = true
  ·rw [if_pos hr]
   exact fillO_log ts _ (fun x hx => ht x (List.mem_cons_of_mem _ hx)) (put_read h hr (ht t (List.mem_cons_self ..))).2.2
  ·rw [if_neg hr]
   exact h
def oth (ss : List ByteArray) (ps : List Wr) : Int := 1 - act ss ps
theorem oth_A (ss : List ByteArray) (ps : List Wr) : isA (oth ss ps) = true := by
 rcases isA_iff.1 (act_01 ss ps) with h | h <;> (unfold oth; rw [h]; decide)
end Go.Proofs.YtekjpoenbcnhdaaGreat

/- What impl.recordWritten returns, of a right log. -/
import Derived.Test.YtekjpoenbcnhdaaGreatPa15
import Derived.Test.YtekjpoenbcnhdaaGreatPa14
import Derived.Test.YtekjpoenbcnhdaaGreatPa10
namespace Go.Proofs.YtekjpoenbcnhdaaGreat
open Go.RowKit
open DM
attribute [local go_sem ↓] Go.wp_at_zero Go.wp_at_succ

set_option maxRecDepth 100000 in
set_option maxHeartbeats 8000000 in
theorem irw71 (ss : List ByteArray) (ps : List Wr) (a : Int) (t : ByteArray) (a1 a2 : Option Addr) (c1 c2 : Nat) (hok : okB ss ps = true) (hps : ps = []) (h97 : ss.length = 97) (htz : t.size ≤ 1048576) (w : World) (hs : SRow w a1 ss) (hp : PRow w a2 ps) :
  Calls Tryz.prog 31 #[.agg #[.slice a1 ss.length c1, .slice a2 ps.length c2], .int .i64 a, .string t] w fun e w' => (recB ss ps a t = true ∧ ∃ b1 d1 b2 d2, e = .returned (.tuple #[.agg #[.slice b1 ss.length d1, .slice b2 (recW ss ps a t).length d2], .bool true]) ∧ DOwn w' w.heap.size b1 d1 b2 d2 ss (recW ss ps a t) ∧ okB ss (recW ss ps a t) = true ∧ Below w.heap.size w w') ∨ (recB ss ps a t = false ∧ e = .returned (.tuple #[.agg #[.slice none 0 0, .slice none 0 0], .bool false]) ∧ Below w.heap.size w w') := by
 have HO : Hid (OkD ss ps) := okB_iff.1 hok
 have hEle := oE_le (okB_iff.1 hok) a
 have hcb := cnt_le ss ps a
 have hs0 : ∀ s ∈ ss, s.size ≤ 1048576 := fun s h => by have := HO.out.2.2.2.1 s h; omega
 have hp0 : ∀ p ∈ ps, p.2.size ≤ 1048576 := fun p h => by have := (HO.out.2.2.2.2 p h).2.2; omega
 have hs100 : ss.length ≤ 100 := HO.out.2.1
 have hpl : ps.length ≤ 60 := HO.out.2.2.1
 have HRA : Hid (∀ W : World, Below w.heap.size w W → Calls Tryz.prog 67 #[.agg #[.slice a1 ss.length c1, .slice a2 ps.length c2], .int .i64 a] W fun e w'' => ∃ v, e = .returned (.tuple #[v, .int .i64 (oE (raO ss ps a) : Nat), .bool (oB (raO ss ps a))]) ∧ SOwn w'' W.heap.size v (oL (raO ss ps a)) ∧ Below W.heap.size W w'') := fun W h => ira30 ss ps a a1 a2 c1 c2 (by omega) (by omega) hs0 hp0 (Nat.le_trans (arT_size HO.out a) (by omega)) W (hs.below h) (hp.below h)
 have HCN : Hid (∀ W : World, Below w.heap.size w W → Calls Tryz.prog 34 #[.agg #[.slice a1 ss.length c1, .slice a2 ps.length c2], .int .i64 a] W fun e w'' => e = .returned (.int .i64 (cnt ss ps a)) ∧ Below W.heap.size W w'') := fun W h => icn28 ss ps a a1 a2 c1 c2 (by omega) (by omega) (fun s h => Nat.le_trans (hs0 s h) (by omega)) (fun p h => Nat.le_trans (hp0 p h) (by omega)) W (hs.below h) (hp.below h)
 have b0 : Hid (Below w.heap.size w ((w.alloc (.cells #[.slice a1 ss.length c1, .slice a2 ps.length c2] 27)).alloc (.cells #[.slice none 0 0, .slice none 0 0] 27))) := ((belowRefl w).alloc (Nat.le_refl _) _).alloc (by simp) _
 have X0 : Hid (Bx ((w.alloc (.cells #[.slice a1 ss.length c1, .slice a2 ps.length c2] 27)).alloc (.cells #[.slice none 0 0, .slice none 0 0] 27)) w.heap.size (.slice a1 ss.length c1) (.slice a2 ps.length c2)) := (Bx.new w _ _ _).alloc _
 have X1 : Hid (Bx ((w.alloc (.cells #[.slice a1 ss.length c1, .slice a2 ps.length c2] 27)).alloc (.cells #[.slice none 0 0, .slice none 0 0] 27)) (w.heap.size + 1) (.slice none 0 0) (.slice none 0 0)) := by
  have h := Bx.new (w.alloc (.cells #[.slice a1 ss.length c1, .slice a2 ps.length c2] 27)) (.slice none 0 0) (.slice none 0 0) 27
  rw [World.size_alloc] at h
  exact h
 have hne : w.heap.size + 1 ≠ w.heap.size := by omega
 obtain ⟨E, hE⟩ : ∃ E, E = oE (raO ss ps a) := ⟨_, rfl⟩
 obtain ⟨cn, hcn⟩ := Int.eq_ofNat_of_zero_le hcb.1
 rw [← hE] at HRA hEle
 rw [hcn] at HCN hcb
 cases hoB : oB (raO ss ps a) with
 | false =>
  rw [hoB] at HRA
  have HN : Hid (recB ss ps a t = false) := by show _ = _; simp [recB, hoB]
  clear hE hcn hoB
  clear hok hps h97 hs0 hp0 hs hp HO
  generalize recB ss ps a t = RB at *
  generalize recW ss ps a t = RW at *
  go_enter Tryz.func31, Tryz.ntmps31
  go_wp2_with fail
  refine (HRA.out _ b0.out).mono ?_
  rintro e w1 ⟨v, rfl, _, hb1⟩
  have Y01 : Hid (Bx w1 w.heap.size (.slice a1 ss.length c1) (.slice a2 ps.length c2)) := X0.out.keep hb1 X0.out.lt
  have Y11 : Hid (Bx w1 (w.heap.size + 1) (.slice none 0 0) (.slice none 0 0)) := X1.out.keep hb1 X1.out.lt
  have HB1 : Hid (Below w.heap.size w w1) := b0.out.trans (hb1.mono b0.out.size)
  have g01 := Y01.out.c0
  have g11 := Y01.out.c1
  have r0 := Y11.out.c0
  have r1 := Y11.out.c1
  have rf := Y11.out.fz
  have V9 : Hid (Bx ((w1.setCell ⟨w.heap.size + 1, 0, none⟩ (.slice none 0 0)).setCell ⟨w.heap.size + 1, 1, none⟩ (.slice none 0 0)) (w.heap.size + 1) (.slice none 0 0) (.slice none 0 0)) := (Y11.out.set0 _).set1 _
  have v0 := V9.out.c0
  have v1 := V9.out.c1
  go_wp2
  refine bodyPost_ret (v := .tuple #[.agg #[.slice none 0 0, .slice none 0 0], .bool false]) (by simp [results, Tryz.results31, go_sem, v0, v1]) rfl (Or.inr ⟨HN.out, rfl, ?_⟩)
  exact (HB1.out.setCell (by show _ ≤ w.heap.size + 1; omega) _).setCell (by show _ ≤ w.heap.size + 1; omega) _
 | true =>
  rw [hoB] at HRA
  by_cases h0 : 0 < t.size
  ·have hne0 : t.toList.isEmpty = false := ne_nil h0
   by_cases h255 : cn < 255
   ·have h255' : ((cn : Int) == 255) = false := by rw [beq_eq_false_iff_ne]; omega
    by_cases hroom : (recL t).length + E ≤ 3008
    ·have HN : Hid (recB ss ps a t = true) := by
      show _ = _
      have e1 : decide (0 < t.size) = true := by simpa using h0
      have e2 : decide (cnt ss ps a < 255) = true := by rw [hcn]; simp; omega
      have e3 : decide ((recL t).length + oE (raO ss ps a) ≤ 3008) = true := by rw [← hE]; simpa using hroom
      unfold recB
      rw [hoB, e1, e2, e3]
      rfl
     have hA : isA a = true := (recB_parts HN.out).2.2.2.2
     obtain ⟨p, hp9⟩ : ∃ p : Nat, (p : Int) = af a := ⟨(af a).toNat, by have := af_bd a; omega⟩
     have hp97 : p ≤ 97 := by have := af_bd a; omega
     have hin := af1_in hA
     have hqp : ((af a + 1).toNat : Int) = (p : Int) + 1 := by rw [hin.1, hp9]
     have HW : Hid (recW ss ps a t = wb ss (af a + 1).toNat E (recL t)) := by show _ = _; unfold recW; rw [if_pos HN.out, ← hE]
     have hRz : (⟨(recL t).toArray⟩ : ByteArray).size = (recL t).length := by show (recL t).toArray.size = _; simp
     have HWB : Hid (∀ W : World, Below w.heap.size w W → Calls Tryz.prog 69 #[.agg #[.slice a1 ss.length c1, .slice a2 ps.length c2], .int .i64 ((p : Int) + 1), .int .i64 (E : Int), .string ⟨(recL t).toArray⟩] W fun e w' => ∃ b1 d1 b2 d2, e = .returned (.tuple #[.agg #[.slice b1 ss.length d1, .slice b2 (recW ss ps a t).length d2], .bool true]) ∧ DOwn w' W.heap.size b1 d1 b2 d2 ss (recW ss ps a t) ∧ okB ss (recW ss ps a t) = true ∧ Below W.heap.size W w') := fun W hW => by
      have h := iwb98 ss ps (af a + 1).toNat E ⟨(recL t).toArray⟩ a1 a2 c1 c2 hok hps (by omega) (by rw [hRz]; omega) W (hs.below hW) (hp.below hW)
      rw [show (⟨(recL t).toArray⟩ : ByteArray).data.toList = recL t by simp, ← HW.out, hqp] at h
      exact h
     have HAF : Hid (∀ w : World, Calls Tryz.prog 70 #[.int .i64 a] w fun e w' => e = .returned (.int .i64 (p : Int)) ∧ w' = w) := fun w => by rw [hp9]; exact iaf15 a w
     have hqw : IntKind.i64.wrap ((p : Int) + 1) = (p : Int) + 1 := by rw [IntKind.wrap_i64]; omega
     have HRF : Hid (∀ W : World, Calls Tryz.prog 68 #[.int .i64 (E : Int), .string t] W fun e w' => e = .returned (.tuple #[.slice (some ⟨W.heap.size, E, none⟩) (recL t).length (recL t).length, .bool true]) ∧ (∀ j (hj : j < (recL t).length), w'.cell? ⟨W.heap.size, E + j, none⟩ = some (.int .u8 ((recL t)[j].toNat : Int))) ∧ Below W.heap.size W w') := fun W => by
      refine (irf97 E t hEle (by omega) h0 W).mono ?_
      rintro e w' ⟨v, rfl, hv, hb⟩
      have hr := hv hroom
      rw [hr.1, decide_eq_true hroom]
      exact ⟨rfl, hr.2, hb⟩
     have HRP : Hid (0 < (recL t).length) := by show _ < _; rw [recL_len]; omega
     clear hA hqp hp9 hin hRz hE hcn hoB
     have HCV : Hid (∀ (W : World) (g : Nat), (∀ j (hj : j < (recL t).length), W.cell? ⟨g, E + j, none⟩ = some (.int .u8 ((recL t)[j].toNat : Int))) → (convert 22 9 (.slice (some ⟨g, E, none⟩) (recL t).length (recL t).length)).run Tryz.prog W = .ok (.string ⟨(recL t).toArray⟩) W) := fun W g h => run_convert_bytes_back (P := Tryz.prog) W 22 9 5 ⟨g, E, none⟩ (recL t).length (recL t) Tryz.underlying22 Tryz.underlying5 Tryz.underlying9 (fun j hj => by rw [Addr.add_lit]; exact h j hj)
     clear hok hps h97 hs0 hp0 hs hp HO
     generalize recB ss ps a t = RB at *
     generalize recW ss ps a t = RW at *
     generalize (⟨(recL t).toArray⟩ : ByteArray) = RT at *
     go_enter Tryz.func31, Tryz.ntmps31
     go_wp2_with fail
     refine (HRA.out _ b0.out).mono ?_
     rintro e w1 ⟨v, rfl, _, hb1⟩
     have Y01 : Hid (Bx w1 w.heap.size (.slice a1 ss.length c1) (.slice a2 ps.length c2)) := X0.out.keep hb1 X0.out.lt
     have Y11 : Hid (Bx w1 (w.heap.size + 1) (.slice none 0 0) (.slice none 0 0)) := X1.out.keep hb1 X1.out.lt
     have HB1 : Hid (Below w.heap.size w w1) := b0.out.trans (hb1.mono b0.out.size)
     have g01 := Y01.out.c0
     have g11 := Y01.out.c1
     go_wp2_with fail
     refine (HCN.out _ HB1.out).mono ?_
     rintro e w2 ⟨rfl, hb2⟩
     have Y02 : Hid (Bx w2 w.heap.size (.slice a1 ss.length c1) (.slice a2 ps.length c2)) := Y01.out.keep hb2 Y01.out.lt
     have Y12 : Hid (Bx w2 (w.heap.size + 1) (.slice none 0 0) (.slice none 0 0)) := Y11.out.keep hb2 Y11.out.lt
     have HB2 : Hid (Below w.heap.size w w2) := HB1.out.trans (hb2.mono HB1.out.size)
     have g02 := Y02.out.c0
     have g12 := Y02.out.c1
     go_wp2_with fail
     refine (HRF.out _).mono ?_
     rintro e w3 ⟨rfl, hcell3, hb3⟩
     have Y03 : Hid (Bx w3 w.heap.size (.slice a1 ss.length c1) (.slice a2 ps.length c2)) := Y02.out.keep hb3 Y02.out.lt
     have Y13 : Hid (Bx w3 (w.heap.size + 1) (.slice none 0 0) (.slice none 0 0)) := Y12.out.keep hb3 Y12.out.lt
     have HB3 : Hid (Below w.heap.size w w3) := HB2.out.trans (hb3.mono HB2.out.size)
     have g03 := Y03.out.c0
     have g13 := Y03.out.c1
     have hcv := HCV.out w3.drew w2.heap.size hcell3
     have HCVB : Hid (∀ W : World, (∀ j, W.cell? ⟨w2.heap.size, E + j, none⟩ = w3.cell? ⟨w2.heap.size, E + j, none⟩) → (convert 22 9 (.slice (some ⟨w2.heap.size, E, none⟩) (recL t).length (recL t).length)).run Tryz.prog W = .ok (.string RT) W) := fun W h => HCV.out W w2.heap.size (fun j hj => (h j).trans (hcell3 j hj))
     have hlt23 : w2.heap.size < w3.heap.size := by
      have h2 := (hcell3 0 (by have := HRP.out; omega))
      exact World.block_lt_of_cell? w3 _ h2
     have hnb : w.heap.size + 1 ≠ w2.heap.size := by have := Y12.out.lt; omega
     clear hcell3 HRF HCV hroom HRP
     generalize (recL t).length = RN at *
     go_wp2
     go_region_held3 (fun w' => w'.cell? ⟨w.heap.size, 0, none⟩ = some (.slice a1 ss.length c1) ∧ w'.cell? ⟨w.heap.size, 1, none⟩ = some (.slice a2 ps.length c2) ∧ (convert 22 9 (.slice (some ⟨w2.heap.size, E, none⟩) RN RN)).run Tryz.prog w' = .ok (.string RT) w') (first | exact ⟨g03, g13, hcv⟩ | exact t8.out | (refine ⟨?_, ?_, ?_⟩ <;> first | exact ((Y08.out.setO hne _).setO hne _).c0 | exact ((Y08.out.setO hne _).setO hne _).c1 | exact HCVB.out _ (fun j => ((World.cell?_setCell_other _ _ _ _ (fun e => hnb (congrArg Addr.block e))).trans (World.cell?_setCell_other _ _ _ _ (fun e => hnb (congrArg Addr.block e)))).trans (hc8 j))) | exact ⟨((Y08.out.setO hne _).setO hne _).c0, ((Y08.out.setO hne _).setO hne _).c1, HCVB.out _ (fun j => ((World.cell?_setCell_other _ _ _ _ (fun e => hnb (congrArg Addr.block e))).trans (World.cell?_setCell_other _ _ _ _ (fun e => hnb (congrArg Addr.block e)))).trans (hc8 j))⟩) ((first | (go_at_call 70; refine (HAF.out _).mono ?_; rintro e w5 ⟨rfl, rfl⟩) | (go_at_call 69; refine (HWB.out _ HB3.out.drew).mono ?_; rintro e w8 ⟨y1, y2, y3, y4, rfl, hd8, hk8, hb8⟩; have Y08 : Hid (Bx w8 w.heap.size (.slice a1 ss.length c1) (.slice a2 ps.length c2)) := Y03.out.keep (undrew hb8) Y03.out.lt; have hc8 : ∀ j, w8.cell? ⟨w2.heap.size, E + j, none⟩ = w3.cell? ⟨w2.heap.size, E + j, none⟩ := fun j => (undrew hb8).cell (p := ⟨w2.heap.size, E + j, none⟩) hlt23; have t8 : Hid (w8.cell? ⟨w.heap.size, 0, none⟩ = some (.slice a1 ss.length c1) ∧ w8.cell? ⟨w.heap.size, 1, none⟩ = some (.slice a2 ps.length c2) ∧ (convert 22 9 (.slice (some ⟨w2.heap.size, E, none⟩) RN RN)).run Tryz.prog w8 = .ok (.string RT) w8) := ⟨Y08.out.c0, Y08.out.c1, HCVB.out w8 hc8⟩; have Y18 : Hid (Bx w8 (w.heap.size + 1) (.slice none 0 0) (.slice none 0 0)) := Y13.out.keep (undrew hb8) Y13.out.lt; have r0 := Y18.out.c0; have r1 := Y18.out.c1; have rf := Y18.out.fz)))
     all_goals
      have V2 : Hid (Bx ((w8.setCell ⟨w.heap.size + 1, 0, none⟩ (.slice y1 ss.length y2)).setCell ⟨w.heap.size + 1, 1, none⟩ (.slice y3 RW.length y4)) (w.heap.size + 1) (.slice y1 ss.length y2) (.slice y3 RW.length y4)) := (Y18.out.set0 _).set1 _
      have v0 := V2.out.c0
      have v1 := V2.out.c1
      have hlt9 : w.heap.size + 1 < w3.heap.size := Y13.out.lt
      have HB8 : Hid (Below w.heap.size w w8) := HB3.out.trans ((undrew hb8).mono HB3.out.size)
      have hd8' : DOwn w8 w3.heap.size y1 y2 y3 y4 ss RW := hd8
      go_wp2
      refine bodyPost_ret (v := .tuple #[.agg #[.slice y1 ss.length y2, .slice y3 RW.length y4], .bool true]) (by simp [results, Tryz.results31, go_sem, v0, v1]) rfl (Or.inl ⟨HN.out, y1, y2, y3, y4, rfl, ⟨?_, ?_⟩, hk8, ?_⟩)
      ·exact ((hd8'.s.set (by show w.heap.size + 1 < _; omega) _).set (by show w.heap.size + 1 < _; omega) _).mono (by omega)
      ·exact ((hd8'.p.set (by show w.heap.size + 1 < _; omega) _).set (by show w.heap.size + 1 < _; omega) _).mono (by omega)
      ·exact (HB8.out.setCell (by show _ ≤ w.heap.size + 1; omega) _).setCell (by show _ ≤ w.heap.size + 1; omega) _
    ·have HRF : Hid (∀ W : World, Calls Tryz.prog 68 #[.int .i64 (E : Int), .string t] W fun e w' => ∃ v, e = .returned (.tuple #[v, .bool false]) ∧ Below W.heap.size W w') := fun W => by
      refine (irf97 E t hEle (by omega) h0 W).mono ?_
      rintro e w' ⟨v, rfl, _, hb⟩
      rw [decide_eq_false hroom]
      exact ⟨v, rfl, hb⟩
     have HN : Hid (recB ss ps a t = false) := by show _ = _; unfold recB; rw [show decide ((recL t).length + oE (raO ss ps a) ≤ 3008) = false by rw [← hE]; simpa using hroom]; simp
     clear hE hcn hoB
     clear hok hps h97 hs0 hp0 hs hp HO
     generalize recB ss ps a t = RB at *
     generalize recW ss ps a t = RW at *
     go_enter Tryz.func31, Tryz.ntmps31
     go_wp2_with fail
     refine (HRA.out _ b0.out).mono ?_
     rintro e w1 ⟨v, rfl, _, hb1⟩
     have Y01 : Hid (Bx w1 w.heap.size (.slice a1 ss.length c1) (.slice a2 ps.length c2)) := X0.out.keep hb1 X0.out.lt
     have Y11 : Hid (Bx w1 (w.heap.size + 1) (.slice none 0 0) (.slice none 0 0)) := X1.out.keep hb1 X1.out.lt
     have HB1 : Hid (Below w.heap.size w w1) := b0.out.trans (hb1.mono b0.out.size)
     have g01 := Y01.out.c0
     have g11 := Y01.out.c1
     go_wp2_with fail
     refine (HCN.out _ HB1.out).mono ?_
     rintro e w2 ⟨rfl, hb2⟩
     have Y02 : Hid (Bx w2 w.heap.size (.slice a1 ss.length c1) (.slice a2 ps.length c2)) := Y01.out.keep hb2 Y01.out.lt
     have Y12 : Hid (Bx w2 (w.heap.size + 1) (.slice none 0 0) (.slice none 0 0)) := Y11.out.keep hb2 Y11.out.lt
     have HB2 : Hid (Below w.heap.size w w2) := HB1.out.trans (hb2.mono HB1.out.size)
     have g02 := Y02.out.c0
     have g12 := Y02.out.c1
     go_wp2_with fail
     refine (HRF.out _).mono ?_
     rintro e w3 ⟨v3, rfl, hb3⟩
     have Y03 : Hid (Bx w3 w.heap.size (.slice a1 ss.length c1) (.slice a2 ps.length c2)) := Y02.out.keep hb3 Y02.out.lt
     have Y13 : Hid (Bx w3 (w.heap.size + 1) (.slice none 0 0) (.slice none 0 0)) := Y12.out.keep hb3 Y12.out.lt
     have HB3 : Hid (Below w.heap.size w w3) := HB2.out.trans (hb3.mono HB2.out.size)
     have g03 := Y03.out.c0
     have g13 := Y03.out.c1
     have r0 := Y13.out.c0
     have r1 := Y13.out.c1
     have rf := Y13.out.fz
     have V9 : Hid (Bx ((w3.setCell ⟨w.heap.size + 1, 0, none⟩ (.slice none 0 0)).setCell ⟨w.heap.size + 1, 1, none⟩ (.slice none 0 0)) (w.heap.size + 1) (.slice none 0 0) (.slice none 0 0)) := (Y13.out.set0 _).set1 _
     have v0 := V9.out.c0
     have v1 := V9.out.c1
     go_wp2
     refine bodyPost_ret (v := .tuple #[.agg #[.slice none 0 0, .slice none 0 0], .bool false]) (by simp [results, Tryz.results31, go_sem, v0, v1]) rfl (Or.inr ⟨HN.out, rfl, ?_⟩)
     exact (HB3.out.setCell (by show _ ≤ w.heap.size + 1; omega) _).setCell (by show _ ≤ w.heap.size + 1; omega) _
   ·have h255' : ((cn : Int) == 255) = true := by rw [beq_iff_eq]; omega
    have HN : Hid (recB ss ps a t = false) := by show _ = _; unfold recB; rw [show decide (cnt ss ps a < 255) = false by rw [hcn]; simp; omega]; simp
    clear hE hcn hoB
    clear hok hps h97 hs0 hp0 hs hp HO
    generalize recB ss ps a t = RB at *
    generalize recW ss ps a t = RW at *
    go_enter Tryz.func31, Tryz.ntmps31
    go_wp2_with fail
    refine (HRA.out _ b0.out).mono ?_
    rintro e w1 ⟨v, rfl, _, hb1⟩
    have Y01 : Hid (Bx w1 w.heap.size (.slice a1 ss.length c1) (.slice a2 ps.length c2)) := X0.out.keep hb1 X0.out.lt
    have Y11 : Hid (Bx w1 (w.heap.size + 1) (.slice none 0 0) (.slice none 0 0)) := X1.out.keep hb1 X1.out.lt
    have HB1 : Hid (Below w.heap.size w w1) := b0.out.trans (hb1.mono b0.out.size)
    have g01 := Y01.out.c0
    have g11 := Y01.out.c1
    go_wp2_with fail
    refine (HCN.out _ HB1.out).mono ?_
    rintro e w2 ⟨rfl, hb2⟩
    have Y02 : Hid (Bx w2 w.heap.size (.slice a1 ss.length c1) (.slice a2 ps.length c2)) := Y01.out.keep hb2 Y01.out.lt
    have Y12 : Hid (Bx w2 (w.heap.size + 1) (.slice none 0 0) (.slice none 0 0)) := Y11.out.keep hb2 Y11.out.lt
    have HB2 : Hid (Below w.heap.size w w2) := HB1.out.trans (hb2.mono HB1.out.size)
    have g02 := Y02.out.c0
    have g12 := Y02.out.c1
    have r0 := Y12.out.c0
    have r1 := Y12.out.c1
    have rf := Y12.out.fz
    have V9 : Hid (Bx ((w2.setCell ⟨w.heap.size + 1, 0, none⟩ (.slice none 0 0)).setCell ⟨w.heap.size + 1, 1, none⟩ (.slice none 0 0)) (w.heap.size + 1) (.slice none 0 0) (.slice none 0 0)) := (Y12.out.set0 _).set1 _
    have v0 := V9.out.c0
    have v1 := V9.out.c1
    go_wp2
    refine bodyPost_ret (v := .tuple #[.agg #[.slice none 0 0, .slice none 0 0], .bool false]) (by simp [results, Tryz.results31, go_sem, v0, v1]) rfl (Or.inr ⟨HN.out, rfl, ?_⟩)
    exact (HB2.out.setCell (by show _ ≤ w.heap.size + 1; omega) _).setCell (by show _ ≤ w.heap.size + 1; omega) _
  ·obtain rfl := ba_nil h0
   have HN : Hid (recB ss ps a ⟨#[]⟩ = false) := by show _ = _; simp [recB, hoB]; intro h; exact absurd h (by decide)
   clear hE hcn hoB
   clear hok hps h97 hs0 hp0 hs hp HO
   generalize recB ss ps a ⟨#[]⟩ = RB at *
   generalize recW ss ps a ⟨#[]⟩ = RW at *
   go_enter Tryz.func31, Tryz.ntmps31
   go_wp2_with fail
   refine (HRA.out _ b0.out).mono ?_
   rintro e w1 ⟨v, rfl, _, hb1⟩
   have Y01 : Hid (Bx w1 w.heap.size (.slice a1 ss.length c1) (.slice a2 ps.length c2)) := X0.out.keep hb1 X0.out.lt
   have Y11 : Hid (Bx w1 (w.heap.size + 1) (.slice none 0 0) (.slice none 0 0)) := X1.out.keep hb1 X1.out.lt
   have HB1 : Hid (Below w.heap.size w w1) := b0.out.trans (hb1.mono b0.out.size)
   have g01 := Y01.out.c0
   have g11 := Y01.out.c1
   have r0 := Y11.out.c0
   have r1 := Y11.out.c1
   have rf := Y11.out.fz
   have V9 : Hid (Bx ((w1.setCell ⟨w.heap.size + 1, 0, none⟩ (.slice none 0 0)).setCell ⟨w.heap.size + 1, 1, none⟩ (.slice none 0 0)) (w.heap.size + 1) (.slice none 0 0) (.slice none 0 0)) := (Y11.out.set0 _).set1 _
   have v0 := V9.out.c0
   have v1 := V9.out.c1
   go_wp2
   refine bodyPost_ret (v := .tuple #[.agg #[.slice none 0 0, .slice none 0 0], .bool false]) (by simp [results, Tryz.results31, go_sem, v0, v1]) rfl (Or.inr ⟨HN.out, rfl, ?_⟩)
   exact (HB1.out.setCell (by show _ ≤ w.heap.size + 1; omega) _).setCell (by show _ ≤ w.heap.size + 1; omega) _
end Go.Proofs.YtekjpoenbcnhdaaGreat

namespace Go.Proofs.YtekjpoenbcnhdaaGreat
open Go.RowKit
open DM
attribute [local go_sem ↓] Go.wp_at_zero Go.wp_at_succ

set_option maxRecDepth 100000 in
set_option maxHeartbeats 4000000 in
theorem icw73 (ss : List ByteArray) (ps : List Wr) (a : Int) (c : Nat) (a1 a2 : Option Addr) (c1 c2 : Nat) (hA : isA a = true) (hok : okB ss ps = true) (hps : ps = []) (h97 : ss.length = 97) (hc : c ≤ 255) (w : World) (hs : SRow w a1 ss) (hp : PRow w a2 ps) :
  Calls Tryz.prog 32 #[.agg #[.slice a1 ss.length c1, .slice a2 ps.length c2], .int .i64 a, .int .i64 (c : Int)] w fun e w' => ∃ b1 d1 b2 d2, e = .returned (.agg #[.slice b1 ss.length d1, .slice b2 (wb ss (af a).toNat 0 [UInt8.ofNat c]).length d2]) ∧ DOwn w' w.heap.size b1 d1 b2 d2 ss (wb ss (af a).toNat 0 [UInt8.ofNat c]) ∧ okB ss (wb ss (af a).toNat 0 [UInt8.ofNat c]) = true ∧ Below w.heap.size w w' := by
 have hin := af_in hA
 obtain ⟨q, hq⟩ : ∃ q, q = (af a).toNat := ⟨_, rfl⟩
 have HAF : Hid (∀ w : World, Calls Tryz.prog 70 #[.int .i64 a] w fun e w' => e = .returned (.int .i64 (q : Int)) ∧ w' = w) := fun w => by
  have h := iaf15 a w
  rw [hq, hin.1]
  exact h
 have HWB : Hid (∀ W : World, Below w.heap.size w W → Calls Tryz.prog 71 #[.agg #[.slice a1 ss.length c1, .slice a2 ps.length c2], .int .i64 (q : Int), .int .i64 (c : Int)] W fun e w' => ∃ b1 d1 b2 d2, e = .returned (.agg #[.slice b1 ss.length d1, .slice b2 (wb ss q 0 [UInt8.ofNat c]).length d2]) ∧ DOwn w' W.heap.size b1 d1 b2 d2 ss (wb ss q 0 [UInt8.ofNat c]) ∧ okB ss (wb ss q 0 [UInt8.ofNat c]) = true ∧ Below W.heap.size W w') := fun W hW => ifb99 ss ps q c a1 a2 c1 c2 hok hps (by omega) hc W (hs.below hW) (hp.below hW)
 rw [← hq]
 generalize wb ss q 0 [UInt8.ofNat c] = WB at *
 have b0 : Hid (Below w.heap.size w ((w.alloc (.cells #[.slice a1 ss.length c1, .slice a2 ps.length c2] 27)).alloc (.cells #[.slice none 0 0, .slice none 0 0] 27))) := ((belowRefl w).alloc (Nat.le_refl _) _).alloc (by simp) _
 have X0 : Hid (Bx ((w.alloc (.cells #[.slice a1 ss.length c1, .slice a2 ps.length c2] 27)).alloc (.cells #[.slice none 0 0, .slice none 0 0] 27)) w.heap.size (.slice a1 ss.length c1) (.slice a2 ps.length c2)) := (Bx.new w _ _ _).alloc _
 have X1 : Hid (Bx ((w.alloc (.cells #[.slice a1 ss.length c1, .slice a2 ps.length c2] 27)).alloc (.cells #[.slice none 0 0, .slice none 0 0] 27)) (w.heap.size + 1) (.slice none 0 0) (.slice none 0 0)) := by
  have h := Bx.new (w.alloc (.cells #[.slice a1 ss.length c1, .slice a2 ps.length c2] 27)) (.slice none 0 0) (.slice none 0 0) 27
  rw [World.size_alloc] at h
  exact h
 clear hs hp hq hin hok hps h97 hA
 generalize hW0 : ((w.alloc (.cells #[.slice a1 ss.length c1, .slice a2 ps.length c2] 27)).alloc (.cells #[.slice none 0 0, .slice none 0 0] 27)) = W0 at *
 have g0 := X0.out.c0
 have g1 := X0.out.c1
 have hz : W0.heap.size = w.heap.size + 1 + 1 := by rw [← hW0]; simp
 have hne : w.heap.size + 1 ≠ w.heap.size := by omega
 go_enter Tryz.func32, Tryz.ntmps32
 go_wp2
 go_region_held3 (fun w' => w'.cell? ⟨w.heap.size, 0, none⟩ = some (.slice a1 ss.length c1) ∧ w'.cell? ⟨w.heap.size, 1, none⟩ = some (.slice a2 ps.length c2)) (first | go_keep | exact t8.out | exact ⟨((Y08.out.setO hne _).setO hne _).c0, ((Y08.out.setO hne _).setO hne _).c1⟩) ((first | (go_at_call 70; refine (HAF.out _).mono ?_; rintro e w5 ⟨rfl, rfl⟩) | (go_at_call 71; refine (HWB.out _ b0.out.drew).mono ?_; rintro e w8 ⟨y1, y2, y3, y4, rfl, hd8, hk8, hb8⟩; have Y08 : Hid (Bx w8 w.heap.size (.slice a1 ss.length c1) (.slice a2 ps.length c2)) := X0.out.keep (undrew hb8) X0.out.lt; have t8 : Hid (w8.cell? ⟨w.heap.size, 0, none⟩ = some (.slice a1 ss.length c1) ∧ w8.cell? ⟨w.heap.size, 1, none⟩ = some (.slice a2 ps.length c2)) := ⟨Y08.out.c0, Y08.out.c1⟩; have Y18 : Hid (Bx w8 (w.heap.size + 1) (.slice none 0 0) (.slice none 0 0)) := X1.out.keep (undrew hb8) X1.out.lt; have r0 := Y18.out.c0; have r1 := Y18.out.c1; have rf := Y18.out.fz)))
 all_goals
  have V : Hid (Bx ((w8.setCell ⟨w.heap.size + 1, 0, none⟩ (.slice y1 ss.length y2)).setCell ⟨w.heap.size + 1, 1, none⟩ (.slice y3 WB.length y4)) (w.heap.size + 1) (.slice y1 ss.length y2) (.slice y3 WB.length y4)) := (Y18.out.set0 _).set1 _
  have v0 := V.out.c0
  have v1 := V.out.c1
  have HB8 : Hid (Below w.heap.size w w8) := b0.out.trans ((undrew hb8).mono b0.out.size)
  have hd8' : DOwn w8 W0.heap.size y1 y2 y3 y4 ss WB := hd8
  go_wp2
  refine bodyPost_ret (v := .agg #[.slice y1 ss.length y2, .slice y3 WB.length y4]) (by simp [results, Tryz.results32, go_sem, v0, v1]) rfl ⟨y1, y2, y3, y4, rfl, ⟨?_, ?_⟩, hk8, ?_⟩
  ·exact ((hd8'.s.set (by show w.heap.size + 1 < _; omega) _).set (by show w.heap.size + 1 < _; omega) _).mono (by omega)
  ·exact ((hd8'.p.set (by show w.heap.size + 1 < _; omega) _).set (by show w.heap.size + 1 < _; omega) _).mono (by omega)
  ·exact (HB8.out.setCell (by show _ ≤ w.heap.size + 1; omega) _).setCell (by show _ ≤ w.heap.size + 1; omega) _
end Go.Proofs.YtekjpoenbcnhdaaGreat

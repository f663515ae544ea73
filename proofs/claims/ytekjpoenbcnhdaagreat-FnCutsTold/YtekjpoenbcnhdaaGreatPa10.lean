/- Counts: what is written of one. -/
import Derived.Test.YtekjpoenbcnhdaaGreatPa09
namespace Go.Proofs.YtekjpoenbcnhdaaGreat
open Go.RowKit
open DM
attribute [local go_sem ↓] Go.wp_at_zero Go.wp_at_succ

def oneB (c : Nat) : ByteArray := ⟨#[UInt8.ofNat c]⟩

set_option maxHeartbeats 400000 in
theorem sone101 (c : Nat) (hc : c ≤ 255) (w : World) :
  Calls Tryz.prog 59 #[.int .i64 (c : Int)] w fun e w' => e = .returned (.string (oneB c)) ∧ Below w.heap.size w w' := by
 have hx : (c : Int) = ((UInt8.ofNat c).toNat : Int) := (toNat_ofNat c (by omega)).symm
 have hcv := conv1 w (UInt8.ofNat c) (c : Int) hx
 clear hx
 go_enter Tryz.func59, Tryz.ntmps59
 go_wp2
 go_ret
 exact ⟨rfl, (belowRefl w).alloc (Nat.le_refl _) _⟩

theorem DOwn.drew {w : World} {b : Nat} {a1 a2 : Option Addr} {c1 c2 : Nat} {ss : List ByteArray} {ps : List Wr} (h : DOwn w b a1 c1 a2 c2 ss ps) : DOwn w.drew b a1 c1 a2 c2 ss ps := h.below (belowRefl w).drew
theorem af_in {a : Int} (h : isA a = true) : ((af a).toNat : Int) = af a ∧ (af a).toNat + 48 ≤ 97 := by
 rcases isA_iff.1 h with rfl | rfl <;> decide

set_option maxRecDepth 100000 in
set_option maxHeartbeats 4000000 in
theorem scount96 (ss : List ByteArray) (ps : List Wr) (a : Int) (c : Nat) (a1 a2 : Option Addr) (c1 c2 B0 : Nat) (hA : isA a = true) (hok : okB ss ps = true) (hps : ps = []) (h97 : ss.length = 97) (hc : c ≤ 255) (w : World) (hd : DOwn w B0 a1 c1 a2 c2 ss ps) :
  Calls Tryz.prog 39 #[.agg #[.slice a1 ss.length c1, .slice a2 ps.length c2], .int .i64 a, .int .i64 (c : Int)] w fun e w' => ∃ b1 d1 b2 d2, e = .returned (.tuple #[.agg #[.slice b1 ss.length d1, .slice b2 (wb ss (af a).toNat 0 [UInt8.ofNat c]).length d2], .bool true]) ∧ DOwn w' w.heap.size b1 d1 b2 d2 ss (wb ss (af a).toNat 0 [UInt8.ofNat c]) ∧ okB ss (wb ss (af a).toNat 0 [UInt8.ofNat c]) = true ∧ Below w.heap.size w w' := by
 have HD : Hid (DOwn w B0 a1 c1 a2 c2 ss ps) := hd
 have hin := af_in hA
 obtain ⟨q, hq⟩ : ∃ q, q = (af a).toNat := ⟨_, rfl⟩
 have HAF : Hid (∀ w : World, Calls Tryz.prog 58 #[.int .i64 a] w fun e w' => e = .returned (.int .i64 (q : Int)) ∧ w' = w) := fun w => by
  have h := saf14 a w
  rw [hq, hin.1]
  exact h
 have HWB : Hid (∀ W : World, DOwn W B0 a1 c1 a2 c2 ss ps → Calls Tryz.prog 57 #[.agg #[.slice a1 ss.length c1, .slice a2 ps.length c2], .int .i64 (q : Int), .int .i64 0, .string (oneB c)] W fun e w' => ∃ b1 d1 b2 d2, e = .returned (.tuple #[.agg #[.slice b1 ss.length d1, .slice b2 (wb ss q 0 [UInt8.ofNat c]).length d2], .bool true]) ∧ DOwn w' W.heap.size b1 d1 b2 d2 ss (wb ss q 0 [UInt8.ofNat c]) ∧ okB ss (wb ss q 0 [UInt8.ofNat c]) = true ∧ Below W.heap.size W w') := fun W hW => swb100 ss ps q 0 (oneB c) a1 a2 c1 c2 B0 hok hps (by omega) (by show 0 + 1 ≤ 3008; omega) W hW
 have HON : Hid (∀ W : World, Calls Tryz.prog 59 #[.int .i64 (c : Int)] W fun e w' => e = .returned (.string (oneB c)) ∧ Below W.heap.size W w') := fun W => sone101 c hc W
 rw [← hq]
 generalize wb ss q 0 [UInt8.ofNat c] = WB at *
 generalize oneB c = tb at *
 have b0 : Hid (Below w.heap.size w ((w.alloc (.cells #[.slice a1 ss.length c1, .slice a2 ps.length c2] 27)).alloc (.cells #[.slice none 0 0, .slice none 0 0] 27))) := ((belowRefl w).alloc (Nat.le_refl _) _).alloc (by simp) _
 have X0 : Hid (Bx ((w.alloc (.cells #[.slice a1 ss.length c1, .slice a2 ps.length c2] 27)).alloc (.cells #[.slice none 0 0, .slice none 0 0] 27)) w.heap.size (.slice a1 ss.length c1) (.slice a2 ps.length c2)) := (Bx.new w _ _ _).alloc _
 have X1 : Hid (Bx ((w.alloc (.cells #[.slice a1 ss.length c1, .slice a2 ps.length c2] 27)).alloc (.cells #[.slice none 0 0, .slice none 0 0] 27)) (w.heap.size + 1) (.slice none 0 0) (.slice none 0 0)) := by
  have h := Bx.new (w.alloc (.cells #[.slice a1 ss.length c1, .slice a2 ps.length c2] 27)) (.slice none 0 0) (.slice none 0 0) 27
  rw [World.size_alloc] at h
  exact h
 have HD0 : Hid (DOwn ((w.alloc (.cells #[.slice a1 ss.length c1, .slice a2 ps.length c2] 27)).alloc (.cells #[.slice none 0 0, .slice none 0 0] 27)).drew B0 a1 c1 a2 c2 ss ps) := (HD.out.below b0.out).drew
 clear hd hq hin hok hps h97 HD hA
 generalize hW0 : ((w.alloc (.cells #[.slice a1 ss.length c1, .slice a2 ps.length c2] 27)).alloc (.cells #[.slice none 0 0, .slice none 0 0] 27)) = W0 at *
 have g0 := X0.out.c0
 have g1 := X0.out.c1
 have hz : W0.heap.size = w.heap.size + 1 + 1 := by rw [← hW0]; simp
 have hne : w.heap.size + 1 ≠ w.heap.size := by omega
 go_enter Tryz.func39, Tryz.ntmps39
 go_wp2
 go_region_held3 (fun w' => w'.cell? ⟨w.heap.size, 0, none⟩ = some (.slice a1 ss.length c1) ∧ w'.cell? ⟨w.heap.size, 1, none⟩ = some (.slice a2 ps.length c2)) (first | go_keep | exact t5.out | exact t8.out | exact ⟨((Y08.out.setO hne _).setO hne _).c0, ((Y08.out.setO hne _).setO hne _).c1⟩) ((first | (go_at_call 58; refine (HAF.out _).mono ?_; rintro e w5 ⟨rfl, rfl⟩) | (go_at_call 59; refine (HON.out _).mono ?_; rintro e w5 ⟨rfl, hb5⟩; have Y05 : Hid (Bx w5 w.heap.size (.slice a1 ss.length c1) (.slice a2 ps.length c2)) := X0.out.keep (undrew hb5) X0.out.lt; have t5 : Hid (w5.cell? ⟨w.heap.size, 0, none⟩ = some (.slice a1 ss.length c1) ∧ w5.cell? ⟨w.heap.size, 1, none⟩ = some (.slice a2 ps.length c2)) := ⟨Y05.out.c0, Y05.out.c1⟩) | (go_at_call 57; refine (HWB.out _ (HD0.out.below hb5)).mono ?_; rintro e w8 ⟨y1, y2, y3, y4, rfl, hd8, hk8, hb8⟩; have Y08 : Hid (Bx w8 w.heap.size (.slice a1 ss.length c1) (.slice a2 ps.length c2)) := Y05.out.keep hb8 Y05.out.lt; have t8 : Hid (w8.cell? ⟨w.heap.size, 0, none⟩ = some (.slice a1 ss.length c1) ∧ w8.cell? ⟨w.heap.size, 1, none⟩ = some (.slice a2 ps.length c2)) := ⟨Y08.out.c0, Y08.out.c1⟩; have Y18 : Hid (Bx w8 (w.heap.size + 1) (.slice none 0 0) (.slice none 0 0)) := (X1.out.keep (undrew hb5) X1.out.lt).keep hb8 (X1.out.keep (undrew hb5) X1.out.lt).lt; have r0 := Y18.out.c0; have r1 := Y18.out.c1; have rf := Y18.out.fz)))
 all_goals
  have hz5 : w.heap.size + 1 + 1 ≤ w5.heap.size := by have := (undrew hb5).size; omega
  have V : Hid (Bx ((w8.setCell ⟨w.heap.size + 1, 0, none⟩ (.slice y1 ss.length y2)).setCell ⟨w.heap.size + 1, 1, none⟩ (.slice y3 WB.length y4)) (w.heap.size + 1) (.slice y1 ss.length y2) (.slice y3 WB.length y4)) := (Y18.out.set0 _).set1 _
  have v0 := V.out.c0
  have v1 := V.out.c1
  have HB8 : Hid (Below w.heap.size w w8) := (b0.out.trans ((undrew hb5).mono b0.out.size)).trans (hb8.mono (by omega))
  go_wp2
  refine bodyPost_ret (v := .tuple #[.agg #[.slice y1 ss.length y2, .slice y3 WB.length y4], .bool true]) (by simp [results, Tryz.results39, go_sem, v0, v1]) rfl ⟨y1, y2, y3, y4, rfl, ⟨?_, ?_⟩, hk8, ?_⟩
  ·exact ((hd8.s.set (by show w.heap.size + 1 < _; omega) _).set (by show w.heap.size + 1 < _; omega) _).mono (by omega)
  ·exact ((hd8.p.set (by show w.heap.size + 1 < _; omega) _).set (by show w.heap.size + 1 < _; omega) _).mono (by omega)
  ·exact (HB8.out.setCell (by show _ ≤ w.heap.size + 1; omega) _).setCell (by show _ ≤ w.heap.size + 1; omega) _
end Go.Proofs.YtekjpoenbcnhdaaGreat

namespace Go.Proofs.YtekjpoenbcnhdaaGreat
open Go.RowKit
open DM
attribute [local go_sem ↓] Go.wp_at_zero Go.wp_at_succ

def recL (t : ByteArray) : List UInt8 := WM.varL t.size ++ t.data.toList
theorem recL_len (t : ByteArray) : (recL t).length = (WM.varL t.size).length + t.size := by
 simp [recL]
def recB (ss : List ByteArray) (ps : List Wr) (a : Int) (t : ByteArray) : Bool := oB (raO ss ps a) && (decide (0 < t.size) && (decide (cnt ss ps a < 255) && decide ((recL t).length + oE (raO ss ps a) ≤ 3008)))
def recW (ss : List ByteArray) (ps : List Wr) (a : Int) (t : ByteArray) : List Wr := if recB ss ps a t = true then wb ss (af a + 1).toNat (oE (raO ss ps a)) (recL t) else ps
theorem recs_le {s : ByteArray} : ∀ c (acc : List ByteArray) (p : Nat) (l : List ByteArray) (q : Nat), p ≤ s.size → recsGo s c acc p = some (l, q) → q ≤ s.size
 | 0, _, p, l, q, hp, h => by simp only [recsGo, Option.some.injEq, Prod.mk.injEq] at h; omega
 | c + 1, acc, p, l, q, hp, h => by
  simp only [recsGo] at h
  split at h
  ·cases h
  ·rename_i t q' hr
   exact recs_le c _ q' l q (rec1_le hr).1 h
theorem oE_le {ss : List ByteArray} {ps : List Wr} (h : OkD ss ps) (a : Int) : oE (raO ss ps a) ≤ 3008 := by
 cases hr : raO ss ps a with
 | none => exact Nat.zero_le _
 | some r =>
  obtain ⟨l, q⟩ := r
  show q ≤ 3008
  unfold raO at hr
  split at hr
  ·split at hr
   ·exact Nat.le_trans (recs_le _ _ _ _ _ (Nat.zero_le _) hr) (arT_size h a)
   ·cases hr
  ·cases hr
theorem af1_in {a : Int} (h : isA a = true) : ((af a + 1).toNat : Int) = af a + 1 ∧ (af a + 1).toNat + 47 ≤ 97 := by
 rcases isA_iff.1 h with rfl | rfl <;> decide

set_option maxRecDepth 100000 in
set_option maxHeartbeats 8000000 in
theorem sbeg95 (ss : List ByteArray) (ps : List Wr) (a : Int) (t : ByteArray) (a1 a2 : Option Addr) (c1 c2 B0 : Nat) (hA : isA a = true) (hok : okB ss ps = true) (hps : ps = []) (h97 : ss.length = 97) (htz : t.size ≤ 1048576) (w : World) (hd : DOwn w B0 a1 c1 a2 c2 ss ps) :
  Calls Tryz.prog 37 #[.agg #[.slice a1 ss.length c1, .slice a2 ps.length c2], .int .i64 a, .string t] w fun e w' => ∃ b1 d1 b2 d2, e = .returned (.tuple #[.agg #[.slice b1 ss.length d1, .slice b2 (recW ss ps a t).length d2], .bool (recB ss ps a t)]) ∧ DOwn w' w.heap.size b1 d1 b2 d2 ss (recW ss ps a t) ∧ okB ss (recW ss ps a t) = true ∧ Below w.heap.size w w' := by
 have HD : Hid (DOwn w B0 a1 c1 a2 c2 ss ps) := hd
 have HOKp : Hid (okB ss ps = true) := hok
 have HO : Hid (OkD ss ps) := okB_iff.1 hok
 have hin := af1_in hA
 have hEle := oE_le (okB_iff.1 hok) a
 have hcb := cnt_le ss ps a
 obtain ⟨q, hq⟩ : ∃ q, q = (af a + 1).toNat := ⟨_, rfl⟩
 have hs0 : ∀ s ∈ ss, s.size ≤ 1048576 := fun s h => by have := HO.out.2.2.2.1 s h; omega
 have hp0 : ∀ p ∈ ps, p.2.size ≤ 1048576 := fun p h => by have := (HO.out.2.2.2.2 p h).2.2; omega
 have hs100 : ss.length ≤ 100 := HO.out.2.1
 have hpl : ps.length ≤ 60 := HO.out.2.2.1
 have HRA : Hid (∀ W : World, DOwn W B0 a1 c1 a2 c2 ss ps → Calls Tryz.prog 80 #[.agg #[.slice a1 ss.length c1, .slice a2 ps.length c2], .int .i64 a] W fun e w'' => ∃ v, e = .returned (.tuple #[v, .int .i64 (oE (raO ss ps a) : Nat), .bool (oB (raO ss ps a))]) ∧ SOwn w'' W.heap.size v (oL (raO ss ps a)) ∧ Below W.heap.size W w'') := fun W h => sra29 ss ps a a1 a2 c1 c2 (by omega) (by omega) hs0 hp0 (Nat.le_trans (arT_size HO.out a) (by omega)) W h.s.srow h.p.prow
 have HCN : Hid (∀ W : World, DOwn W B0 a1 c1 a2 c2 ss ps → Calls Tryz.prog 41 #[.agg #[.slice a1 ss.length c1, .slice a2 ps.length c2], .int .i64 a] W fun e w'' => e = .returned (.int .i64 (cnt ss ps a)) ∧ Below W.heap.size W w'') := fun W h => scn27 ss ps a a1 a2 c1 c2 (by omega) (by omega) W h.s.srow h.p.prow
 have HCP : Hid (∀ W : World, DOwn W B0 a1 c1 a2 c2 ss ps → Calls Tryz.prog 25 #[.agg #[.slice a1 ss.length c1, .slice a2 ps.length c2]] W fun e w' => ∃ b1 d1 b2 d2, e = .returned (.agg #[.slice b1 ss.length d1, .slice b2 ps.length d2]) ∧ DOwn w' W.heap.size b1 d1 b2 d2 ss ps ∧ Below W.heap.size W w') := fun W h => copy64 ss ps a1 a2 c1 c2 B0 (by omega) (by omega) W h
 have b0 : Hid (Below w.heap.size w ((w.alloc (.cells #[.slice a1 ss.length c1, .slice a2 ps.length c2] 27)).alloc (.cells #[.slice none 0 0, .slice none 0 0] 27))) := ((belowRefl w).alloc (Nat.le_refl _) _).alloc (by simp) _
 have X0 : Hid (Bx ((w.alloc (.cells #[.slice a1 ss.length c1, .slice a2 ps.length c2] 27)).alloc (.cells #[.slice none 0 0, .slice none 0 0] 27)) w.heap.size (.slice a1 ss.length c1) (.slice a2 ps.length c2)) := (Bx.new w _ _ _).alloc _
 have X1 : Hid (Bx ((w.alloc (.cells #[.slice a1 ss.length c1, .slice a2 ps.length c2] 27)).alloc (.cells #[.slice none 0 0, .slice none 0 0] 27)) (w.heap.size + 1) (.slice none 0 0) (.slice none 0 0)) := by
  have h := Bx.new (w.alloc (.cells #[.slice a1 ss.length c1, .slice a2 ps.length c2] 27)) (.slice none 0 0) (.slice none 0 0) 27
  rw [World.size_alloc] at h
  exact h
 have HD0 : Hid (DOwn ((w.alloc (.cells #[.slice a1 ss.length c1, .slice a2 ps.length c2] 27)).alloc (.cells #[.slice none 0 0, .slice none 0 0] 27)) B0 a1 c1 a2 c2 ss ps) := HD.out.below b0.out
 have hne : w.heap.size + 1 ≠ w.heap.size := by omega
 obtain ⟨E, hE⟩ : ∃ E, E = oE (raO ss ps a) := ⟨_, rfl⟩
 obtain ⟨cn, hcn⟩ := Int.eq_ofNat_of_zero_le hcb.1
 rw [← hE] at HRA hEle
 rw [hcn] at HCN hcb
 cases hoB : oB (raO ss ps a) with
 | false =>
  rw [hoB] at HRA
  have HN : Hid (recB ss ps a t = false) := by show _ = _; simp [recB, hoB]
  have HW : Hid (recW ss ps a t = ps) := by show _ = _; exact if_neg (by simp [HN.out])
  clear hq hin hA hok hps h97 hs0 hp0 hd HD HO
  generalize recB ss ps a t = RB at *
  generalize recW ss ps a t = RW at *
  go_enter Tryz.func37, Tryz.ntmps37
  go_wp2_with fail
  refine (HRA.out _ HD0.out).mono ?_
  rintro e w1 ⟨v, rfl, _, hb1⟩
  have Y01 : Hid (Bx w1 w.heap.size (.slice a1 ss.length c1) (.slice a2 ps.length c2)) := X0.out.keep hb1 X0.out.lt
  have Y11 : Hid (Bx w1 (w.heap.size + 1) (.slice none 0 0) (.slice none 0 0)) := X1.out.keep hb1 X1.out.lt
  have HD1 : Hid (DOwn w1 B0 a1 c1 a2 c2 ss ps) := HD0.out.below hb1
  have HB1 : Hid (Below w.heap.size w w1) := b0.out.trans (hb1.mono b0.out.size)
  have g01 := Y01.out.c0
  have g11 := Y01.out.c1
  go_wp2_with fail
  refine (HCP.out _ HD1.out).mono ?_
  rintro e w9 ⟨y1, y2, y3, y4, rfl, hd9, hb9⟩
  have Y19 : Hid (Bx w9 (w.heap.size + 1) (.slice none 0 0) (.slice none 0 0)) := Y11.out.keep hb9 Y11.out.lt
  have r0 := Y19.out.c0
  have r1 := Y19.out.c1
  have rf := Y19.out.fz
  have V : Hid (Bx ((w9.setCell ⟨w.heap.size + 1, 0, none⟩ (.slice y1 ss.length y2)).setCell ⟨w.heap.size + 1, 1, none⟩ (.slice y3 ps.length y4)) (w.heap.size + 1) (.slice y1 ss.length y2) (.slice y3 ps.length y4)) := (Y19.out.set0 _).set1 _
  have v0 := V.out.c0
  have v1 := V.out.c1
  have hlt9 : w.heap.size + 1 < w1.heap.size := Y11.out.lt
  have HB9 : Hid (Below w.heap.size w w9) := HB1.out.trans (hb9.mono HB1.out.size)
  go_wp2
  refine bodyPost_ret (v := .tuple #[.agg #[.slice y1 ss.length y2, .slice y3 ps.length y4], .bool false]) (by simp [results, Tryz.results37, go_sem, v0, v1]) rfl ⟨y1, y2, y3, y4, ?_, ⟨?_, ?_⟩, by rw [HW.out]; exact HOKp.out, ?_⟩
  ·rw [HW.out, HN.out]
  ·exact ((hd9.s.set (by show w.heap.size + 1 < _; omega) _).set (by show w.heap.size + 1 < _; omega) _).mono (by omega)
  ·rw [HW.out]
   exact ((hd9.p.set (by show w.heap.size + 1 < _; omega) _).set (by show w.heap.size + 1 < _; omega) _).mono (by omega)
  ·exact (HB9.out.setCell (by show _ ≤ w.heap.size + 1; omega) _).setCell (by show _ ≤ w.heap.size + 1; omega) _
 | true =>
  rw [hoB] at HRA
  by_cases h0 : 0 < t.size
  ·have hne0 : t.toList.isEmpty = false := ne_nil h0
   by_cases hbig : t.size ≤ 3008
   ·have hbig' : ¬ (3008 : Int) < (t.size : Int) := by omega
    by_cases h255 : cn < 255
    ·have h255' : decide ((255 : Int) ≤ (cn : Int)) = false := by simp; omega
     obtain ⟨V, hV⟩ : ∃ V : ByteArray, V = ⟨(WM.varL t.size).toArray⟩ := ⟨_, rfl⟩
     have hVs : V.size = (WM.varL t.size).length := by rw [hV]; show (WM.varL t.size).toArray.size = _; simp
     have hV5 : V.size ≤ 5 := by rw [hVs]; exact WM.varL_len5 _ (by omega)
     have HVAR : Hid (∀ W : World, Calls Tryz.prog 81 #[.int .i64 (t.size : Int)] W fun e w' => e = .returned (.string V) ∧ Below W.heap.size W w') := fun W => by rw [hV]; exact var28 t.size (by omega) W
     have hsz : (V ++ t).size = V.size + t.size := by simp
     by_cases hroom : V.size + t.size + E ≤ 3008
     ·have HN : Hid (recB ss ps a t = true) := by
       show _ = _
       have e1 : decide (0 < t.size) = true := by simpa using h0
       have e2 : decide (cnt ss ps a < 255) = true := by rw [hcn]; simp; omega
       have e3 : decide ((recL t).length + oE (raO ss ps a) ≤ 3008) = true := by rw [recL_len, ← hVs, ← hE]; simpa using hroom
       unfold recB
       rw [hoB, e1, e2, e3]
       rfl
      have hdat : (V ++ t).data.toList = recL t := by rw [hV]; simp [recL]
      have HW : Hid (recW ss ps a t = wb ss q E (recL t)) := by show _ = _; unfold recW; rw [if_pos HN.out, ← hE, ← hq]
      obtain ⟨p, hp⟩ : ∃ p : Nat, (p : Int) = af a := ⟨(af a).toNat, by have := af_bd a; omega⟩
      have hqp : (q : Int) = (p : Int) + 1 := by rw [hq]; omega
      have hp97 : p ≤ 97 := by omega
      have HWB : Hid (∀ W : World, DOwn W B0 a1 c1 a2 c2 ss ps → Calls Tryz.prog 57 #[.agg #[.slice a1 ss.length c1, .slice a2 ps.length c2], .int .i64 ((p : Int) + 1), .int .i64 (E : Int), .string (V ++ t)] W fun e w' => ∃ b1 d1 b2 d2, e = .returned (.tuple #[.agg #[.slice b1 ss.length d1, .slice b2 (recW ss ps a t).length d2], .bool true]) ∧ DOwn w' W.heap.size b1 d1 b2 d2 ss (recW ss ps a t) ∧ okB ss (recW ss ps a t) = true ∧ Below W.heap.size W w') := fun W hW => by
       have h := swb100 ss ps q E (V ++ t) a1 a2 c1 c2 B0 hok hps (by omega) (by rw [hsz]; omega) W hW
       rw [hdat, ← HW.out, hqp] at h
       exact h
      have HAF : Hid (∀ w : World, Calls Tryz.prog 58 #[.int .i64 a] w fun e w' => e = .returned (.int .i64 (af a)) ∧ w' = w) := saf14 a
      have hqw : IntKind.i64.wrap ((p : Int) + 1) = (p : Int) + 1 := by rw [IntKind.wrap_i64]; omega
      rw [← hp] at HAF
      clear hqp hp hdat hsz hV hVs hE hcn hoB
      have hr' : ¬ (3008 : Int) - (E : Int) < (V.size : Int) + (t.size : Int) := by omega
      have hsum : ¬ 9223372036854775807 < V.size + t.size := by omega
      have hsum2 : V.size + t.size ≤ 9223372036854775807 := by omega
      clear hq hin hA hok hps h97 hs0 hp0 hd HD HO
      generalize recB ss ps a t = RB at *
      generalize recW ss ps a t = RW at *
      go_enter Tryz.func37, Tryz.ntmps37
      go_wp2_with fail
      refine (HRA.out _ HD0.out).mono ?_
      rintro e w1 ⟨v, rfl, _, hb1⟩
      have Y01 : Hid (Bx w1 w.heap.size (.slice a1 ss.length c1) (.slice a2 ps.length c2)) := X0.out.keep hb1 X0.out.lt
      have Y11 : Hid (Bx w1 (w.heap.size + 1) (.slice none 0 0) (.slice none 0 0)) := X1.out.keep hb1 X1.out.lt
      have HD1 : Hid (DOwn w1 B0 a1 c1 a2 c2 ss ps) := HD0.out.below hb1
      have HB1 : Hid (Below w.heap.size w w1) := b0.out.trans (hb1.mono b0.out.size)
      have g01 := Y01.out.c0
      have g11 := Y01.out.c1
      go_wp2_with fail
      refine (HCN.out _ HD1.out).mono ?_
      rintro e w2 ⟨rfl, hb2⟩
      have Y02 : Hid (Bx w2 w.heap.size (.slice a1 ss.length c1) (.slice a2 ps.length c2)) := Y01.out.keep hb2 Y01.out.lt
      have Y12 : Hid (Bx w2 (w.heap.size + 1) (.slice none 0 0) (.slice none 0 0)) := Y11.out.keep hb2 Y11.out.lt
      have HD2 : Hid (DOwn w2 B0 a1 c1 a2 c2 ss ps) := HD1.out.below hb2
      have HB2 : Hid (Below w.heap.size w w2) := HB1.out.trans (hb2.mono HB1.out.size)
      have g02 := Y02.out.c0
      have g12 := Y02.out.c1
      go_wp2_with fail
      refine (HVAR.out _).mono ?_
      rintro e w3 ⟨rfl, hb3⟩
      have Y03 : Hid (Bx w3 w.heap.size (.slice a1 ss.length c1) (.slice a2 ps.length c2)) := Y02.out.keep hb3 Y02.out.lt
      have Y13 : Hid (Bx w3 (w.heap.size + 1) (.slice none 0 0) (.slice none 0 0)) := Y12.out.keep hb3 Y12.out.lt
      have HD3 : Hid (DOwn w3 B0 a1 c1 a2 c2 ss ps) := HD2.out.below hb3
      have HB3 : Hid (Below w.heap.size w w3) := HB2.out.trans (hb3.mono HB2.out.size)
      have g03 := Y03.out.c0
      have g13 := Y03.out.c1
      go_wp2
      go_region_held3 (fun w' => w'.cell? ⟨w.heap.size, 0, none⟩ = some (.slice a1 ss.length c1) ∧ w'.cell? ⟨w.heap.size, 1, none⟩ = some (.slice a2 ps.length c2)) (first | go_keep | exact t8.out | exact ⟨((Y08.out.setO hne _).setO hne _).c0, ((Y08.out.setO hne _).setO hne _).c1⟩) ((first | (go_at_call 58; refine (HAF.out _).mono ?_; rintro e w5 ⟨rfl, rfl⟩) | (go_at_call 57; refine (HWB.out _ HD3.out.drew).mono ?_; rintro e w8 ⟨y1, y2, y3, y4, rfl, hd8, hk8, hb8⟩; have Y08 : Hid (Bx w8 w.heap.size (.slice a1 ss.length c1) (.slice a2 ps.length c2)) := Y03.out.keep (undrew hb8) Y03.out.lt; have t8 : Hid (w8.cell? ⟨w.heap.size, 0, none⟩ = some (.slice a1 ss.length c1) ∧ w8.cell? ⟨w.heap.size, 1, none⟩ = some (.slice a2 ps.length c2)) := ⟨Y08.out.c0, Y08.out.c1⟩; have Y18 : Hid (Bx w8 (w.heap.size + 1) (.slice none 0 0) (.slice none 0 0)) := Y13.out.keep (undrew hb8) Y13.out.lt; have r0 := Y18.out.c0; have r1 := Y18.out.c1; have rf := Y18.out.fz)))
      all_goals
       have hlt9 : w.heap.size + 1 < w3.heap.size := Y13.out.lt
       have V2 : Hid (Bx ((w8.setCell ⟨w.heap.size + 1, 0, none⟩ (.slice y1 ss.length y2)).setCell ⟨w.heap.size + 1, 1, none⟩ (.slice y3 RW.length y4)) (w.heap.size + 1) (.slice y1 ss.length y2) (.slice y3 RW.length y4)) := (Y18.out.set0 _).set1 _
       have v0 := V2.out.c0
       have v1 := V2.out.c1
       have HB8 : Hid (Below w.heap.size w w8) := HB3.out.trans ((undrew hb8).mono HB3.out.size)
       have hd8' : DOwn w8 w3.heap.size y1 y2 y3 y4 ss RW := hd8
       go_wp2
       refine bodyPost_ret (v := .tuple #[.agg #[.slice y1 ss.length y2, .slice y3 RW.length y4], .bool true]) (by simp [results, Tryz.results37, go_sem, v0, v1]) rfl ⟨y1, y2, y3, y4, by rw [HN.out], ⟨?_, ?_⟩, hk8, ?_⟩
       ·exact ((hd8'.s.set (by show w.heap.size + 1 < _; omega) _).set (by show w.heap.size + 1 < _; omega) _).mono (by omega)
       ·exact ((hd8'.p.set (by show w.heap.size + 1 < _; omega) _).set (by show w.heap.size + 1 < _; omega) _).mono (by omega)
       ·exact (HB8.out.setCell (by show _ ≤ w.heap.size + 1; omega) _).setCell (by show _ ≤ w.heap.size + 1; omega) _
     ·have HN : Hid (recB ss ps a t = false) := by show _ = _; unfold recB; rw [show decide ((recL t).length + oE (raO ss ps a) ≤ 3008) = false by rw [recL_len, ← hVs, ← hE]; simpa using hroom]; simp
      have HW : Hid (recW ss ps a t = ps) := by show _ = _; exact if_neg (by simp [HN.out])
      have hr' : (3008 : Int) - (E : Int) < (V.size : Int) + (t.size : Int) := by omega
      have hsum : ¬ 9223372036854775807 < V.size + t.size := by omega
      clear hsz hV hVs hE hcn hoB
      clear hq hin hA hok hps h97 hs0 hp0 hd HD HO
      generalize recB ss ps a t = RB at *
      generalize recW ss ps a t = RW at *
      go_enter Tryz.func37, Tryz.ntmps37
      go_wp2_with fail
      refine (HRA.out _ HD0.out).mono ?_
      rintro e w1 ⟨v, rfl, _, hb1⟩
      have Y01 : Hid (Bx w1 w.heap.size (.slice a1 ss.length c1) (.slice a2 ps.length c2)) := X0.out.keep hb1 X0.out.lt
      have Y11 : Hid (Bx w1 (w.heap.size + 1) (.slice none 0 0) (.slice none 0 0)) := X1.out.keep hb1 X1.out.lt
      have HD1 : Hid (DOwn w1 B0 a1 c1 a2 c2 ss ps) := HD0.out.below hb1
      have HB1 : Hid (Below w.heap.size w w1) := b0.out.trans (hb1.mono b0.out.size)
      have g01 := Y01.out.c0
      have g11 := Y01.out.c1
      go_wp2_with fail
      refine (HCN.out _ HD1.out).mono ?_
      rintro e w2 ⟨rfl, hb2⟩
      have Y02 : Hid (Bx w2 w.heap.size (.slice a1 ss.length c1) (.slice a2 ps.length c2)) := Y01.out.keep hb2 Y01.out.lt
      have Y12 : Hid (Bx w2 (w.heap.size + 1) (.slice none 0 0) (.slice none 0 0)) := Y11.out.keep hb2 Y11.out.lt
      have HD2 : Hid (DOwn w2 B0 a1 c1 a2 c2 ss ps) := HD1.out.below hb2
      have HB2 : Hid (Below w.heap.size w w2) := HB1.out.trans (hb2.mono HB1.out.size)
      have g02 := Y02.out.c0
      have g12 := Y02.out.c1
      go_wp2_with fail
      refine (HVAR.out _).mono ?_
      rintro e w3 ⟨rfl, hb3⟩
      have Y03 : Hid (Bx w3 w.heap.size (.slice a1 ss.length c1) (.slice a2 ps.length c2)) := Y02.out.keep hb3 Y02.out.lt
      have Y13 : Hid (Bx w3 (w.heap.size + 1) (.slice none 0 0) (.slice none 0 0)) := Y12.out.keep hb3 Y12.out.lt
      have HD3 : Hid (DOwn w3 B0 a1 c1 a2 c2 ss ps) := HD2.out.below hb3
      have HB3 : Hid (Below w.heap.size w w3) := HB2.out.trans (hb3.mono HB2.out.size)
      have g03 := Y03.out.c0
      have g13 := Y03.out.c1
      go_wp2_with fail
      refine (HCP.out _ HD3.out).mono ?_
      rintro e w9 ⟨y1, y2, y3, y4, rfl, hd9, hb9⟩
      have Y19 : Hid (Bx w9 (w.heap.size + 1) (.slice none 0 0) (.slice none 0 0)) := Y13.out.keep hb9 Y13.out.lt
      have r0 := Y19.out.c0
      have r1 := Y19.out.c1
      have rf := Y19.out.fz
      have V : Hid (Bx ((w9.setCell ⟨w.heap.size + 1, 0, none⟩ (.slice y1 ss.length y2)).setCell ⟨w.heap.size + 1, 1, none⟩ (.slice y3 ps.length y4)) (w.heap.size + 1) (.slice y1 ss.length y2) (.slice y3 ps.length y4)) := (Y19.out.set0 _).set1 _
      have v0 := V.out.c0
      have v1 := V.out.c1
      have hlt9 : w.heap.size + 1 < w3.heap.size := Y13.out.lt
      have HB9 : Hid (Below w.heap.size w w9) := HB3.out.trans (hb9.mono HB3.out.size)
      go_wp2
      refine bodyPost_ret (v := .tuple #[.agg #[.slice y1 ss.length y2, .slice y3 ps.length y4], .bool false]) (by simp [results, Tryz.results37, go_sem, v0, v1]) rfl ⟨y1, y2, y3, y4, ?_, ⟨?_, ?_⟩, by rw [HW.out]; exact HOKp.out, ?_⟩
      ·rw [HW.out, HN.out]
      ·exact ((hd9.s.set (by show w.heap.size + 1 < _; omega) _).set (by show w.heap.size + 1 < _; omega) _).mono (by omega)
      ·rw [HW.out]
       exact ((hd9.p.set (by show w.heap.size + 1 < _; omega) _).set (by show w.heap.size + 1 < _; omega) _).mono (by omega)
      ·exact (HB9.out.setCell (by show _ ≤ w.heap.size + 1; omega) _).setCell (by show _ ≤ w.heap.size + 1; omega) _
    ·have HN : Hid (recB ss ps a t = false) := by show _ = _; unfold recB; rw [show decide (cnt ss ps a < 255) = false by rw [hcn]; simp; omega]; simp
     have HW : Hid (recW ss ps a t = ps) := by show _ = _; exact if_neg (by simp [HN.out])
     have h255' : decide ((255 : Int) ≤ (cn : Int)) = true := by simp; omega
     clear hE hcn hoB
     clear hq hin hA hok hps h97 hs0 hp0 hd HD HO
     generalize recB ss ps a t = RB at *
     generalize recW ss ps a t = RW at *
     go_enter Tryz.func37, Tryz.ntmps37
     go_wp2_with fail
     refine (HRA.out _ HD0.out).mono ?_
     rintro e w1 ⟨v, rfl, _, hb1⟩
     have Y01 : Hid (Bx w1 w.heap.size (.slice a1 ss.length c1) (.slice a2 ps.length c2)) := X0.out.keep hb1 X0.out.lt
     have Y11 : Hid (Bx w1 (w.heap.size + 1) (.slice none 0 0) (.slice none 0 0)) := X1.out.keep hb1 X1.out.lt
     have HD1 : Hid (DOwn w1 B0 a1 c1 a2 c2 ss ps) := HD0.out.below hb1
     have HB1 : Hid (Below w.heap.size w w1) := b0.out.trans (hb1.mono b0.out.size)
     have g01 := Y01.out.c0
     have g11 := Y01.out.c1
     go_wp2_with fail
     refine (HCN.out _ HD1.out).mono ?_
     rintro e w2 ⟨rfl, hb2⟩
     have Y02 : Hid (Bx w2 w.heap.size (.slice a1 ss.length c1) (.slice a2 ps.length c2)) := Y01.out.keep hb2 Y01.out.lt
     have Y12 : Hid (Bx w2 (w.heap.size + 1) (.slice none 0 0) (.slice none 0 0)) := Y11.out.keep hb2 Y11.out.lt
     have HD2 : Hid (DOwn w2 B0 a1 c1 a2 c2 ss ps) := HD1.out.below hb2
     have HB2 : Hid (Below w.heap.size w w2) := HB1.out.trans (hb2.mono HB1.out.size)
     have g02 := Y02.out.c0
     have g12 := Y02.out.c1
     go_wp2_with fail
     refine (HCP.out _ HD2.out).mono ?_
     rintro e w9 ⟨y1, y2, y3, y4, rfl, hd9, hb9⟩
     have Y19 : Hid (Bx w9 (w.heap.size + 1) (.slice none 0 0) (.slice none 0 0)) := Y12.out.keep hb9 Y12.out.lt
     have r0 := Y19.out.c0
     have r1 := Y19.out.c1
     have rf := Y19.out.fz
     have V : Hid (Bx ((w9.setCell ⟨w.heap.size + 1, 0, none⟩ (.slice y1 ss.length y2)).setCell ⟨w.heap.size + 1, 1, none⟩ (.slice y3 ps.length y4)) (w.heap.size + 1) (.slice y1 ss.length y2) (.slice y3 ps.length y4)) := (Y19.out.set0 _).set1 _
     have v0 := V.out.c0
     have v1 := V.out.c1
     have hlt9 : w.heap.size + 1 < w2.heap.size := Y12.out.lt
     have HB9 : Hid (Below w.heap.size w w9) := HB2.out.trans (hb9.mono HB2.out.size)
     go_wp2
     refine bodyPost_ret (v := .tuple #[.agg #[.slice y1 ss.length y2, .slice y3 ps.length y4], .bool false]) (by simp [results, Tryz.results37, go_sem, v0, v1]) rfl ⟨y1, y2, y3, y4, ?_, ⟨?_, ?_⟩, by rw [HW.out]; exact HOKp.out, ?_⟩
     ·rw [HW.out, HN.out]
     ·exact ((hd9.s.set (by show w.heap.size + 1 < _; omega) _).set (by show w.heap.size + 1 < _; omega) _).mono (by omega)
     ·rw [HW.out]
      exact ((hd9.p.set (by show w.heap.size + 1 < _; omega) _).set (by show w.heap.size + 1 < _; omega) _).mono (by omega)
     ·exact (HB9.out.setCell (by show _ ≤ w.heap.size + 1; omega) _).setCell (by show _ ≤ w.heap.size + 1; omega) _
   ·have HN : Hid (recB ss ps a t = false) := by show _ = _; unfold recB; rw [show decide ((recL t).length + oE (raO ss ps a) ≤ 3008) = false by rw [recL_len]; simp; omega]; simp
    have HW : Hid (recW ss ps a t = ps) := by show _ = _; exact if_neg (by simp [HN.out])
    have hbig' : (3008 : Int) < (t.size : Int) := by omega
    clear hE hcn hoB
    clear hq hin hA hok hps h97 hs0 hp0 hd HD HO
    generalize recB ss ps a t = RB at *
    generalize recW ss ps a t = RW at *
    go_enter Tryz.func37, Tryz.ntmps37
    go_wp2_with fail
    refine (HRA.out _ HD0.out).mono ?_
    rintro e w1 ⟨v, rfl, _, hb1⟩
    have Y01 : Hid (Bx w1 w.heap.size (.slice a1 ss.length c1) (.slice a2 ps.length c2)) := X0.out.keep hb1 X0.out.lt
    have Y11 : Hid (Bx w1 (w.heap.size + 1) (.slice none 0 0) (.slice none 0 0)) := X1.out.keep hb1 X1.out.lt
    have HD1 : Hid (DOwn w1 B0 a1 c1 a2 c2 ss ps) := HD0.out.below hb1
    have HB1 : Hid (Below w.heap.size w w1) := b0.out.trans (hb1.mono b0.out.size)
    have g01 := Y01.out.c0
    have g11 := Y01.out.c1
    go_wp2_with fail
    refine (HCP.out _ HD1.out).mono ?_
    rintro e w9 ⟨y1, y2, y3, y4, rfl, hd9, hb9⟩
    have Y19 : Hid (Bx w9 (w.heap.size + 1) (.slice none 0 0) (.slice none 0 0)) := Y11.out.keep hb9 Y11.out.lt
    have r0 := Y19.out.c0
    have r1 := Y19.out.c1
    have rf := Y19.out.fz
    have V : Hid (Bx ((w9.setCell ⟨w.heap.size + 1, 0, none⟩ (.slice y1 ss.length y2)).setCell ⟨w.heap.size + 1, 1, none⟩ (.slice y3 ps.length y4)) (w.heap.size + 1) (.slice y1 ss.length y2) (.slice y3 ps.length y4)) := (Y19.out.set0 _).set1 _
    have v0 := V.out.c0
    have v1 := V.out.c1
    have hlt9 : w.heap.size + 1 < w1.heap.size := Y11.out.lt
    have HB9 : Hid (Below w.heap.size w w9) := HB1.out.trans (hb9.mono HB1.out.size)
    go_wp2
    refine bodyPost_ret (v := .tuple #[.agg #[.slice y1 ss.length y2, .slice y3 ps.length y4], .bool false]) (by simp [results, Tryz.results37, go_sem, v0, v1]) rfl ⟨y1, y2, y3, y4, ?_, ⟨?_, ?_⟩, by rw [HW.out]; exact HOKp.out, ?_⟩
    ·rw [HW.out, HN.out]
    ·exact ((hd9.s.set (by show w.heap.size + 1 < _; omega) _).set (by show w.heap.size + 1 < _; omega) _).mono (by omega)
    ·rw [HW.out]
     exact ((hd9.p.set (by show w.heap.size + 1 < _; omega) _).set (by show w.heap.size + 1 < _; omega) _).mono (by omega)
    ·exact (HB9.out.setCell (by show _ ≤ w.heap.size + 1; omega) _).setCell (by show _ ≤ w.heap.size + 1; omega) _
  ·obtain rfl := ba_nil h0
   have HN : Hid (recB ss ps a ⟨#[]⟩ = false) := by show _ = _; simp [recB, hoB]; intro h; exact absurd h (by decide)
   have HW : Hid (recW ss ps a ⟨#[]⟩ = ps) := by show _ = _; exact if_neg (by simp [HN.out])
   clear hE hcn hoB
   clear hq hin hA hok hps h97 hs0 hp0 hd HD HO
   generalize recB ss ps a ⟨#[]⟩ = RB at *
   generalize recW ss ps a ⟨#[]⟩ = RW at *
   go_enter Tryz.func37, Tryz.ntmps37
   go_wp2_with fail
   refine (HRA.out _ HD0.out).mono ?_
   rintro e w1 ⟨v, rfl, _, hb1⟩
   have Y01 : Hid (Bx w1 w.heap.size (.slice a1 ss.length c1) (.slice a2 ps.length c2)) := X0.out.keep hb1 X0.out.lt
   have Y11 : Hid (Bx w1 (w.heap.size + 1) (.slice none 0 0) (.slice none 0 0)) := X1.out.keep hb1 X1.out.lt
   have HD1 : Hid (DOwn w1 B0 a1 c1 a2 c2 ss ps) := HD0.out.below hb1
   have HB1 : Hid (Below w.heap.size w w1) := b0.out.trans (hb1.mono b0.out.size)
   have g01 := Y01.out.c0
   have g11 := Y01.out.c1
   go_wp2_with fail
   refine (HCP.out _ HD1.out).mono ?_
   rintro e w9 ⟨y1, y2, y3, y4, rfl, hd9, hb9⟩
   have Y19 : Hid (Bx w9 (w.heap.size + 1) (.slice none 0 0) (.slice none 0 0)) := Y11.out.keep hb9 Y11.out.lt
   have r0 := Y19.out.c0
   have r1 := Y19.out.c1
   have rf := Y19.out.fz
   have V : Hid (Bx ((w9.setCell ⟨w.heap.size + 1, 0, none⟩ (.slice y1 ss.length y2)).setCell ⟨w.heap.size + 1, 1, none⟩ (.slice y3 ps.length y4)) (w.heap.size + 1) (.slice y1 ss.length y2) (.slice y3 ps.length y4)) := (Y19.out.set0 _).set1 _
   have v0 := V.out.c0
   have v1 := V.out.c1
   have hlt9 : w.heap.size + 1 < w1.heap.size := Y11.out.lt
   have HB9 : Hid (Below w.heap.size w w9) := HB1.out.trans (hb9.mono HB1.out.size)
   go_wp2
   refine bodyPost_ret (v := .tuple #[.agg #[.slice y1 ss.length y2, .slice y3 ps.length y4], .bool false]) (by simp [results, Tryz.results37, go_sem, v0, v1]) rfl ⟨y1, y2, y3, y4, ?_, ⟨?_, ?_⟩, by rw [HW.out]; exact HOKp.out, ?_⟩
   ·rw [HW.out, HN.out]
   ·exact ((hd9.s.set (by show w.heap.size + 1 < _; omega) _).set (by show w.heap.size + 1 < _; omega) _).mono (by omega)
   ·rw [HW.out]
    exact ((hd9.p.set (by show w.heap.size + 1 < _; omega) _).set (by show w.heap.size + 1 < _; omega) _).mono (by omega)
   ·exact (HB9.out.setCell (by show _ ≤ w.heap.size + 1; omega) _).setCell (by show _ ≤ w.heap.size + 1; omega) _
end Go.Proofs.YtekjpoenbcnhdaaGreat

namespace Go.Proofs.YtekjpoenbcnhdaaGreat
open Go.RowKit
open DM

theorem wbGo_idx (ss : List ByteArray) (k0 : Nat) : ∀ (f : Nat) (cur : List Wr) (q : Nat) (rest : List UInt8), (∀ p ∈ cur, (k0 : Int) ≤ p.1) → ∀ p ∈ wbGo ss k0 f cur q rest, (k0 : Int) ≤ p.1
 | 0, cur, _, _, h => h
 | f + 1, cur, q, rest, h => by
  simp only [wbGo]
  split
  ·exact h
  ·refine wbGo_idx ss k0 f _ _ _ (fun p hp => ?_)
   rcases List.mem_append.1 hp with hp | hp
   ·exact h p hp
   ·simp only [List.mem_singleton] at hp
    subst hp
    show (k0 : Int) ≤ ((k0 + q / 64 : Nat) : Int)
    omega
theorem wb_idx (ss : List ByteArray) (k0 q : Nat) (l : List UInt8) : ∀ p ∈ wb ss k0 q l, (k0 : Int) ≤ p.1 := wbGo_idx ss k0 _ [] _ _ (fun p hp => by cases hp)
theorem flush_get : ∀ (ss : List ByteArray) (ps : List Wr) (j : Nat), (∀ p ∈ ps, p.1.toNat ≠ j) → (flush ss ps)[j]? = ss[j]?
 | _, [], _, _ => rfl
 | ss, p :: ps, j, h => by
  rw [flush, flush_get _ ps j (fun r hr => h r (List.mem_cons_of_mem _ hr)), List.getElem?_set_ne (h p (List.mem_cons_self ..))]
theorem okB_flush {ss : List ByteArray} {ps : List Wr} (h : okB ss ps = true) : okB (flS ss ps) (flP ss ps) = true := by
 have hO := okB_iff.1 h
 rw [flS_yes h, flP_yes h, okB_iff]
 refine ⟨by rw [flush_len]; exact hO.1, by rw [flush_len]; exact hO.2.1, Nat.zero_le _, flush_64 ss ps hO.2.2.2.1 (fun p hp => (hO.2.2.2.2 p hp).2.2), fun p hp => by cases hp⟩
theorem flS_length {ss : List ByteArray} {ps : List Wr} (h : okB ss ps = true) : (flS ss ps).length = ss.length := by rw [flS_yes h, flush_len]
theorem rdR_nil (ss : List ByteArray) (j : Nat) (hj : j < ss.length) : rdR ss [] (j : Int) = ss.getD j ByteArray.empty := by
 rw [show rdR ss [] (j : Int) = rd ss [] (j : Int) from if_pos (hasB_iff.2 ⟨by omega, by omega⟩)]
 rfl
theorem cnt_keep {ss : List ByteArray} {a : Int} {q : Nat} {l : List UInt8} (hA : isA a = true) (h97 : ss.length = 97) (h : okB ss (wb ss (af a + 1).toNat q l) = true) : cnt (flS ss (wb ss (af a + 1).toNat q l)) [] a = cnt ss [] a := by
 have hin := af_in hA
 have hin2 := af1_in hA
 obtain ⟨k1, hk1⟩ : ∃ k1, k1 = (af a + 1).toNat := ⟨_, rfl⟩
 rw [← hk1] at h ⊢
 have hk2 : k1 = (af a).toNat + 1 := by omega
 clear hk1 hin2
 unfold cnt
 rw [if_pos hA, if_pos hA, ← hin.1, rdR_nil _ _ (by rw [flS_length h]; omega), rdR_nil _ _ (by omega), flS_yes h, List.getD_eq_getElem?_getD, List.getD_eq_getElem?_getD, flush_get]
 intro p hp
 have := wb_idx ss k1 _ _ p hp
 omega

def putS (ss : List ByteArray) (ps : List Wr) (a : Int) (t : ByteArray) : List ByteArray := flS (flS ss (recW ss ps a t)) (wb (flS ss (recW ss ps a t)) (af a).toNat 0 [UInt8.ofNat ((cnt ss ps a).toNat + 1)])
def prB (ss : List ByteArray) (ps : List Wr) (a : Int) (t : ByteArray) : Bool := logB ss ps && recB ss ps a t
def prS (ss : List ByteArray) (ps : List Wr) (a : Int) (t : ByteArray) : List ByteArray := if prB ss ps a t = true then putS ss ps a t else ss
theorem prS_yes {ss : List ByteArray} {ps : List Wr} {a : Int} {t : ByteArray} (h1 : logB ss ps = true) (h2 : recB ss ps a t = true) : prB ss ps a t = true ∧ prS ss ps a t = putS ss ps a t := by
 have : prB ss ps a t = true := by simp [prB, h1, h2]
 exact ⟨this, if_pos this⟩
theorem prS_no1 {ss : List ByteArray} {ps : List Wr} {a : Int} {t : ByteArray} (h1 : logB ss ps = false) : prB ss ps a t = false ∧ prS ss ps a t = ss := by
 have : prB ss ps a t = false := by simp [prB, h1]
 exact ⟨this, if_neg (by simp [this])⟩
theorem logB_parts {ss : List ByteArray} {ps : List Wr} (h : logB ss ps = true) : okB ss ps = true ∧ ss.length = 97 ∧ ps = [] := by
 simp only [logB, Bool.and_eq_true, decide_eq_true_eq] at h
 exact ⟨h.1, h.2.1, List.length_eq_zero_iff.1 h.2.2.1⟩
theorem recB_parts {ss : List ByteArray} {ps : List Wr} {a : Int} {t : ByteArray} (h : recB ss ps a t = true) : oB (raO ss ps a) = true ∧ 0 < t.size ∧ cnt ss ps a < 255 ∧ (recL t).length + oE (raO ss ps a) ≤ 3008 ∧ isA a = true := by
 simp only [recB, Bool.and_eq_true, decide_eq_true_eq] at h
 refine ⟨h.1, h.2.1, h.2.2.1, h.2.2.2, ?_⟩
 cases hA : isA a with
 | true => rfl
 | false =>
  have h1 := h.1
  rw [raO_na hA] at h1
  cases h1
end Go.Proofs.YtekjpoenbcnhdaaGreat

/- What FlushDisk returns, on both sides. -/
import Derived.Test.YtnfkecefkkdedaaF2
namespace Go.Proofs.Ytnfkecefkkdedaa
open Go.RowKit
open DM
attribute [local go_sem ↓] Go.wp_at_zero Go.wp_at_succ

theorem txs_bys (ss : List ByteArray) : txs (bys ss) = ss := by
  unfold txs bys
  rw [List.map_map]
  conv => rhs; rw [← List.map_id ss]
  apply List.map_congr_left
  intro s _
  rfl
theorem flush_64 : ∀ (ss : List ByteArray) (ps : List Wr), (∀ s ∈ ss, s.size = 64) → (∀ p ∈ ps, p.2.size = 64) → ∀ s ∈ flush ss ps, s.size = 64
  | _, [], h, _ => h
  | ss, p :: ps, h, hp => flush_64 (ss.set p.1.toNat p.2) ps (fun s hs => by
      rcases List.mem_or_eq_of_mem_set hs with h1 | h1
      · exact h s h1
      · rw [h1]; exact hp p (List.mem_cons_self ..)) (fun q hq => hp q (List.mem_cons_of_mem _ hq))
theorem wrt_flush : ∀ (ss : List ByteArray) (ps : List Wr), (∀ s ∈ ss, s.size = 64) → (∀ p ∈ ps, p.2.size = 64) → wrt (bys ss) ps = bys (flush ss ps)
  | _, [], _, _ => rfl
  | ss, p :: ps, h, hp => by
    have hp0 := hp p (List.mem_cons_self ..)
    have e : putL ((bys ss).getD p.1.toNat []) p.2 = p.2.data.toList := by
      unfold putL
      rw [List.drop_eq_nil_of_le, List.append_nil]
      rw [hp0, List.getD_eq_getElem?_getD]
      cases hq : (bys ss)[p.1.toNat]? with
      | none => simp
      | some r =>
        have := bys_64 h r (List.mem_of_getElem? hq)
        simp [this]
    rw [wrt, flush, e]
    have e2 : (bys ss).set p.1.toNat p.2.data.toList = bys (ss.set p.1.toNat p.2) := by simp [bys, List.map_set]
    rw [e2]
    exact wrt_flush _ ps (fun s hs => by
      rcases List.mem_or_eq_of_mem_set hs with h1 | h1
      · exact h s h1
      · rw [h1]; exact hp0) (fun q hq => hp q (List.mem_cons_of_mem _ hq))

/-- FlushDisk's answer -/
def flS (ss : List ByteArray) (ps : List Wr) : List ByteArray := if okB ss ps = true then flush ss ps else ss
def flP (ss : List ByteArray) (ps : List Wr) : List Wr := if okB ss ps = true then [] else ps
theorem flS_yes {ss : List ByteArray} {ps : List Wr} (h : okB ss ps = true) : flS ss ps = flush ss ps := if_pos h
theorem flS_no {ss : List ByteArray} {ps : List Wr} (h : okB ss ps = false) : flS ss ps = ss := if_neg (by simp [h])
theorem flP_yes {ss : List ByteArray} {ps : List Wr} (h : okB ss ps = true) : flP ss ps = [] := if_pos h
theorem flP_no {ss : List ByteArray} {ps : List Wr} (h : okB ss ps = false) : flP ss ps = ps := if_neg (by simp [h])

set_option maxRecDepth 100000 in
set_option maxHeartbeats 4000000 in
theorem iflush19 (ss : List ByteArray) (ps : List Wr) (a1 a2 : Option Addr) (c1 c2 : Nat) (hn : ss.length ≤ 90000000) (hm : ps.length ≤ 80000000) (hls : ∀ s ∈ ss, s.size ≤ 1000000000) (hlp : ∀ p ∈ ps, p.2.size ≤ 1000000000) (w : World) (hs : SRow w a1 ss) (hp : PRow w a2 ps) :
    Calls Try.prog 14 #[.agg #[.slice a1 ss.length c1, .slice a2 ps.length c2]] w fun e w' => ∃ b1 d1 b2 d2, e = .returned (.agg #[.slice b1 (flS ss ps).length d1, .slice b2 (flP ss ps).length d2]) ∧ DOwn w' w.heap.size b1 d1 b2 d2 (flS ss ps) (flP ss ps) ∧ Below w.heap.size w w' := by
  have HS : Hid (SRow w a1 ss) := hs
  have HP : Hid (PRow w a2 ps) := hp
  have HLS : Hid (∀ s ∈ ss, s.size ≤ 1000000000) := hls
  have HLP : Hid (∀ p ∈ ps, p.2.size ≤ 1000000000) := hlp
  clear hs hp hls hlp
  have b0 : Hid (Below w.heap.size w ((w.alloc (.cells #[.slice a1 ss.length c1, .slice a2 ps.length c2] 27)).alloc (.cells #[.slice none 0 0, .slice none 0 0] 27))) := ((belowRefl w).alloc (Nat.le_refl _) _).alloc (by simp) _
  have X0 : Hid (Bx ((w.alloc (.cells #[.slice a1 ss.length c1, .slice a2 ps.length c2] 27)).alloc (.cells #[.slice none 0 0, .slice none 0 0] 27)) w.heap.size (.slice a1 ss.length c1) (.slice a2 ps.length c2)) := (Bx.new w _ _ _).alloc _
  have X1 : Hid (Bx ((w.alloc (.cells #[.slice a1 ss.length c1, .slice a2 ps.length c2] 27)).alloc (.cells #[.slice none 0 0, .slice none 0 0] 27)) (w.heap.size + 1) (.slice none 0 0) (.slice none 0 0)) := by
    have h := Bx.new (w.alloc (.cells #[.slice a1 ss.length c1, .slice a2 ps.length c2] 27)) (.slice none 0 0) (.slice none 0 0) 27
    show Bx _ _ _ _
    simpa using h
  go_enter Try.func14, Try.ntmps14
  go_wp2_with fail
  refine (iok22 ss ps a1 a2 c1 c2 (by omega) (by omega) _ (HS.out.below b0.out) (HP.out.below b0.out)).mono ?_
  rintro e w1 ⟨rfl, hb1⟩
  have Y0 : Hid (Bx w1 w.heap.size (.slice a1 ss.length c1) (.slice a2 ps.length c2)) := X0.out.keep hb1 X0.out.lt
  have Y1 : Hid (Bx w1 (w.heap.size + 1) (.slice none 0 0) (.slice none 0 0)) := X1.out.keep hb1 X1.out.lt
  have HB1 : Hid (Below w.heap.size w w1) := b0.out.trans (hb1.mono b0.out.size)
  have hz1 : w.heap.size + 1 < w1.heap.size := Y1.out.lt
  clear hb1 X0 X1 b0
  have g0 := Y0.out.c0
  have g1 := Y0.out.c1
  by_cases hok : okB ss ps = true
  · have HO : Hid (OkD ss ps) := okB_iff.1 hok
    have HE : Hid (txs (wrt (bys ss) ps) = flS ss ps) := by
      show _ = _
      rw [flS_yes hok, wrt_flush ss ps HO.out.2.2.2.1 (fun p hp => (HO.out.2.2.2.2 p hp).2.2), txs_bys]
    have HE2 : Hid (flP ss ps = []) := flP_yes hok
    have HBL : Hid ((bys ss).length = ss.length) := bys_len ss
    have hs100 : ss.length ≤ 1000 := by have := HO.out.2.1; omega
    have hp60 : ps.length ≤ 1000 := by have := HO.out.2.2.1; omega
    have HWO : Hid (WOk ps (bys ss).length) := fun p hp => by
      have := HO.out.2.2.2.2 p hp
      rw [bys_len]
      exact ⟨this.1, this.2.1, by omega⟩
    go_wp2
    go_region_held3 (fun w' => w'.cell? ⟨w.heap.size, 0, none⟩ = some (.slice a1 ss.length c1) ∧ w'.cell? ⟨w.heap.size, 1, none⟩ = some (.slice a2 ps.length c2)) (first | go_keep | exact t3.out | exact t2.out | (exact ⟨(V0.out.setO (by show w.heap.size + 1 ≠ w.heap.size; omega) _).setO (by show w.heap.size + 1 ≠ w.heap.size; omega) _ |>.c0, (V0.out.setO (by show w.heap.size + 1 ≠ w.heap.size; omega) _).setO (by show w.heap.size + 1 ≠ w.heap.size; omega) _ |>.c1⟩))
      ((first
        | (go_at_call 61; refine (secs56 ss (.slice a2 ps.length c2) a1 c1 hs100 HO.out.2.2.2.1 _ (HS.out.below HB1.out.drew)).mono ?_; rintro e w2 ⟨y1, y2, rfl, hd2, hb2⟩; have U0 : Hid (Bx w2 w.heap.size (.slice a1 ss.length c1) (.slice a2 ps.length c2)) := Y0.out.drew.keep hb2 Y0.out.lt; have t2 : Hid (w2.cell? ⟨w.heap.size, 0, none⟩ = some (.slice a1 ss.length c1) ∧ w2.cell? ⟨w.heap.size, 1, none⟩ = some (.slice a2 ps.length c2)) := ⟨U0.out.c0, U0.out.c1⟩)
        | (go_at_call 60; refine (wrt55 (bys ss) ps y1 a2 y2 c2 (by rw [HBL.out]; exact hs100) hp60 HWO.out w1.drew w2 hb2 hd2 (HP.out.below HB1.out.drew)).mono ?_; rintro e w3 ⟨z1, z2, rfl, hs3, hb3⟩; have V0 : Hid (Bx w3 w.heap.size (.slice a1 ss.length c1) (.slice a2 ps.length c2)) := Y0.out.drew.keep hb3 Y0.out.lt; have V1 : Hid (Bx w3 (w.heap.size + 1) (.slice none 0 0) (.slice none 0 0)) := Y1.out.drew.keep hb3 Y1.out.lt; have t3 : Hid (w3.cell? ⟨w.heap.size, 0, none⟩ = some (.slice a1 ss.length c1) ∧ w3.cell? ⟨w.heap.size, 1, none⟩ = some (.slice a2 ps.length c2)) := ⟨V0.out.c0, V0.out.c1⟩; have v0 := V1.out.c0; have v1 := V1.out.c1; have vf := V1.out.fz)))
    all_goals
      have HS3 : Hid (SOwn w3 w1.heap.size (.slice z1 (flS ss ps).length z2) (flS ss ps)) := by
        have h := hs3
        rw [HE.out] at h
        exact h
      have HLL : Hid ((bys ss).length = (flS ss ps).length) := by show _ = _; rw [← HE.out, txs_len, wrt_len]
      have HB3 : Hid (Below w.heap.size w w3) := HB1.out.drew.trans (hb3.mono HB1.out.size)
      clear hs3 hb3 hb2 hd2 t2 t3
      go_wp2
      refine bodyPost_ret (v := .agg #[.slice z1 (bys ss).length z2, .slice none 0 0]) (by simp [results, Try.results14, go_sem, v0, v1]) rfl ⟨z1, z2, none, 0, ?_, ⟨?_, ?_⟩, ?_⟩
      · rw [HE2.out, HLL.out]; rfl
      · exact ((HS3.out.set (by show w.heap.size + 1 < w1.heap.size; omega) _).set (by show w.heap.size + 1 < w1.heap.size; omega) _).mono (by omega)
      · rw [HE2.out]; exact POwn.nil _ _
      · exact (HB3.out.setCell (by show _ ≤ w.heap.size + 1; omega) _).setCell (by show _ ≤ w.heap.size + 1; omega) _
  · have hok' : okB ss ps = false := by simpa using hok
    have HE : Hid (flS ss ps = ss) := flS_no hok'
    have HE2 : Hid (flP ss ps = ps) := flP_no hok'
    clear hok
    go_wp2_with fail
    refine (copy53 ss ps a1 a2 c1 c2 hn (by omega) HLS.out HLP.out _ (HS.out.below HB1.out) (HP.out.below HB1.out)).mono ?_
    rintro e w6 ⟨p1, q1, p2, q2, rfl, hd6, hb6⟩
    have HD6 : Hid (DOwn w6 (w.heap.size + 1 + 1) p1 q1 p2 q2 ss ps) := hd6.mono hz1
    have HB6 : Hid (Below w.heap.size w w6) := HB1.out.trans (hb6.mono HB1.out.size)
    have R1 : Hid (Bx w6 (w.heap.size + 1) (.slice none 0 0) (.slice none 0 0)) := Y1.out.keep hb6 Y1.out.lt
    have t0 := R1.out.c0
    have t1 := R1.out.c1
    have tf := R1.out.fz
    clear hd6 hb6 g0 g1
    go_wp2
    refine bodyPost_ret (v := .agg #[.slice p1 ss.length q1, .slice p2 ps.length q2]) (by simp [results, Try.results14, go_sem, t0, t1]) rfl ⟨p1, q1, p2, q2, ?_, ⟨?_, ?_⟩, ?_⟩
    · rw [HE.out, HE2.out]
    · rw [HE.out]
      exact ((HD6.out.s.set (by show w.heap.size + 1 < _; omega) _).set (by show w.heap.size + 1 < _; omega) _).mono (by omega)
    · rw [HE2.out]
      exact ((HD6.out.p.set (by show w.heap.size + 1 < _; omega) _).set (by show w.heap.size + 1 < _; omega) _).mono (by omega)
    · exact (HB6.out.setCell (by show _ ≤ w.heap.size + 1; omega) _).setCell (by show _ ≤ w.heap.size + 1; omega) _
end Go.Proofs.Ytnfkecefkkdedaa

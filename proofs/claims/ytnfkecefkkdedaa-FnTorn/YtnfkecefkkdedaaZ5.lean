/- FnTorn: a torn sector has its first bytes new, the others old. -/
import Derived.Test.YtnfkecefkkdedaaY2
import Derived.Test.YtnfkecefkkdedaaH3
namespace Go.Proofs.Ytnfkecefkkdedaa
open Go.RowKit
open DM
attribute [local go_sem ↓] Go.wp_at_zero Go.wp_at_succ

theorem krow_one (w : World) (o : Obj) : KRow ((w.alloc o).alloc (.cells #[.int .i64 1] 3)) (some ⟨w.heap.size + 1, 0, none⟩) [1] := fun _ => ⟨w.heap.size + 1, 0, rfl, by simp, fun j hj => by
  obtain rfl : j = 0 := by simpa using hj
  simp⟩

set_option maxRecDepth 100000 in
set_option maxHeartbeats 8000000 in
theorem law5 (len cap : Nat) (a : Option Addr) (w : World) (hl0 : len ≤ 9223372036854775807) (hr : CodeRow w a len) :
    Calls Try.prog 5 #[.slice a len cap] w fun e w' => e = .returned (.bool true) ∧ Below w.heap.size w w' := by
  have HBG : Hid (∀ W : World, Calls Try.prog 10 #[.slice a len cap] W fun e w' => e = .returned (.bool (decide ((1048576 : Int) < (len : Int)))) ∧ w' = W) := fun W => big10 len cap a W
  have HR : Hid (CodeRow w a len) := hr
  clear hr
  by_cases hbig : len ≤ 1048576
  · rw [decide_eq_false (by omega)] at HBG
    have HFL : Hid (∀ (ss : List ByteArray) (cur : List Wr) (W : World) (B : Nat) (x1 : Option Addr) (x2 : Nat) (x3 : Option Addr) (x4 : Nat), DkI ss cur 24 → DOwn W B x1 x2 x3 x4 ss cur → Calls Try.prog 14 #[.agg #[.slice x1 ss.length x2, .slice x3 cur.length x4]] W fun e w' => ∃ (fs : List ByteArray) (P : List Wr) (f1 : Option Addr) (f2 : Nat) (f3 : Option Addr) (f4 : Nat), e = .returned (.agg #[.slice f1 fs.length f2, .slice f3 P.length f4]) ∧ DOwn w' W.heap.size f1 f2 f3 f4 fs P ∧ Hid (P = [] ∧ okB fs [] = true ∧ fs.length ≤ 6) ∧ Below W.heap.size W w') := fun ss cur W B x1 x2 x3 x4 hI hd => by
      have hO := okB_iff.1 hI.1
      refine (iflush19 ss cur x1 x3 x2 x4 (by have := hI.2.1; omega) (by have := hI.2.2; omega) (fun s hs => by have := hO.2.2.2.1 s hs; omega) (fun p hp => by have := (hO.2.2.2.2 p hp).2.2; omega) W hd.s.srow hd.p.prow).mono ?_
      rintro e w' ⟨f1, f2, f3, f4, h3, h4, h5⟩
      have hF := hI.flush
      rw [flP_yes hI.1] at hF
      exact ⟨_, _, f1, f2, f3, f4, h3, h4, ⟨flP_yes hI.1, hF.1, hF.2.1⟩, h5⟩
    go_enter Try.func5, Try.ntmps5
    go_wp2_with fail
    refine (HBG.out _).mono ?_
    rintro e w ⟨rfl, rfl⟩
    go_wp2_with fail
    refine (ddisk11 len cap a hbig _ HR.out).mono ?_
    rintro e w1 ⟨ss, cur, x1, x2, x3, x4, rfl, hd1, hI1, hb1⟩
    have HI1 : Hid (DkI ss cur 24) := hI1
    have HD1 : Hid (DOwn w1 w.heap.size x1 x2 x3 x4 ss cur) := hd1
    have HB1 : Hid (Below w.heap.size w w1) := hb1
    clear hd1 hI1 hb1
    go_wp2_with fail
    refine (HFL.out ss cur _ _ _ _ _ _ HI1.out HD1.out).mono ?_
    rintro e w2 ⟨fs, P, f1, f2, f3, f4, rfl, hd2, HF, hb2⟩
    have b2a : Below w1.heap.size w1 (w2.alloc (.cells #[.slice f1 fs.length f2, .slice f3 P.length f4] 27)) := hb2.alloc hb2.size _
    have HB2 : Hid (Below w.heap.size w (w2.alloc (.cells #[.slice f1 fs.length f2, .slice f3 P.length f4] 27))) := HB1.out.trans (b2a.mono HB1.out.size)
    have HX2 : Hid (Bx (w2.alloc (.cells #[.slice f1 fs.length f2, .slice f3 P.length f4] 27)) w2.heap.size (.slice f1 fs.length f2) (.slice f3 P.length f4)) := Bx.new w2 _ _ 27
    have HD2 : Hid (DOwn (w2.alloc (.cells #[.slice f1 fs.length f2, .slice f3 P.length f4] 27)) w.heap.size f1 f2 f3 f4 fs P) := (hd2.mono HB1.out.size).below ((belowRefl w2).alloc (Nat.le_refl _) _)
    clear hd2 hb2 b2a HB1 HD1 HI1
    go_wp2_with fail
    refine (places12 len cap a hbig _ (HR.out.below HB2.out)).mono ?_
    rintro e w3 ⟨p0, p1, G, cp, rfl, hp, hG, hg0, hg1, hb3⟩
    have HB3 : Hid (Below w.heap.size w w3) := HB2.out.trans (hb3.mono HB2.out.size)
    have HX3 : Hid (Bx w3 w2.heap.size (.slice f1 fs.length f2) (.slice f3 P.length f4)) := HX2.out.keep hb3 HX2.out.lt
    have HD3 : Hid (DOwn w3 w.heap.size f1 f2 f3 f4 fs P) := HD2.out.below hb3
    clear hb3 HX2 HB2 HD2
    generalize w2.heap.size = X at *
    have hfs : 0 < fs.length ∧ fs.length ≤ 6 := ⟨(okB_iff.1 HF.out.2.1).1, HF.out.2.2⟩
    obtain ⟨at', hat⟩ : ∃ at', at' = p0 % fs.length := ⟨_, rfl⟩
    obtain ⟨n, hn⟩ : ∃ n, n = p1 % 65 := ⟨_, rfl⟩
    have hal : at' < fs.length := by rw [hat]; exact Nat.mod_lt _ hfs.1
    have E1 : ((p0 : Int) % (fs.length : Int)) = (at' : Int) := by rw [hat]; simp
    have E2 : ((p1 : Int) % 65) = (n : Int) := by rw [hn]; simp
    have hnl : n < 65 := by rw [hn]; exact Nat.mod_lt _ (by omega)
    have g0 := HX3.out.c0
    have g1 := HX3.out.c1
    have hf0 : ¬ fs.length = 0 := by omega
    have hf1 : ¬ (fs.length : Int) = 0 := by omega
    have h12 : (0 : Int) < 12 := by omega
    go_wp2
    go_quiet (fail)
    go_wp2
    have hTs : (ByteArray.extract ⟨#[116, 104, 105, 114, 116, 121, 45, 116, 119, 111, 32, 98, 121, 116, 101, 115, 44, 32, 110, 111, 32, 109, 111, 114, 101, 32, 111, 114, 32, 108, 101, 115, 115, 116, 104, 105, 114, 116, 121, 45, 116, 119, 111, 32, 98, 121, 116, 101, 115, 44, 32, 110, 111, 32, 109, 111, 114, 101, 32, 111, 114, 32, 108, 101, 115, 115]⟩ 0 64).size = 64 := by simp [ByteArray.size]
    rw [E1, E2]
    generalize ByteArray.extract ⟨#[116, 104, 105, 114, 116, 121, 45, 116, 119, 111, 32, 98, 121, 116, 101, 115, 44, 32, 110, 111, 32, 109, 111, 114, 101, 32, 111, 114, 32, 108, 101, 115, 115, 116, 104, 105, 114, 116, 121, 45, 116, 119, 111, 32, 98, 121, 116, 101, 115, 44, 32, 110, 111, 32, 109, 111, 114, 101, 32, 111, 114, 32, 108, 101, 115, 115]⟩ 0 64 = T at *
    have h64 : ∀ s ∈ fs, s.size = 64 := (okB_iff.1 HF.out.2.1).2.2.2.1
    obtain ⟨old, hold⟩ : ∃ old, old = fs[at'] := ⟨_, rfl⟩
    have hos : old.size = 64 := by rw [hold]; exact h64 _ (List.getElem_mem hal)
    obtain ⟨Q, hQ⟩ : ∃ Q : List Wr, Q = [((at' : Int), T)] := ⟨_, rfl⟩
    have hPQ : P ++ [((at' : Int), T)] = Q := by rw [HF.out.1, hQ]; rfl
    have hokQ : okB fs Q = true := by
      rw [hQ]
      exact (okB_snoc fs [] _ _).2 ⟨HF.out.2.1, ⟨by omega, by omega⟩, hTs, by simp⟩
    have hQl : Q.length = 1 := by rw [hQ]; rfl
    obtain ⟨C, hC⟩ : ∃ C, C = crS fs Q [1] (n : Int) := ⟨_, rfl⟩
    have hCe : C = fs.set at' (T.extract 0 n ++ old.extract n 64) := by
      have h := cr_last (ss := fs) (ps := Q) (ks := [1]) (t := (n : Int)) (l := 0) (m := at') (nt := n) hokQ (by rw [hQl]; rfl) (by omega) (by subst hQ; rfl) (by omega) (by omega)
      rw [hC, ← h]
      subst hQ
      rw [show chs [((at' : Int), T)] [1] 0 = [] from rfl, show flush fs [] = fs from rfl, hold]
      simp [hal]
    have hCl : C.length = fs.length := by rw [hCe]; simp
    have hCx : ∀ h : at' < C.length, C[at'] = T.extract 0 n ++ old.extract n 64 := by subst hCe; intro h; simp
    obtain ⟨P2, hP2⟩ : ∃ P2, P2 = flP fs Q := ⟨_, rfl⟩
    have hokC : okB C P2 = true := by
      have hz : (T.extract 0 n ++ old.extract n 64).size = 64 := by simp [hTs, hos]; omega
      rw [hP2, flP_yes hokQ, okB_iff, hCe]
      refine ⟨by simp; omega, by simp; omega, by simp, fun s hs => ?_, fun p hp => by cases hp⟩
      rcases List.mem_or_eq_of_mem_set hs with h | rfl
      · exact h64 s h
      · exact hz
    have hP2l : P2.length ≤ 100 := by rw [hP2, flP_yes hokQ]; simp
    have hQ1 : Q.length ≤ 1 := by omega
    have hC6 : C.length ≤ 6 := by omega
    have hCa : at' < C.length := by omega
    clear hQl hCl
    have hls : ∀ s ∈ fs, s.size ≤ 1000000000 := fun s hs => by have := h64 s hs; omega
    have HWS : Hid (∀ W : World, DOwn W w.heap.size f1 f2 f3 f4 fs P → Calls Try.prog 13 #[.agg #[.slice f1 fs.length f2, .slice f3 P.length f4], .int .i64 (at' : Int), .string T] W fun e w' => ∃ y1 y2 y3 y4, e = .returned (.tuple #[.agg #[.slice y1 fs.length y2, .slice y3 Q.length y4], .bool true]) ∧ DOwn w' W.heap.size y1 y2 y3 y4 fs Q ∧ Below W.heap.size W w') := fun W hW => by
      have h := iws18 fs P (at' : Int) T f1 f3 f2 f4 (by omega) (by rw [HF.out.1]; simp) hls (by rw [HF.out.1]; intro p hp; cases hp) (by omega) W hW.s.srow hW.p.prow
      rw [wsP_yes (by rw [hPQ]; exact hokQ), hPQ, hokQ] at h
      exact h
    have HCR : Hid (∀ (W : World) (B H y2 y4 : Nat) (y1 y3 : Option Addr), DOwn W B y1 y2 y3 y4 fs Q → KRow W (some ⟨H, 0, none⟩) [1] → Calls Try.prog 18 #[.agg #[.slice y1 fs.length y2, .slice y3 Q.length y4], .slice (some ⟨H, 0, none⟩) 1 1, .int .i64 (n : Int)] W fun e w' => ∃ z1 z2 z3 z4, e = .returned (.agg #[.slice z1 C.length z2, .slice z3 P2.length z4]) ∧ DOwn w' W.heap.size z1 z2 z3 z4 C P2 ∧ Below W.heap.size W w') := fun W B H y2 y4 y1 y3 hW hk => by
      have h := icrash23 fs Q [1] (n : Int) y1 y3 (some ⟨H, 0, none⟩) y2 y4 1 (by omega) (by omega) (by simp) hls (by rw [hQ]; intro p hp; rw [List.mem_singleton.1 hp]; show T.size ≤ _; omega) W hW.s.srow hW.p.prow hk
      rw [← hC, ← hP2] at h
      exact h
    have HOKC : Hid (okB C P2 = true) := hokC
    have HCX : Hid (∀ W z1, SRow W z1 C → ∃ b off, z1 = some ⟨b, off, none⟩ ∧ b < W.heap.size ∧ W.cell? ⟨b, off + at', none⟩ = some (.string (T.extract 0 n ++ old.extract n 64))) := fun W z1 h => by
      obtain ⟨b, off, e, hb, hc⟩ := h (by omega)
      exact ⟨b, off, e, hb, by rw [hc at' hCa, hCx]⟩
    have HFX : Hid (∀ W, SRow W f1 fs → ∃ b off, f1 = some ⟨b, off, none⟩ ∧ b < W.heap.size ∧ W.cell? ⟨b, off + at', none⟩ = some (.string old)) := fun W h => by
      obtain ⟨b, off, e, hb, hc⟩ := h (by omega)
      exact ⟨b, off, e, hb, by rw [hc at' hal, hold]⟩
    clear hCe hCx hokC hokQ hPQ hQ hC hP2 h64 hold hls HFL E1 E2 hat hn hg0 hg1
    go_wp2_with fail
    refine (HWS.out _ (HD3.out.below (below_drewN (belowRefl _) nq))).mono ?_
    rintro e w4 ⟨y1, y2, y3, y4, rfl, hd4, hb4⟩
    have hb4' : Below w3.heap.size w3 w4 := (below_drewN (belowRefl w3) nq).trans hb4
    have b4a : Below w3.heap.size w3 ((w4.alloc (.cells #[.slice y1 fs.length y2, .slice y3 Q.length y4] 27)).alloc (.cells #[.int .i64 1] 3)) := (hb4'.alloc hb4'.size _).alloc (Nat.le_trans hb4'.size (by simp)) _
    have HB4 : Hid (Below w.heap.size w ((w4.alloc (.cells #[.slice y1 fs.length y2, .slice y3 Q.length y4] 27)).alloc (.cells #[.int .i64 1] 3))) := HB3.out.trans (b4a.mono HB3.out.size)
    have HX4 : Hid (Bx ((w4.alloc (.cells #[.slice y1 fs.length y2, .slice y3 Q.length y4] 27)).alloc (.cells #[.int .i64 1] 3)) X (.slice f1 fs.length f2) (.slice f3 P.length f4)) := HX3.out.keep b4a HX3.out.lt
    have HD4 : Hid (DOwn ((w4.alloc (.cells #[.slice y1 fs.length y2, .slice y3 Q.length y4] 27)).alloc (.cells #[.int .i64 1] 3)) w.heap.size f1 f2 f3 f4 fs P) := HD3.out.below b4a
    have HE4 : Hid (DOwn ((w4.alloc (.cells #[.slice y1 fs.length y2, .slice y3 Q.length y4] 27)).alloc (.cells #[.int .i64 1] 3)) w.heap.size y1 y2 y3 y4 fs Q) := (hd4.mono HB3.out.size).below (((belowRefl w4).alloc (Nat.le_refl _) _).alloc (by simp) _)
    have HW4 : Hid (Bx (w4.alloc (.cells #[.slice y1 fs.length y2, .slice y3 Q.length y4] 27)) w4.heap.size (.slice y1 fs.length y2) (.slice y3 Q.length y4)) := Bx.new w4 _ _ 27
    have HK4 : Hid (KRow ((w4.alloc (.cells #[.slice y1 fs.length y2, .slice y3 Q.length y4] 27)).alloc (.cells #[.int .i64 1] 3)) (some ⟨w4.heap.size + 1, 0, none⟩) [1]) := krow_one w4 _
    have k0 := HW4.out.c0
    have k1 := HW4.out.c1
    clear hd4 hb4 hb4' b4a HX3 HB3 HD3 g0 g1
    go_wp2_with fail
    refine (HCR.out _ _ _ _ _ _ _ HE4.out HK4.out).mono ?_
    rintro e w5 ⟨z1, z2, z3, z4, rfl, hd5, hb5⟩
    have HB5 : Hid (Below w.heap.size w (w5.alloc (.cells #[.slice z1 C.length z2, .slice z3 P2.length z4] 27))) := (HB4.out.trans (hb5.mono HB4.out.size)).alloc (Nat.le_trans HB4.out.size hb5.size) _
    have b5a := hb5.alloc hb5.size (.cells #[.slice z1 C.length z2, .slice z3 P2.length z4] 27)
    have HX5 : Hid (Bx (w5.alloc (.cells #[.slice z1 C.length z2, .slice z3 P2.length z4] 27)) X (.slice f1 fs.length f2) (.slice f3 P.length f4)) := HX4.out.keep b5a HX4.out.lt
    have HY5 : Hid (Bx (w5.alloc (.cells #[.slice z1 C.length z2, .slice z3 P2.length z4] 27)) w5.heap.size (.slice z1 C.length z2) (.slice z3 P2.length z4)) := Bx.new w5 _ _ 27
    have HD5 : Hid (DOwn (w5.alloc (.cells #[.slice z1 C.length z2, .slice z3 P2.length z4] 27)) w.heap.size f1 f2 f3 f4 fs P) := HD4.out.below b5a
    have HE5 : Hid (DOwn (w5.alloc (.cells #[.slice z1 C.length z2, .slice z3 P2.length z4] 27)) w.heap.size z1 z2 z3 z4 C P2) := (hd5.mono HB4.out.size).below ((belowRefl w5).alloc (Nat.le_refl _) _)
    clear hd5 hb5 b5a HX4 HB4 HD4 HE4 HW4 HK4 k0 k1
    go_wp2
    obtain ⟨bc, oc, rfl, hbc, hcc⟩ := HCX.out _ _ HE5.out.s.srow
    obtain ⟨bf, of', rfl, hbf, hcf⟩ := HFX.out _ HD5.out.s.srow
    generalize w5.alloc (.cells #[.slice (some ⟨bc, oc, none⟩) C.length z2, .slice z3 P2.length z4] 27) = W5 at *
    generalize w5.heap.size = Y at *
    have HCC : Hid (W5.cell? ⟨bc, oc + at', none⟩ = some (.string (T.extract 0 n ++ old.extract n 64))) := hcc
    have HCF : Hid (W5.cell? ⟨bf, of' + at', none⟩ = some (.string old)) := hcf
    have hY := HY5.out.lt
    have hX := HX5.out.lt
    have ha0 : (0 : Int) ≤ (at' : Int) := by omega
    have ha1 : (at' : Int) < (fs.length : Int) := by omega
    have ha2 : (at' : Int) < (C.length : Int) := by omega
    have hn0 : (0 : Int) ≤ (n : Int) := by omega
    have hn1 : (n : Int) ≤ 64 := by omega
    have hn2 : n ≤ 64 := by omega
    have hs2 : ¬ 9223372036854775807 < n + (64 - n) := by omega
    clear hcc hcf
    refine wp_region_held_drew (S := fun w' => w'.cell? ⟨Y, 0, none⟩ = some (.slice (some ⟨bc, oc, none⟩) C.length z2) ∧ w'.cell? ⟨Y, 1, none⟩ = some (.slice z3 P2.length z4) ∧ w'.cell? ⟨X, 0, none⟩ = some (.slice (some ⟨bf, of', none⟩) fs.length f2) ∧ w'.cell? ⟨bc, oc + at', none⟩ = some (.string (T.extract 0 n ++ old.extract n 64)) ∧ w'.cell? ⟨bf, of' + at', none⟩ = some (.string old)) (by kernel_rfl) ⟨HY5.out.c0, HY5.out.c1, HX5.out.c0, HCC.out, HCF.out⟩ (fun hHeld => ?_)
    (refine wpAnyH_take (i := 0) (v := ?_) rfl (by kernel_rfl) (by kernel_rfl) (by kernel_rfl) (fun _ _ _ h => h) (Or.inl ⟨by rfl, ?_⟩) (by assumption) ?_; rotate_left; (focus (intro w hSw; (try dsimp only at hSw); go_simp; (try with_reducible rfl); done)); simp only [Act.put, List.getElem_toArray, List.getElem_cons_zero, List.setIfInBounds_toArray, List.set_cons_zero, List.set_cons_succ])
    (refine wpAnyH_take (i := 1) (v := ?_) rfl (by kernel_rfl) (by kernel_rfl) (by kernel_rfl) (fun _ _ _ h => h) (Or.inl ⟨by rfl, ?_⟩) (by assumption) ?_; rotate_left; (focus (intro w hSw; (try dsimp only at hSw); go_simp; (try with_reducible rfl); done)); simp only [Act.put, List.getElem_toArray, List.getElem_cons_zero, List.getElem_cons_succ, List.setIfInBounds_toArray, List.set_cons_zero, List.set_cons_succ])
    (refine wpAnyH_take (i := 2) (v := ?_) rfl (by kernel_rfl) (by kernel_rfl) (by kernel_rfl) (fun _ _ _ h => h) (Or.inl ⟨by rfl, ?_⟩) (by assumption) ?_; rotate_left; (focus (intro w hSw; (try dsimp only at hSw); go_simp; (try with_reducible rfl); done)); simp only [Act.put, List.getElem_toArray, List.getElem_cons_zero, List.getElem_cons_succ, List.setIfInBounds_toArray, List.set_cons_zero, List.set_cons_succ])
    (refine wpAnyH_take (i := 3) (v := ?_) rfl (by kernel_rfl) (by kernel_rfl) (by kernel_rfl) (fun _ _ _ h => h) (Or.inl ⟨by rfl, ?_⟩) (by assumption) ?_; rotate_left; (focus (intro w hSw; (try dsimp only at hSw); go_simp; (try with_reducible rfl); done)); simp only [Act.put, List.getElem_toArray, List.getElem_cons_zero, List.getElem_cons_succ, List.setIfInBounds_toArray, List.set_cons_zero, List.set_cons_succ])
    (refine wpAnyH_take (i := 4) (v := ?_) rfl (by kernel_rfl) (by kernel_rfl) (by kernel_rfl) (fun _ _ _ h => h) (Or.inl ⟨by rfl, ?_⟩) (by assumption) ?_; rotate_left; (focus (intro w hSw; (try dsimp only at hSw); go_simp; (try with_reducible rfl); done)); simp only [Act.put, List.getElem_toArray, List.getElem_cons_zero, List.getElem_cons_succ, List.setIfInBounds_toArray, List.set_cons_zero, List.set_cons_succ])
    (refine wpAnyH_take (i := 5) (v := ?_) rfl (by kernel_rfl) (by kernel_rfl) (by kernel_rfl) (fun _ _ _ h => h) (Or.inl ⟨by rfl, ?_⟩) (by assumption) ?_; rotate_left; (focus (intro w hSw; (try dsimp only at hSw); go_simp; (try with_reducible rfl); done)); simp only [Act.put, List.getElem_toArray, List.getElem_cons_zero, List.getElem_cons_succ, List.setIfInBounds_toArray, List.set_cons_zero, List.set_cons_succ])
    (refine wpAnyH_take (i := 6) (v := ?_) rfl (by kernel_rfl) (by kernel_rfl) (by kernel_rfl) (fun _ _ _ h => h) (Or.inl ⟨by rfl, ?_⟩) (by assumption) ?_; rotate_left; (focus (intro w hSw; (try dsimp only at hSw); go_simp; (try with_reducible rfl); done)); simp only [Act.put, List.getElem_toArray, List.getElem_cons_zero, List.getElem_cons_succ, List.setIfInBounds_toArray, List.set_cons_zero, List.set_cons_succ])
    (refine wpAnyH_take (i := 7) (v := ?_) rfl (by kernel_rfl) (by kernel_rfl) (by kernel_rfl) (fun _ _ _ h => h) (Or.inl ⟨by rfl, ?_⟩) (by assumption) ?_; rotate_left; (focus (intro w hSw; (try dsimp only at hSw); go_simp; (try with_reducible rfl); done)); simp only [Act.put, List.getElem_toArray, List.getElem_cons_zero, List.getElem_cons_succ, List.setIfInBounds_toArray, List.set_cons_zero, List.set_cons_succ])
    (refine wpAnyH_take (i := 8) (v := ?_) rfl (by kernel_rfl) (by kernel_rfl) (by kernel_rfl) (fun _ _ _ h => h) (Or.inl ⟨by rfl, ?_⟩) (by assumption) ?_; rotate_left; (focus (intro w hSw; (try dsimp only at hSw); go_simp; (try with_reducible rfl); done)); simp only [Act.put, List.getElem_toArray, List.getElem_cons_zero, List.getElem_cons_succ, List.setIfInBounds_toArray, List.set_cons_zero, List.set_cons_succ])
    (refine wpAnyH_take (i := 9) (v := ?_) rfl (by kernel_rfl) (by kernel_rfl) (by kernel_rfl) (fun _ _ _ h => h) (Or.inl ⟨by rfl, ?_⟩) (by assumption) ?_; rotate_left; (focus (intro w hSw; (try dsimp only at hSw); go_simp; (try with_reducible rfl); done)); simp only [Act.put, List.getElem_toArray, List.getElem_cons_zero, List.getElem_cons_succ, List.setIfInBounds_toArray, List.set_cons_zero, List.set_cons_succ])
    (refine wpAnyH_take (i := 10) (v := ?_) rfl (by kernel_rfl) (by kernel_rfl) (by kernel_rfl) (fun _ _ _ h => h) (Or.inl ⟨by rfl, ?_⟩) (by assumption) ?_; rotate_left; (focus (intro w hSw; (try dsimp only at hSw); go_simp; (try with_reducible rfl); done)); simp only [Act.put, List.getElem_toArray, List.getElem_cons_zero, List.getElem_cons_succ, List.setIfInBounds_toArray, List.set_cons_zero, List.set_cons_succ])
    (refine wpAnyH_take (i := 11) (v := ?_) rfl (by kernel_rfl) (by kernel_rfl) (by kernel_rfl) (fun _ _ _ h => h) (Or.inl ⟨by rfl, ?_⟩) (by assumption) ?_; rotate_left; (focus (intro w hSw; (try dsimp only at hSw); go_simp; (try with_reducible rfl); done)); simp only [Act.put, List.getElem_toArray, List.getElem_cons_zero, List.getElem_cons_succ, List.setIfInBounds_toArray, List.set_cons_zero, List.set_cons_succ])
    (refine wpAnyH_take (i := 12) (v := ?_) rfl (by kernel_rfl) (by kernel_rfl) (by kernel_rfl) (fun _ _ _ h => h) (Or.inl ⟨by rfl, ?_⟩) (by assumption) ?_; rotate_left; (focus (intro w hSw; (try dsimp only at hSw); go_simp; (try with_reducible rfl); done)); simp only [Act.put, List.getElem_toArray, List.getElem_cons_zero, List.getElem_cons_succ, List.setIfInBounds_toArray, List.set_cons_zero, List.set_cons_succ])
    (refine wpAnyH_take (i := 13) (v := ?_) rfl (by kernel_rfl) (by kernel_rfl) (by kernel_rfl) (fun _ _ _ h => h) (Or.inl ⟨by rfl, ?_⟩) (by assumption) ?_; rotate_left; (focus (intro w hSw; (try dsimp only at hSw); go_simp; (try with_reducible rfl); done)); simp only [Act.put, List.getElem_toArray, List.getElem_cons_zero, List.getElem_cons_succ, List.setIfInBounds_toArray, List.set_cons_zero, List.set_cons_succ])
    (refine wpAnyH_take (i := 14) (v := ?_) rfl (by kernel_rfl) (by kernel_rfl) (by kernel_rfl) (fun _ _ _ h => h) (Or.inl ⟨by rfl, ?_⟩) (by assumption) ?_; rotate_left; (focus (intro w hSw; (try dsimp only at hSw); go_simp; (try with_reducible rfl); done)); simp only [Act.put, List.getElem_toArray, List.getElem_cons_zero, List.getElem_cons_succ, List.setIfInBounds_toArray, List.set_cons_zero, List.set_cons_succ])
    (refine wpAnyH_take (i := 15) (v := ?_) rfl (by kernel_rfl) (by kernel_rfl) (by kernel_rfl) (fun _ _ _ h => h) (Or.inl ⟨by rfl, ?_⟩) (by assumption) ?_; rotate_left; (focus (intro w hSw; (try dsimp only at hSw); go_simp; (try with_reducible rfl); done)); simp only [Act.put, List.getElem_toArray, List.getElem_cons_zero, List.getElem_cons_succ, List.setIfInBounds_toArray, List.set_cons_zero, List.set_cons_succ])
    (refine wpAnyH_take (i := 16) (v := ?_) rfl (by kernel_rfl) (by kernel_rfl) (by kernel_rfl) (fun _ _ _ h => h) (Or.inl ⟨by rfl, ?_⟩) (by assumption) ?_; rotate_left; (focus (intro w hSw; (try dsimp only at hSw); go_simp; (try with_reducible rfl); done)); simp only [Act.put, List.getElem_toArray, List.getElem_cons_zero, List.getElem_cons_succ, List.setIfInBounds_toArray, List.set_cons_zero, List.set_cons_succ])
    (refine wpAnyH_take (i := 17) (v := ?_) rfl (by kernel_rfl) (by kernel_rfl) (by kernel_rfl) (fun _ _ _ h => h) (Or.inl ⟨by rfl, ?_⟩) (by assumption) ?_; rotate_left; (focus (intro w hSw; (try dsimp only at hSw); go_simp; (try with_reducible rfl); done)); simp only [Act.put, List.getElem_toArray, List.getElem_cons_zero, List.getElem_cons_succ, List.setIfInBounds_toArray, List.set_cons_zero, List.set_cons_succ])
    (refine wpAnyH_take (i := 18) (v := ?_) rfl (by kernel_rfl) (by kernel_rfl) (by kernel_rfl) (fun _ _ _ h => h) (Or.inl ⟨by rfl, ?_⟩) (by assumption) ?_; rotate_left; (focus (intro w hSw; (try dsimp only at hSw); go_simp; (try with_reducible rfl); done)); simp only [Act.put, List.getElem_toArray, List.getElem_cons_zero, List.getElem_cons_succ, List.setIfInBounds_toArray, List.set_cons_zero, List.set_cons_succ])
    (refine wpAnyH_take (i := 19) (v := ?_) rfl (by kernel_rfl) (by kernel_rfl) (by kernel_rfl) (fun _ _ _ h => h) (Or.inl ⟨by rfl, ?_⟩) (by assumption) ?_; rotate_left; (focus (intro w hSw; (try dsimp only at hSw); go_simp; (try with_reducible rfl); done)); simp only [Act.put, List.getElem_toArray, List.getElem_cons_zero, List.getElem_cons_succ, List.setIfInBounds_toArray, List.set_cons_zero, List.set_cons_succ])
    (refine wpAnyH_take (i := 20) (v := ?_) rfl (by kernel_rfl) (by kernel_rfl) (by kernel_rfl) (fun _ _ _ h => h) (Or.inl ⟨by rfl, ?_⟩) (by assumption) ?_; rotate_left; (focus (intro w hSw; (try dsimp only at hSw); go_simp; (try with_reducible rfl); done)); simp only [Act.put, List.getElem_toArray, List.getElem_cons_zero, List.getElem_cons_succ, List.setIfInBounds_toArray, List.set_cons_zero, List.set_cons_succ])
    (refine wpAnyH_take (i := 21) (v := ?_) rfl (by kernel_rfl) (by kernel_rfl) (by kernel_rfl) (fun _ _ _ h => h) (Or.inl ⟨by rfl, ?_⟩) (by assumption) ?_; rotate_left; (focus (intro w hSw; (try dsimp only at hSw); go_simp; (try with_reducible rfl); done)); simp only [Act.put, List.getElem_toArray, List.getElem_cons_zero, List.getElem_cons_succ, List.setIfInBounds_toArray, List.set_cons_zero, List.set_cons_succ])
    refine wpAnyH_ready (rs := [22]) (by kernel_rfl) (by simp) ?_
    refine AllReadyH.cons rfl (fun K hK => ?_) AllReadyH.nil
    go_simp
    go_wp2_with fail
    refine (iok22 C P2 (some ⟨bc, oc, none⟩) z3 z2 z4 (by omega) (by omega) _ (HE5.out.s.srow.below (belowRefl _).drew) (HE5.out.p.prow.below (belowRefl _).drew)).mono ?_
    rintro e w6 ⟨rfl, hb6'⟩
    have hb6 : Below W5.heap.size W5 w6 := undrew hb6'
    have HB6 : Hid (Below w.heap.size w w6) := HB5.out.trans (hb6.mono HB5.out.size)
    have HY6 : Hid (Bx w6 Y (.slice (some ⟨bc, oc, none⟩) C.length z2) (.slice z3 P2.length z4)) := HY5.out.keep hb6 hY
    have HX6 : Hid (Bx w6 X (.slice (some ⟨bf, of', none⟩) fs.length f2) (.slice f3 P.length f4)) := HX5.out.keep hb6 hX
    have HC6 : Hid (w6.cell? ⟨bc, oc + at', none⟩ = some (.string (T.extract 0 n ++ old.extract n 64))) := (hb6.cell (p := ⟨bc, oc + at', none⟩) hbc).trans HCC.out
    have HF6 : Hid (w6.cell? ⟨bf, of' + at', none⟩ = some (.string old)) := (hb6.cell (p := ⟨bf, of' + at', none⟩) hbf).trans HCF.out
    clear hb6 hb6'
    rw [HOKC.out]
    go_wp2_with fail
    refine hK.out _ _ ⟨HY6.out.c0, HY6.out.c1, HX6.out.c0, HC6.out, HF6.out⟩ (fun hHeld6 => ?_)
    clear hK K
    (refine wpAnyH_take (i := 23) (v := ?_) rfl (by kernel_rfl) (by kernel_rfl) (by kernel_rfl) (fun _ _ _ h => h) (Or.inl ⟨by rfl, ?_⟩) (by assumption) ?_; rotate_left; (focus (intro w hSw; (try dsimp only at hSw); go_simp; (try with_reducible rfl); done)); simp only [Act.put, List.getElem_toArray, List.getElem_cons_zero, List.getElem_cons_succ, List.setIfInBounds_toArray, List.set_cons_zero, List.set_cons_succ])
    (refine wpAnyH_take (i := 24) (v := ?_) rfl (by kernel_rfl) (by kernel_rfl) (by kernel_rfl) (fun _ _ _ h => h) (Or.inl ⟨by rfl, ?_⟩) (by assumption) ?_; rotate_left; (focus (intro w hSw; (try dsimp only at hSw); go_simp; (try with_reducible rfl); done)); simp only [Act.put, List.getElem_toArray, List.getElem_cons_zero, List.getElem_cons_succ, List.setIfInBounds_toArray, List.set_cons_zero, List.set_cons_succ])
    refine wpAnyH_done (by kernel_rfl) ?_ _
    go_wp2
    go_ret
    exact ⟨rfl, HB6.out⟩
  · rw [decide_eq_true (by omega)] at HBG
    go_enter Try.func5, Try.ntmps5
    go_wp2_with fail
    refine (HBG.out _).mono ?_
    rintro e w ⟨rfl, rfl⟩
    go_wp2
    go_ret
    exact ⟨rfl, belowRefl w⟩
end Go.Proofs.Ytnfkecefkkdedaa

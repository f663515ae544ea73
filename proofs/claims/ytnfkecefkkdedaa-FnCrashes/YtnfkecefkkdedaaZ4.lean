/- FnCrashes: of what was not flushed just what was chosen is there. -/
import Derived.Test.YtnfkecefkkdedaaY5
import Derived.Test.YtnfkecefkkdedaaY6
import Derived.Test.YtnfkecefkkdedaaH4
namespace Go.Proofs.Ytnfkecefkkdedaa
open Go.RowKit
open DM
attribute [local go_sem ↓] Go.wp_at_zero Go.wp_at_succ

theorem cr_len {ss : List ByteArray} {ps : List Wr} {ks : List Int} {t : Int} {n : Nat} (h : ss.length ≤ n) : (crS ss ps ks t).length ≤ n := by
  unfold crS
  split
  · rw [txs_len, wrt_len]
    simpa [bys] using h
  · exact h

set_option maxRecDepth 100000 in
set_option maxHeartbeats 8000000 in
theorem law4 (len cap : Nat) (a : Option Addr) (w : World) (hl0 : len ≤ 9223372036854775807) (hr : CodeRow w a len) :
    Calls Try.prog 4 #[.slice a len cap] w fun e w' => e = .returned (.bool true) ∧ Below w.heap.size w w' := by
  have HBG : Hid (∀ W : World, Calls Try.prog 10 #[.slice a len cap] W fun e w' => e = .returned (.bool (decide ((1048576 : Int) < (len : Int)))) ∧ w' = W) := fun W => big10 len cap a W
  have HR : Hid (CodeRow w a len) := hr
  clear hr
  by_cases hbig : len ≤ 1048576
  · rw [decide_eq_false (by omega)] at HBG
    go_enter Try.func4, Try.ntmps4
    go_wp2_with fail
    refine (HBG.out _).mono ?_
    rintro e w ⟨rfl, rfl⟩
    go_wp2_with fail
    refine (ddisk11 len cap a hbig _ HR.out).mono ?_
    rintro e w1 ⟨ss, cur, x1, x2, x3, x4, rfl, hd1, hI1, hb1⟩
    have HB1 : Hid (Below w.heap.size w (w1.alloc (.cells #[.slice x1 ss.length x2, .slice x3 cur.length x4] 27))) := hb1.alloc hb1.size _
    have HA1 : Hid (Bx (w1.alloc (.cells #[.slice x1 ss.length x2, .slice x3 cur.length x4] 27)) w1.heap.size (.slice x1 ss.length x2) (.slice x3 cur.length x4)) := Bx.new w1 _ _ 27
    have HD1 : Hid (DOwn (w1.alloc (.cells #[.slice x1 ss.length x2, .slice x3 cur.length x4] 27)) w.heap.size x1 x2 x3 x4 ss cur) := hd1.below ((belowRefl w1).alloc (Nat.le_refl _) _)
    have HI1 : Hid (DkI ss cur 24) := hI1
    have hss : ss.length ≤ 6 := hI1.2.1
    have hcc : cur.length ≤ 24 := hI1.2.2
    have HOK : Hid (okB ss cur = true) := hI1.1
    obtain ⟨F, hF⟩ : ∃ F, F = flS ss cur := ⟨_, rfl⟩
    obtain ⟨P, hP⟩ : ∃ P, P = flP ss cur := ⟨_, rfl⟩
    have hP0 : P = [] := by rw [hP]; exact flP_yes hI1.1
    have hFl : F.length ≤ 6 := by rw [hF, flS_length hI1.1]; omega
    have hPl : P.length ≤ 61 := by rw [hP0]; simp
    have HOF : Hid (okB F P = true) := by show _ = _; rw [hF, hP]; exact okB_flush hI1.1
    have HPD1 : Hid (decide ((P.length : Int) = 0) = true) := by show _ = _; rw [hP0]; rfl
    have HPD5 : Hid (((P.length : Int) == 0) = true) := by show _ = _; rw [hP0]; rfl
    have HPD6 : Hid ((P.length == 0) = true) := by show _ = _; rw [hP0]; rfl
    have HPD7 : Hid ((P == []) = true) := by show _ = _; rw [hP0]; rfl
    have HPD2 : Hid (decide (P.length = 0) = true) := by show _ = _; rw [hP0]; rfl
    have HPD3 : Hid (decide (P = []) = true) := by show _ = _; rw [hP0]; rfl
    have HPD4 : Hid (P.isEmpty = true) := by show _ = _; rw [hP0]; rfl
    have HO := okB_iff.1 hI1.1
    have HLS : Hid (∀ s ∈ ss, s.size ≤ 1000000000) := fun s hs => by have := HO.2.2.2.1 s hs; omega
    have HLP : Hid (∀ p ∈ cur, p.2.size ≤ 1000000000) := fun p hp => by have := (HO.2.2.2.2 p hp).2.2; omega
    have CN : Hid (∀ (W : World) (H : Nat), DOwn W w.heap.size x1 x2 x3 x4 ss cur → Calls Try.prog 18 #[.agg #[.slice x1 ss.length x2, .slice x3 cur.length x4], .slice (some ⟨H, 0, none⟩) 0 0, .int .i64 5] W fun e w' => ∃ z1 z2 z3 z4, e = .returned (.agg #[.slice z1 ss.length z2, .slice z3 P.length z4]) ∧ DOwn w' W.heap.size z1 z2 z3 z4 ss P ∧ Below W.heap.size W w') := fun W H hW => by
      have h := icrash23 ss cur [] 5 x1 x3 (some ⟨H, 0, none⟩) x2 x4 0 (by omega) (by omega) (by simp) HLS.out HLP.out W hW.s.srow hW.p.prow (fun h => by simp at h)
      rw [cr_none HOK.out (lst_nil cur.length), ← hP] at h
      exact h
    have CW : Hid (∀ (W : World) (H cp : Nat) (ks : List Int), ks = List.replicate cur.length 1 → DOwn W w.heap.size x1 x2 x3 x4 ss cur → KRow W (some ⟨H, 0, none⟩) ks → Calls Try.prog 18 #[.agg #[.slice x1 ss.length x2, .slice x3 cur.length x4], .slice (some ⟨H, 0, none⟩) cur.length cp, .int .i64 64] W fun e w' => ∃ z1 z2 z3 z4, e = .returned (.agg #[.slice z1 F.length z2, .slice z3 P.length z4]) ∧ DOwn w' W.heap.size z1 z2 z3 z4 F P ∧ Below W.heap.size W w') := fun W H cp ks hks hW hk => by
      have hkl : ks.length = cur.length := by rw [hks]; simp
      have h := icrash23 ss cur ks 64 x1 x3 (some ⟨H, 0, none⟩) x2 x4 cp (by omega) (by omega) (by omega) HLS.out HLP.out W hW.s.srow hW.p.prow hk
      rw [hkl, hks, cr_all HOK.out, ← hP, ← flS_yes HOK.out, ← hF] at h
      exact h
    have CF : Hid (∀ W : World, DOwn W w.heap.size x1 x2 x3 x4 ss cur → Calls Try.prog 14 #[.agg #[.slice x1 ss.length x2, .slice x3 cur.length x4]] W fun e w' => ∃ f1 f2 f3 f4, e = .returned (.agg #[.slice f1 F.length f2, .slice f3 P.length f4]) ∧ DOwn w' W.heap.size f1 f2 f3 f4 F P ∧ Below W.heap.size W w') := fun W h => by
      rw [hF, hP]
      exact iflush19 ss cur x1 x3 x2 x4 (by omega) (by omega) HLS.out HLP.out W h.s.srow h.p.prow
    clear hd1 hI1 hb1 hF hP hP0 HO
    have g1 := HA1.out.c1
    have HO0 : Hid (((w1.alloc (.cells #[.slice x1 ss.length x2, .slice x3 cur.length x4] 27)).alloc (.cells #[] 3)).ownsRow (w1.alloc (.cells #[.slice x1 ss.length x2, .slice x3 cur.length x4] 27)).heap.size 3 1 (.slice (some ⟨w1.heap.size + 1, 0, none⟩) 0 0) 0 (icz (List.replicate 0 1))) := by
      have h := World.ownsRow_lit (base := (w1.alloc (.cells #[.slice x1 ss.length x2, .slice x3 cur.length x4] 27)).heap.size) (e := 3) (size := 1) (w1.alloc (.cells #[.slice x1 ss.length x2, .slice x3 cur.length x4] 27)) #[] 0 (Nat.le_refl _) (by unfold maxLen; omega) rfl
      show World.ownsRow _ _ _ _ _ _ _
      simpa [icz] using h
    go_wp2
    go_loopw [4, 5] (fun tv ti wr => ∃ (k : Nat) (G cp : Nat), k ≤ cur.length ∧ ti = .int .i64 k ∧ tv = .slice (some ⟨G, 0, none⟩) k cp ∧ Hid (wr.ownsRow (w1.alloc (.cells #[.slice x1 ss.length x2, .slice x3 cur.length x4] 27)).heap.size 3 1 (.slice (some ⟨G, 0, none⟩) k cp) k (icz (List.replicate k 1))) ∧ Hid (Below (w1.alloc (.cells #[.slice x1 ss.length x2, .slice x3 cur.length x4] 27)).heap.size (w1.alloc (.cells #[.slice x1 ss.length x2, .slice x3 cur.length x4] 27)) wr)) (fun _ ti _ => cur.length - (intOf ti).toNat)
    case atStart => exact ⟨0, w1.heap.size + 1, 0, Nat.zero_le _, rfl, rfl, HO0, (belowRefl _).alloc (Nat.le_refl _) _⟩
    case round =>
      clear g1 HO0
      obtain ⟨k, G, cp, hk, rfl, rfl, HOr, HBr⟩ := hrel
      have HAr : Hid (Bx wr w1.heap.size (.slice x1 ss.length x2) (.slice x3 cur.length x4)) := HA1.out.keep HBr.out HA1.out.lt
      have g0 := HAr.out.c0
      have g1 := HAr.out.c1
      by_cases hlt : k < cur.length
      · have hlt' : (k : Int) < (cur.length : Int) := by omega
        go_wp2_with (at_builtin; refine wpAppH 29 3 1 8 (.int .i64 0) Try.underlying29 Try.info3 rfl (by decide) (by omega) (by rfl) _ _ (by rfl) (base := (w1.alloc (.cells #[.slice x1 ss.length x2, .slice x3 cur.length x4] 27)).heap.size) (n := k) [.int .i64 1] (by rfl) (World.ownsRow.alloc HOr.out _) (by rfl) (by exact heap_alloc_new wr _) rfl (by simp [Value.oneCell']) (by omega) (Nat.le_trans HBr.out.size (by simp)) ?_)
        intro g' cp' w4 hown4 hb4 hg4
        have zWA : (w1.alloc (.cells #[.slice x1 ss.length x2, .slice x3 cur.length x4] 27)).heap.size = w1.heap.size + 1 := by simp
        rw [← zWA] at hown4 hb4
        clear zWA
        have HO4 : Hid (w4.ownsRow (w1.alloc (.cells #[.slice x1 ss.length x2, .slice x3 cur.length x4] 27)).heap.size 3 1 (.slice (some ⟨g', 0, none⟩) (k + 1) cp') (k + 1) (icz (List.replicate (k + 1) 1))) := by
          rw [List.replicate_succ', icz_app]
          exact hown4
        have HB4 : Hid (Below (w1.alloc (.cells #[.slice x1 ss.length x2, .slice x3 cur.length x4] 27)).heap.size (w1.alloc (.cells #[.slice x1 ss.length x2, .slice x3 cur.length x4] 27)) w4) := (HBr.out.alloc HBr.out.size _).trans hb4
        clear hown4 hb4 hg4 g0 g1
        go_wp2
        go_roundw
        case rel => exact ⟨k + 1, g', cp', by omega, by go_num, by go_num, HO4, HB4⟩
        case measure => simp [intOf]; omega
      · have hlt' : ¬ (k : Int) < (cur.length : Int) := by omega
        obtain rfl : k = cur.length := by omega
        have HB2 : Hid (Below w.heap.size w wr) := HB1.out.trans (HBr.out.mono HB1.out.size)
        have HD2 : Hid (DOwn wr w.heap.size x1 x2 x3 x4 ss cur) := HD1.out.below HBr.out
        have HK2 : Hid (KRow wr (some ⟨G, 0, none⟩) (List.replicate cur.length 1)) := own_krow (by
          rw [List.length_replicate]
          exact HOr.out)
        have HG2 : Hid (G < wr.heap.size) := (World.ownsRow.lt HOr.out G rfl).2
        clear HB1 HD1 HA1 HOr HBr
        generalize w1.heap.size = A at *
        have ba2 : Below wr.heap.size wr (wr.alloc (.cells #[] 3)) := (belowRefl wr).alloc (Nat.le_refl _) _
        have HD2a : Hid (DOwn (wr.alloc (.cells #[] 3)) w.heap.size x1 x2 x3 x4 ss cur) := HD2.out.below ba2
        go_wp2_with fail
        refine (CN.out _ _ HD2a.out).mono ?_
        rintro e w3 ⟨y1, y2, y3, y4, rfl, hd3, hb3'⟩
        have hb3 : Below wr.heap.size wr w3 := ba2.trans (hb3'.mono ba2.size)
        have b3a : Below wr.heap.size wr (w3.alloc (.cells #[.slice y1 ss.length y2, .slice y3 P.length y4] 27)) := hb3.alloc hb3.size _
        have HB3 : Hid (Below w.heap.size w (w3.alloc (.cells #[.slice y1 ss.length y2, .slice y3 P.length y4] 27))) := HB2.out.trans (b3a.mono HB2.out.size)
        have HA3 : Hid (Bx (w3.alloc (.cells #[.slice y1 ss.length y2, .slice y3 P.length y4] 27)) A (.slice x1 ss.length x2) (.slice x3 cur.length x4)) := HAr.out.keep b3a HAr.out.lt
        have HD3 : Hid (DOwn (w3.alloc (.cells #[.slice y1 ss.length y2, .slice y3 P.length y4] 27)) w.heap.size x1 x2 x3 x4 ss cur) := HD2.out.below b3a
        have HK3 : Hid (KRow (w3.alloc (.cells #[.slice y1 ss.length y2, .slice y3 P.length y4] 27)) (some ⟨G, 0, none⟩) (List.replicate cur.length 1)) := HK2.out.below b3a
        have HN3 : Hid (Bx (w3.alloc (.cells #[.slice y1 ss.length y2, .slice y3 P.length y4] 27)) w3.heap.size (.slice y1 ss.length y2) (.slice y3 P.length y4)) := Bx.new w3 _ _ 27
        have HE3 : Hid (DOwn (w3.alloc (.cells #[.slice y1 ss.length y2, .slice y3 P.length y4] 27)) w.heap.size y1 y2 y3 y4 ss P) := (hd3.mono (Nat.le_trans HB2.out.size ba2.size)).below ((belowRefl w3).alloc (Nat.le_refl _) _)
        clear hd3 hb3 hb3' b3a ba2 HD2a HB2 HD2 HK2 HAr HG2 g0 g1
        have g0 := HA3.out.c0
        have g1 := HA3.out.c1
        go_wp2_with fail
        refine (CW.out _ _ _ _ rfl HD3.out HK3.out).mono ?_
        rintro e w4 ⟨u1, u2, u3, u4, rfl, hd4, hb4⟩
        have b4a : Below (w3.alloc (.cells #[.slice y1 ss.length y2, .slice y3 P.length y4] 27)).heap.size (w3.alloc (.cells #[.slice y1 ss.length y2, .slice y3 P.length y4] 27)) (w4.alloc (.cells #[.slice u1 F.length u2, .slice u3 P.length u4] 27)) := hb4.alloc hb4.size _
        have HB4 : Hid (Below w.heap.size w (w4.alloc (.cells #[.slice u1 F.length u2, .slice u3 P.length u4] 27))) := HB3.out.trans (b4a.mono HB3.out.size)
        have HA4 : Hid (Bx (w4.alloc (.cells #[.slice u1 F.length u2, .slice u3 P.length u4] 27)) A (.slice x1 ss.length x2) (.slice x3 cur.length x4)) := HA3.out.keep b4a HA3.out.lt
        have HD4 : Hid (DOwn (w4.alloc (.cells #[.slice u1 F.length u2, .slice u3 P.length u4] 27)) w.heap.size x1 x2 x3 x4 ss cur) := HD3.out.below b4a
        have HN4 : Hid (Bx (w4.alloc (.cells #[.slice u1 F.length u2, .slice u3 P.length u4] 27)) w3.heap.size (.slice y1 ss.length y2) (.slice y3 P.length y4)) := HN3.out.keep b4a HN3.out.lt
        have HE4 : Hid (DOwn (w4.alloc (.cells #[.slice u1 F.length u2, .slice u3 P.length u4] 27)) w.heap.size y1 y2 y3 y4 ss P) := HE3.out.below b4a
        have HW4 : Hid (Bx (w4.alloc (.cells #[.slice u1 F.length u2, .slice u3 P.length u4] 27)) w4.heap.size (.slice u1 F.length u2) (.slice u3 P.length u4)) := Bx.new w4 _ _ 27
        have HG4 : Hid (DOwn (w4.alloc (.cells #[.slice u1 F.length u2, .slice u3 P.length u4] 27)) w.heap.size u1 u2 u3 u4 F P) := (hd4.mono HB3.out.size).below ((belowRefl w4).alloc (Nat.le_refl _) _)
        clear hd4 hb4 b4a HB3 HA3 HD3 HK3 HN3 HE3 g0 g1
        go_wp2_with fail
        refine (dcr19 len cap a hbig _ (HR.out.below HB4.out)).mono ?_
        rintro e w5 ⟨xs, xc, v1, v2, v3, v4, ks, GK, ck, tr, rfl, hd5, hI5, hk5, hkl5, hb5⟩
        have b5a : Below (w4.alloc (.cells #[.slice u1 F.length u2, .slice u3 P.length u4] 27)).heap.size (w4.alloc (.cells #[.slice u1 F.length u2, .slice u3 P.length u4] 27)) (w5.alloc (.cells #[.slice v1 xs.length v2, .slice v3 xc.length v4] 27)) := hb5.alloc hb5.size _
        have HB5 : Hid (Below w.heap.size w (w5.alloc (.cells #[.slice v1 xs.length v2, .slice v3 xc.length v4] 27))) := HB4.out.trans (b5a.mono HB4.out.size)
        have HA5 : Hid (Bx (w5.alloc (.cells #[.slice v1 xs.length v2, .slice v3 xc.length v4] 27)) A (.slice x1 ss.length x2) (.slice x3 cur.length x4)) := HA4.out.keep b5a HA4.out.lt
        have HD5 : Hid (DOwn (w5.alloc (.cells #[.slice v1 xs.length v2, .slice v3 xc.length v4] 27)) w.heap.size x1 x2 x3 x4 ss cur) := HD4.out.below b5a
        have HN5 : Hid (Bx (w5.alloc (.cells #[.slice v1 xs.length v2, .slice v3 xc.length v4] 27)) w3.heap.size (.slice y1 ss.length y2) (.slice y3 P.length y4)) := HN4.out.keep b5a HN4.out.lt
        have HE5 : Hid (DOwn (w5.alloc (.cells #[.slice v1 xs.length v2, .slice v3 xc.length v4] 27)) w.heap.size y1 y2 y3 y4 ss P) := HE4.out.below b5a
        have HW5 : Hid (Bx (w5.alloc (.cells #[.slice v1 xs.length v2, .slice v3 xc.length v4] 27)) w4.heap.size (.slice u1 F.length u2) (.slice u3 P.length u4)) := HW4.out.keep b5a HW4.out.lt
        have HG5 : Hid (DOwn (w5.alloc (.cells #[.slice v1 xs.length v2, .slice v3 xc.length v4] 27)) w.heap.size u1 u2 u3 u4 F P) := HG4.out.below b5a
        have HX5 : Hid (Bx (w5.alloc (.cells #[.slice v1 xs.length v2, .slice v3 xc.length v4] 27)) w5.heap.size (.slice v1 xs.length v2) (.slice v3 xc.length v4)) := Bx.new w5 _ _ 27
        have bx5 : Below w5.heap.size w5 (w5.alloc (.cells #[.slice v1 xs.length v2, .slice v3 xc.length v4] 27)) := (belowRefl w5).alloc (Nat.le_refl _) _
        have HY5 : Hid (DOwn (w5.alloc (.cells #[.slice v1 xs.length v2, .slice v3 xc.length v4] 27)) w.heap.size v1 v2 v3 v4 xs xc) := (hd5.mono HB4.out.size).below bx5
        have HK5 : Hid (KRow (w5.alloc (.cells #[.slice v1 xs.length v2, .slice v3 xc.length v4] 27)) (some ⟨GK, 0, none⟩) ks) := hk5.below bx5
        have HI5 : Hid (DaI xs xc) := hI5
        have hxs : xs.length ≤ 6 := hI5.1
        have hxc : xc.length ≤ 61 := hI5.2.1
        have hLk : ks.length ≤ 13 := hkl5
        clear hd5 hI5 hk5 hkl5 hb5 b5a bx5 HB4 HA4 HD4 HN4 HE4 HW4 HG4
        go_wp2
        generalize (w5.alloc (.cells #[.slice v1 xs.length v2, .slice v3 xc.length v4] 27)) = W9 at *
        generalize w3.heap.size = NB at *
        generalize w4.heap.size = WB at *
        generalize w5.heap.size = XB at *
        have lA := HA5.out.lt
        have lN := HN5.out.lt
        have lW := HW5.out.lt
        have lX := HX5.out.lt
        obtain ⟨R, hRr⟩ : ∃ R, R = crS xs xc ks tr := ⟨_, rfl⟩
        obtain ⟨Q, hQq⟩ : ∃ Q, Q = flP xs xc := ⟨_, rfl⟩
        have hQl : Q.length ≤ 61 := by
          rw [hQq]
          unfold flP
          split
          · simp
          · omega
        have C20 : Hid (∀ W : World, Below W9.heap.size W9 W → Calls Try.prog 20 #[.slice y1 ss.length y2, .slice x1 ss.length x2] W fun e w' => e = .returned (.bool true) ∧ Below W.heap.size W w') := fun W h => same20 y1 x1 y2 x2 ss (by omega) W (HE5.out.below h).s.srow (HD5.out.below h).s.srow
        have C14 : Hid (∀ W : World, Below W9.heap.size W9 W → Calls Try.prog 14 #[.agg #[.slice x1 ss.length x2, .slice x3 cur.length x4]] W fun e w' => ∃ f1 f2 f3 f4, e = .returned (.agg #[.slice f1 F.length f2, .slice f3 P.length f4]) ∧ DOwn w' W.heap.size f1 f2 f3 f4 F P ∧ Below W.heap.size W w') := fun W h => CF.out W (HD5.out.below h)
        have C18 : Hid (∀ W : World, Below W9.heap.size W9 W → Calls Try.prog 18 #[.agg #[.slice v1 xs.length v2, .slice v3 xc.length v4], .slice (some ⟨GK, 0, none⟩) ks.length ck, .int .i64 tr] W fun e w' => ∃ f1 f2 f3 f4, e = .returned (.agg #[.slice f1 R.length f2, .slice f3 Q.length f4]) ∧ DOwn w' W.heap.size f1 f2 f3 f4 R Q ∧ Below W.heap.size W w') := fun W h => by
          rw [hRr, hQq]
          exact icrash23 xs xc ks tr v1 v3 (some ⟨GK, 0, none⟩) v2 v4 ck (by omega) (by omega) (by omega) (fun s hs => Nat.le_trans (HI5.out.2.2.1 s hs) (by omega)) (fun p hp => Nat.le_trans (HI5.out.2.2.2 p hp) (by omega)) W (HY5.out.below h).s.srow (HY5.out.below h).p.prow (HK5.out.below h)
        have C22 : Hid (∀ W : World, Below W9.heap.size W9 W → Calls Try.prog 22 #[.agg #[.slice v1 xs.length v2, .slice v3 xc.length v4], .slice (some ⟨GK, 0, none⟩) ks.length ck, .int .i64 tr] W fun e w' => ∃ f1 f2 f3 f4, e = .returned (.agg #[.slice f1 R.length f2, .slice f3 Q.length f4]) ∧ DOwn w' W.heap.size f1 f2 f3 f4 R Q ∧ Below W.heap.size W w') := fun W h => by
          rw [hRr, hQq]
          exact scrash44 xs xc ks tr v1 v3 (some ⟨GK, 0, none⟩) v2 v4 ck _ (by omega) (by omega) (by omega) W (HY5.out.below h) (HK5.out.below h)
        have C17 : Hid (∀ W : World, Below W9.heap.size W9 W → Calls Try.prog 17 #[.agg #[.slice u1 F.length u2, .slice u3 P.length u4]] W fun e w' => e = .returned (.bool true) ∧ Below W.heap.size W w') := fun W h => by
          have h2 := iok22 F P u1 u3 u2 u4 (by omega) (by omega) W (HG5.out.below h).s.srow (HG5.out.below h).p.prow
          rw [HOF.out] at h2
          exact h2
        have hRl : R.length ≤ 6 := by
          rw [hRr]
          exact cr_len hxs
        clear hRr hQq CN CW CF
        try simp only [List.append_eq, List.cons_append, List.nil_append]
        refine wp_region_held_drew (S := fun w' => w'.cell? ⟨A, 0, none⟩ = some (.slice x1 ss.length x2) ∧ w'.cell? ⟨A, 1, none⟩ = some (.slice x3 cur.length x4) ∧ w'.cell? ⟨NB, 0, none⟩ = some (.slice y1 ss.length y2) ∧ w'.cell? ⟨NB, 1, none⟩ = some (.slice y3 P.length y4) ∧ w'.cell? ⟨WB, 0, none⟩ = some (.slice u1 F.length u2) ∧ w'.cell? ⟨WB, 1, none⟩ = some (.slice u3 P.length u4) ∧ w'.cell? ⟨XB, 0, none⟩ = some (.slice v1 xs.length v2) ∧ w'.cell? ⟨XB, 1, none⟩ = some (.slice v3 xc.length v4)) (by kernel_rfl) ⟨HA5.out.c0, HA5.out.c1, HN5.out.c0, HN5.out.c1, HW5.out.c0, HW5.out.c1, HX5.out.c0, HX5.out.c1⟩ (fun hHeld => ?_)
        (refine wpAnyH_take (i := 0) (v := ?_) rfl (by kernel_rfl) (by kernel_rfl) (by kernel_rfl) (fun _ _ _ h => h) (Or.inl ⟨by rfl, ?_⟩) (by assumption) ?_; rotate_left; (focus (intro w hSw; (try dsimp only at hSw); go_simp; (try with_reducible rfl); done)); simp only [Act.put, List.getElem_toArray, List.getElem_cons_zero, List.setIfInBounds_toArray, List.set_cons_zero, List.set_cons_succ])
        (refine wpAnyH_take (i := 1) (v := ?_) rfl (by kernel_rfl) (by kernel_rfl) (by kernel_rfl) (fun _ _ _ h => h) (Or.inl ⟨by rfl, ?_⟩) (by assumption) ?_; rotate_left; (focus (intro w hSw; (try dsimp only at hSw); go_simp; (try with_reducible rfl); done)); simp only [Act.put, List.getElem_toArray, List.getElem_cons_zero, List.getElem_cons_succ, List.setIfInBounds_toArray, List.set_cons_zero, List.set_cons_succ])
        (refine wpAnyH_take (i := 2) (v := ?_) rfl (by kernel_rfl) (by kernel_rfl) (by kernel_rfl) (fun _ _ _ h => h) (Or.inl ⟨by rfl, ?_⟩) (by assumption) ?_; rotate_left; (focus (intro w hSw; (try dsimp only at hSw); go_simp; (try with_reducible rfl); done)); simp only [Act.put, List.getElem_toArray, List.getElem_cons_zero, List.getElem_cons_succ, List.setIfInBounds_toArray, List.set_cons_zero, List.set_cons_succ])
        (refine wpAnyH_take (i := 3) (v := ?_) rfl (by kernel_rfl) (by kernel_rfl) (by kernel_rfl) (fun _ _ _ h => h) (Or.inl ⟨by rfl, ?_⟩) (by assumption) ?_; rotate_left; (focus (intro w hSw; (try dsimp only at hSw); go_simp; (try with_reducible rfl); done)); simp only [Act.put, List.getElem_toArray, List.getElem_cons_zero, List.getElem_cons_succ, List.setIfInBounds_toArray, List.set_cons_zero, List.set_cons_succ])
        refine wpAnyH_ready (rs := [4]) (by kernel_rfl) (by simp) ?_
        refine AllReadyH.cons rfl (fun K hK => ?_) AllReadyH.nil
        go_simp
        go_wp2_with fail
        refine (C20.out _ ((belowRefl W9).drew)).mono ?_
        rintro e r1w ⟨rfl, hbb⟩
        have BB1 : Hid (Below W9.heap.size W9 r1w) := undrew hbb
        have Ha1 : Hid (Bx r1w A (.slice x1 ss.length x2) (.slice x3 cur.length x4)) := HA5.out.keep BB1.out lA
        have Hn1 : Hid (Bx r1w NB (.slice y1 ss.length y2) (.slice y3 P.length y4)) := HN5.out.keep BB1.out lN
        have Hw1 : Hid (Bx r1w WB (.slice u1 F.length u2) (.slice u3 P.length u4)) := HW5.out.keep BB1.out lW
        have Hx1 : Hid (Bx r1w XB (.slice v1 xs.length v2) (.slice v3 xc.length v4)) := HX5.out.keep BB1.out lX
        clear hbb
        go_wp2_with fail
        refine hK.out _ _ ⟨Ha1.out.c0, Ha1.out.c1, Hn1.out.c0, Hn1.out.c1, Hw1.out.c0, Hw1.out.c1, Hx1.out.c0, Hx1.out.c1⟩ (fun hHeldz1 => ?_)
        clear hK K
        (refine wpAnyH_take (i := 5) (v := ?_) rfl (by kernel_rfl) (by kernel_rfl) (by kernel_rfl) (fun _ _ _ h => h) (Or.inl ⟨by rfl, ?_⟩) (by assumption) ?_; rotate_left; (focus (intro w hSw; (try dsimp only at hSw); go_simp; (try with_reducible rfl); done)); simp only [Act.put, List.getElem_toArray, List.getElem_cons_zero, List.getElem_cons_succ, List.setIfInBounds_toArray, List.set_cons_zero, List.set_cons_succ])
        (refine wpAnyH_take (i := 6) (v := ?_) rfl (by kernel_rfl) (by kernel_rfl) (by kernel_rfl) (fun _ _ _ h => h) (Or.inl ⟨by rfl, ?_⟩) (by assumption) ?_; rotate_left; (focus (intro w hSw; (try dsimp only at hSw); go_simp; (try with_reducible rfl); done)); simp only [Act.put, List.getElem_toArray, List.getElem_cons_zero, List.getElem_cons_succ, List.setIfInBounds_toArray, List.set_cons_zero, List.set_cons_succ])
        (refine wpAnyH_take (i := 7) (v := ?_) rfl (by kernel_rfl) (by kernel_rfl) (by kernel_rfl) (fun _ _ _ h => h) (Or.inl ⟨by rfl, ?_⟩) (by assumption) ?_; rotate_left; (focus (intro w hSw; (try dsimp only at hSw); go_simp; (try with_reducible rfl); done)); simp only [Act.put, List.getElem_toArray, List.getElem_cons_zero, List.getElem_cons_succ, List.setIfInBounds_toArray, List.set_cons_zero, List.set_cons_succ])
        (refine wpAnyH_take (i := 8) (v := ?_) rfl (by kernel_rfl) (by kernel_rfl) (by kernel_rfl) (fun _ _ _ h => h) (Or.inl ⟨by rfl, ?_⟩) (by assumption) ?_; rotate_left; (focus (intro w hSw; (try dsimp only at hSw); go_simp; (try with_reducible rfl); done)); simp only [Act.put, List.getElem_toArray, List.getElem_cons_zero, List.getElem_cons_succ, List.setIfInBounds_toArray, List.set_cons_zero, List.set_cons_succ])
        (refine wpAnyH_take (i := 9) (v := ?_) rfl (by kernel_rfl) (by kernel_rfl) (by kernel_rfl) (fun _ _ _ h => h) (Or.inl ⟨by rfl, ?_⟩) (by assumption) ?_; rotate_left; (focus (intro w hSw; (try dsimp only at hSw); go_simp; (try with_reducible rfl); done)); simp only [Act.put, List.getElem_toArray, List.getElem_cons_zero, List.getElem_cons_succ, List.setIfInBounds_toArray, List.set_cons_zero, List.set_cons_succ])
        first | rw [HPD1.out] | rw [HPD2.out] | rw [HPD3.out] | rw [HPD4.out] | rw [HPD5.out] | rw [HPD6.out] | rw [HPD7.out]
        (refine wpAnyH_take (i := 10) (v := ?_) rfl (by kernel_rfl) (by kernel_rfl) (by kernel_rfl) (fun _ _ _ h => h) (Or.inl ⟨by rfl, ?_⟩) (by assumption) ?_; rotate_left; (focus (intro w hSw; (try dsimp only at hSw); go_simp; (try with_reducible rfl); done)); simp only [Act.put, List.getElem_toArray, List.getElem_cons_zero, List.getElem_cons_succ, List.setIfInBounds_toArray, List.set_cons_zero, List.set_cons_succ])
        (refine wpAnyH_take (i := 11) (v := ?_) rfl (by kernel_rfl) (by kernel_rfl) (by kernel_rfl) (fun _ _ _ h => h) (Or.inl ⟨by rfl, ?_⟩) (by assumption) ?_; rotate_left; (focus (intro w hSw; (try dsimp only at hSw); go_simp; (try with_reducible rfl); done)); simp only [Act.put, List.getElem_toArray, List.getElem_cons_zero, List.getElem_cons_succ, List.setIfInBounds_toArray, List.set_cons_zero, List.set_cons_succ])
        (refine wpAnyH_take (i := 12) (v := ?_) rfl (by kernel_rfl) (by kernel_rfl) (by kernel_rfl) (fun _ _ _ h => h) (Or.inl ⟨by rfl, ?_⟩) (by assumption) ?_; rotate_left; (focus (intro w hSw; (try dsimp only at hSw); go_simp; (try with_reducible rfl); done)); simp only [Act.put, List.getElem_toArray, List.getElem_cons_zero, List.getElem_cons_succ, List.setIfInBounds_toArray, List.set_cons_zero, List.set_cons_succ])
        (refine wpAnyH_take (i := 13) (v := ?_) rfl (by kernel_rfl) (by kernel_rfl) (by kernel_rfl) (fun _ _ _ h => h) (Or.inl ⟨by rfl, ?_⟩) (by assumption) ?_; rotate_left; (focus (intro w hSw; (try dsimp only at hSw); go_simp; (try with_reducible rfl); done)); simp only [Act.put, List.getElem_toArray, List.getElem_cons_zero, List.getElem_cons_succ, List.setIfInBounds_toArray, List.set_cons_zero, List.set_cons_succ])
        refine wpAnyH_ready (rs := [14]) (by kernel_rfl) (by simp) ?_
        refine AllReadyH.cons rfl (fun K hK => ?_) AllReadyH.nil
        go_simp
        go_wp2_with fail
        refine (C14.out _ BB1.out).mono ?_
        rintro e r2w ⟨m1, m2, m3, m4, rfl, hdm, hbb⟩
        have D14 : Hid (DOwn r2w 0 m1 m2 m3 m4 F P) := hdm.mono (Nat.zero_le _)
        clear hdm
        have BB2 : Hid (Below W9.heap.size W9 r2w) := BB1.out.trans (hbb.mono BB1.out.size)
        have Ha2 : Hid (Bx r2w A (.slice x1 ss.length x2) (.slice x3 cur.length x4)) := HA5.out.keep BB2.out lA
        have Hn2 : Hid (Bx r2w NB (.slice y1 ss.length y2) (.slice y3 P.length y4)) := HN5.out.keep BB2.out lN
        have Hw2 : Hid (Bx r2w WB (.slice u1 F.length u2) (.slice u3 P.length u4)) := HW5.out.keep BB2.out lW
        have Hx2 : Hid (Bx r2w XB (.slice v1 xs.length v2) (.slice v3 xc.length v4)) := HX5.out.keep BB2.out lX
        clear hbb
        go_wp2_with fail
        refine hK.out _ _ ⟨Ha2.out.c0, Ha2.out.c1, Hn2.out.c0, Hn2.out.c1, Hw2.out.c0, Hw2.out.c1, Hx2.out.c0, Hx2.out.c1⟩ (fun hHeldz2 => ?_)
        clear hK K
        refine wpAnyH_ready (rs := [15]) (by kernel_rfl) (by simp) ?_
        refine AllReadyH.cons rfl (fun K hK => ?_) AllReadyH.nil
        go_simp
        go_wp2_with fail
        refine (same21 F P u1 u3 m1 m3 u2 u4 m2 m4 (by omega) (by omega) _ (HG5.out.below BB2.out).s.srow (HG5.out.below BB2.out).p.prow D14.out.s.srow D14.out.p.prow).mono ?_
        rintro e r3w ⟨rfl, hbb⟩
        have BB3 : Hid (Below W9.heap.size W9 r3w) := BB2.out.trans (hbb.mono BB2.out.size)
        have Ha3 : Hid (Bx r3w A (.slice x1 ss.length x2) (.slice x3 cur.length x4)) := HA5.out.keep BB3.out lA
        have Hn3 : Hid (Bx r3w NB (.slice y1 ss.length y2) (.slice y3 P.length y4)) := HN5.out.keep BB3.out lN
        have Hw3 : Hid (Bx r3w WB (.slice u1 F.length u2) (.slice u3 P.length u4)) := HW5.out.keep BB3.out lW
        have Hx3 : Hid (Bx r3w XB (.slice v1 xs.length v2) (.slice v3 xc.length v4)) := HX5.out.keep BB3.out lX
        clear hbb
        go_wp2_with fail
        refine hK.out _ _ ⟨Ha3.out.c0, Ha3.out.c1, Hn3.out.c0, Hn3.out.c1, Hw3.out.c0, Hw3.out.c1, Hx3.out.c0, Hx3.out.c1⟩ (fun hHeldz3 => ?_)
        clear hK K
        (refine wpAnyH_take (i := 16) (v := ?_) rfl (by kernel_rfl) (by kernel_rfl) (by kernel_rfl) (fun _ _ _ h => h) (Or.inl ⟨by rfl, ?_⟩) (by assumption) ?_; rotate_left; (focus (intro w hSw; (try dsimp only at hSw); go_simp; (try with_reducible rfl); done)); simp only [Act.put, List.getElem_toArray, List.getElem_cons_zero, List.getElem_cons_succ, List.setIfInBounds_toArray, List.set_cons_zero, List.set_cons_succ])
        (refine wpAnyH_take (i := 17) (v := ?_) rfl (by kernel_rfl) (by kernel_rfl) (by kernel_rfl) (fun _ _ _ h => h) (Or.inl ⟨by rfl, ?_⟩) (by assumption) ?_; rotate_left; (focus (intro w hSw; (try dsimp only at hSw); go_simp; (try with_reducible rfl); done)); simp only [Act.put, List.getElem_toArray, List.getElem_cons_zero, List.getElem_cons_succ, List.setIfInBounds_toArray, List.set_cons_zero, List.set_cons_succ])
        (refine wpAnyH_take (i := 18) (v := ?_) rfl (by kernel_rfl) (by kernel_rfl) (by kernel_rfl) (fun _ _ _ h => h) (Or.inl ⟨by rfl, ?_⟩) (by assumption) ?_; rotate_left; (focus (intro w hSw; (try dsimp only at hSw); go_simp; (try with_reducible rfl); done)); simp only [Act.put, List.getElem_toArray, List.getElem_cons_zero, List.getElem_cons_succ, List.setIfInBounds_toArray, List.set_cons_zero, List.set_cons_succ])
        (refine wpAnyH_take (i := 19) (v := ?_) rfl (by kernel_rfl) (by kernel_rfl) (by kernel_rfl) (fun _ _ _ h => h) (Or.inl ⟨by rfl, ?_⟩) (by assumption) ?_; rotate_left; (focus (intro w hSw; (try dsimp only at hSw); go_simp; (try with_reducible rfl); done)); simp only [Act.put, List.getElem_toArray, List.getElem_cons_zero, List.getElem_cons_succ, List.setIfInBounds_toArray, List.set_cons_zero, List.set_cons_succ])
        (refine wpAnyH_take (i := 20) (v := ?_) rfl (by kernel_rfl) (by kernel_rfl) (by kernel_rfl) (fun _ _ _ h => h) (Or.inl ⟨by rfl, ?_⟩) (by assumption) ?_; rotate_left; (focus (intro w hSw; (try dsimp only at hSw); go_simp; (try with_reducible rfl); done)); simp only [Act.put, List.getElem_toArray, List.getElem_cons_zero, List.getElem_cons_succ, List.setIfInBounds_toArray, List.set_cons_zero, List.set_cons_succ])
        (refine wpAnyH_take (i := 22) (v := ?_) rfl (by kernel_rfl) (by kernel_rfl) (by kernel_rfl) (fun _ _ _ h => h) (Or.inl ⟨by rfl, ?_⟩) (by assumption) ?_; rotate_left; (focus (intro w hSw; (try dsimp only at hSw); go_simp; (try with_reducible rfl); done)); simp only [Act.put, List.getElem_toArray, List.getElem_cons_zero, List.getElem_cons_succ, List.setIfInBounds_toArray, List.set_cons_zero, List.set_cons_succ])
        (refine wpAnyH_take (i := 23) (v := ?_) rfl (by kernel_rfl) (by kernel_rfl) (by kernel_rfl) (fun _ _ _ h => h) (Or.inl ⟨by rfl, ?_⟩) (by assumption) ?_; rotate_left; (focus (intro w hSw; (try dsimp only at hSw); go_simp; (try with_reducible rfl); done)); simp only [Act.put, List.getElem_toArray, List.getElem_cons_zero, List.getElem_cons_succ, List.setIfInBounds_toArray, List.set_cons_zero, List.set_cons_succ])
        (refine wpAnyH_take (i := 24) (v := ?_) rfl (by kernel_rfl) (by kernel_rfl) (by kernel_rfl) (fun _ _ _ h => h) (Or.inl ⟨by rfl, ?_⟩) (by assumption) ?_; rotate_left; (focus (intro w hSw; (try dsimp only at hSw); go_simp; (try with_reducible rfl); done)); simp only [Act.put, List.getElem_toArray, List.getElem_cons_zero, List.getElem_cons_succ, List.setIfInBounds_toArray, List.set_cons_zero, List.set_cons_succ])
        refine wpAnyH_ready (rs := [21]) (by kernel_rfl) (by simp) ?_
        refine AllReadyH.cons rfl (fun K hK => ?_) AllReadyH.nil
        go_simp
        go_wp2_with fail
        refine (C18.out _ BB3.out).mono ?_
        rintro e r4w ⟨k1, k2, k3, k4, rfl, hdm, hbb⟩
        have D18 : Hid (DOwn r4w 0 k1 k2 k3 k4 R Q) := hdm.mono (Nat.zero_le _)
        clear hdm
        have BB4 : Hid (Below W9.heap.size W9 r4w) := BB3.out.trans (hbb.mono BB3.out.size)
        have Ha4 : Hid (Bx r4w A (.slice x1 ss.length x2) (.slice x3 cur.length x4)) := HA5.out.keep BB4.out lA
        have Hn4 : Hid (Bx r4w NB (.slice y1 ss.length y2) (.slice y3 P.length y4)) := HN5.out.keep BB4.out lN
        have Hw4 : Hid (Bx r4w WB (.slice u1 F.length u2) (.slice u3 P.length u4)) := HW5.out.keep BB4.out lW
        have Hx4 : Hid (Bx r4w XB (.slice v1 xs.length v2) (.slice v3 xc.length v4)) := HX5.out.keep BB4.out lX
        clear hbb
        go_wp2_with fail
        refine hK.out _ _ ⟨Ha4.out.c0, Ha4.out.c1, Hn4.out.c0, Hn4.out.c1, Hw4.out.c0, Hw4.out.c1, Hx4.out.c0, Hx4.out.c1⟩ (fun hHeldz4 => ?_)
        clear hK K
        refine wpAnyH_ready (rs := [25]) (by kernel_rfl) (by simp) ?_
        refine AllReadyH.cons rfl (fun K hK => ?_) AllReadyH.nil
        go_simp
        go_wp2_with fail
        refine (C22.out _ BB4.out).mono ?_
        rintro e r5w ⟨j1, j2, j3, j4, rfl, hdm, hbb⟩
        have D22 : Hid (DOwn r5w 0 j1 j2 j3 j4 R Q) := hdm.mono (Nat.zero_le _)
        clear hdm
        have D18b : Hid (DOwn r5w 0 k1 k2 k3 k4 R Q) := D18.out.below hbb
        have BB5 : Hid (Below W9.heap.size W9 r5w) := BB4.out.trans (hbb.mono BB4.out.size)
        have Ha5 : Hid (Bx r5w A (.slice x1 ss.length x2) (.slice x3 cur.length x4)) := HA5.out.keep BB5.out lA
        have Hn5 : Hid (Bx r5w NB (.slice y1 ss.length y2) (.slice y3 P.length y4)) := HN5.out.keep BB5.out lN
        have Hw5 : Hid (Bx r5w WB (.slice u1 F.length u2) (.slice u3 P.length u4)) := HW5.out.keep BB5.out lW
        have Hx5 : Hid (Bx r5w XB (.slice v1 xs.length v2) (.slice v3 xc.length v4)) := HX5.out.keep BB5.out lX
        clear hbb
        go_wp2_with fail
        refine hK.out _ _ ⟨Ha5.out.c0, Ha5.out.c1, Hn5.out.c0, Hn5.out.c1, Hw5.out.c0, Hw5.out.c1, Hx5.out.c0, Hx5.out.c1⟩ (fun hHeldz5 => ?_)
        clear hK K
        refine wpAnyH_ready (rs := [26]) (by kernel_rfl) (by simp) ?_
        refine AllReadyH.cons rfl (fun K hK => ?_) AllReadyH.nil
        go_simp
        go_wp2_with fail
        refine (same21 R Q k1 k3 j1 j3 k2 k4 j2 j4 (by omega) (by omega) _ D18b.out.s.srow D18b.out.p.prow D22.out.s.srow D22.out.p.prow).mono ?_
        rintro e r6w ⟨rfl, hbb⟩
        have BB6 : Hid (Below W9.heap.size W9 r6w) := BB5.out.trans (hbb.mono BB5.out.size)
        have Ha6 : Hid (Bx r6w A (.slice x1 ss.length x2) (.slice x3 cur.length x4)) := HA5.out.keep BB6.out lA
        have Hn6 : Hid (Bx r6w NB (.slice y1 ss.length y2) (.slice y3 P.length y4)) := HN5.out.keep BB6.out lN
        have Hw6 : Hid (Bx r6w WB (.slice u1 F.length u2) (.slice u3 P.length u4)) := HW5.out.keep BB6.out lW
        have Hx6 : Hid (Bx r6w XB (.slice v1 xs.length v2) (.slice v3 xc.length v4)) := HX5.out.keep BB6.out lX
        clear hbb
        go_wp2_with fail
        refine hK.out _ _ ⟨Ha6.out.c0, Ha6.out.c1, Hn6.out.c0, Hn6.out.c1, Hw6.out.c0, Hw6.out.c1, Hx6.out.c0, Hx6.out.c1⟩ (fun hHeldz6 => ?_)
        clear hK K
        (refine wpAnyH_take (i := 27) (v := ?_) rfl (by kernel_rfl) (by kernel_rfl) (by kernel_rfl) (fun _ _ _ h => h) (Or.inl ⟨by rfl, ?_⟩) (by assumption) ?_; rotate_left; (focus (intro w hSw; (try dsimp only at hSw); go_simp; (try with_reducible rfl); done)); simp only [Act.put, List.getElem_toArray, List.getElem_cons_zero, List.getElem_cons_succ, List.setIfInBounds_toArray, List.set_cons_zero, List.set_cons_succ])
        (refine wpAnyH_take (i := 28) (v := ?_) rfl (by kernel_rfl) (by kernel_rfl) (by kernel_rfl) (fun _ _ _ h => h) (Or.inl ⟨by rfl, ?_⟩) (by assumption) ?_; rotate_left; (focus (intro w hSw; (try dsimp only at hSw); go_simp; (try with_reducible rfl); done)); simp only [Act.put, List.getElem_toArray, List.getElem_cons_zero, List.getElem_cons_succ, List.setIfInBounds_toArray, List.set_cons_zero, List.set_cons_succ])
        (refine wpAnyH_take (i := 29) (v := ?_) rfl (by kernel_rfl) (by kernel_rfl) (by kernel_rfl) (fun _ _ _ h => h) (Or.inl ⟨by rfl, ?_⟩) (by assumption) ?_; rotate_left; (focus (intro w hSw; (try dsimp only at hSw); go_simp; (try with_reducible rfl); done)); simp only [Act.put, List.getElem_toArray, List.getElem_cons_zero, List.getElem_cons_succ, List.setIfInBounds_toArray, List.set_cons_zero, List.set_cons_succ])
        refine wpAnyH_ready (rs := [30]) (by kernel_rfl) (by simp) ?_
        refine AllReadyH.cons rfl (fun K hK => ?_) AllReadyH.nil
        go_simp
        go_wp2_with fail
        refine (C17.out _ BB6.out).mono ?_
        rintro e r7w ⟨rfl, hbb⟩
        have BB7 : Hid (Below W9.heap.size W9 r7w) := BB6.out.trans (hbb.mono BB6.out.size)
        have Ha7 : Hid (Bx r7w A (.slice x1 ss.length x2) (.slice x3 cur.length x4)) := HA5.out.keep BB7.out lA
        have Hn7 : Hid (Bx r7w NB (.slice y1 ss.length y2) (.slice y3 P.length y4)) := HN5.out.keep BB7.out lN
        have Hw7 : Hid (Bx r7w WB (.slice u1 F.length u2) (.slice u3 P.length u4)) := HW5.out.keep BB7.out lW
        have Hx7 : Hid (Bx r7w XB (.slice v1 xs.length v2) (.slice v3 xc.length v4)) := HX5.out.keep BB7.out lX
        clear hbb
        go_wp2_with fail
        refine hK.out _ _ ⟨Ha7.out.c0, Ha7.out.c1, Hn7.out.c0, Hn7.out.c1, Hw7.out.c0, Hw7.out.c1, Hx7.out.c0, Hx7.out.c1⟩ (fun hHeldz7 => ?_)
        clear hK K
        (refine wpAnyH_take (i := 31) (v := ?_) rfl (by kernel_rfl) (by kernel_rfl) (by kernel_rfl) (fun _ _ _ h => h) (Or.inl ⟨by rfl, ?_⟩) (by assumption) ?_; rotate_left; (focus (intro w hSw; (try dsimp only at hSw); go_simp; (try with_reducible rfl); done)); simp only [Act.put, List.getElem_toArray, List.getElem_cons_zero, List.getElem_cons_succ, List.setIfInBounds_toArray, List.set_cons_zero, List.set_cons_succ])
        (refine wpAnyH_take (i := 32) (v := ?_) rfl (by kernel_rfl) (by kernel_rfl) (by kernel_rfl) (fun _ _ _ h => h) (Or.inl ⟨by rfl, ?_⟩) (by assumption) ?_; rotate_left; (focus (intro w hSw; (try dsimp only at hSw); go_simp; (try with_reducible rfl); done)); simp only [Act.put, List.getElem_toArray, List.getElem_cons_zero, List.getElem_cons_succ, List.setIfInBounds_toArray, List.set_cons_zero, List.set_cons_succ])
        refine wpAnyH_done (by kernel_rfl) ?_ _
        go_wp2
        go_ret
        exact ⟨rfl, HB5.out.trans (BB7.out.mono HB5.out.size)⟩

  · rw [decide_eq_true (by omega)] at HBG
    go_enter Try.func4, Try.ntmps4
    go_wp2_with fail
    refine (HBG.out _).mono ?_
    rintro e w ⟨rfl, rfl⟩
    go_wp2
    go_ret
    exact ⟨rfl, belowRefl w⟩
end Go.Proofs.Ytnfkecefkkdedaa

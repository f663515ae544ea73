/- FnDisksTold: what the program tells of drawn disks is what the specification tells. -/
import Derived.Test.YtnfkecefkkdedaaY4
import Derived.Test.YtnfkecefkkdedaaS3
namespace Go.Proofs.Ytnfkecefkkdedaa
open Go.RowKit
open DM
attribute [local go_sem ↓] Go.wp_at_zero Go.wp_at_succ

theorem new3 (W : World) : Calls Try.prog 28 #[.int .i64 3] W fun e w' => ∃ z1 z2 z3 z4, e = .returned (.tuple #[.agg #[.slice z1 3 z2, .slice z3 0 z4], .bool true]) ∧ Below W.heap.size W w' := by
  have h := inew36 3 W
  rw [show nwB 3 = true from by decide, show (nwS 3).length = 3 from by rw [nwS_yes (by decide)]; simp [zerosS]] at h
  refine h.mono ?_
  rintro e w' ⟨z1, z2, z3, z4, rfl, _, hb⟩
  exact ⟨z1, z2, z3, z4, rfl, hb⟩
theorem new0 (W : World) : Calls Try.prog 28 #[.int .i64 0] W fun e w' => ∃ z1 z2 z3 z4, e = .returned (.tuple #[.agg #[.slice z1 0 z2, .slice z3 0 z4], .bool false]) ∧ Below W.heap.size W w' := by
  have h := inew36 0 W
  rw [show nwB 0 = false from by decide, show (nwS 0).length = 0 from by rw [nwS_no (by decide)]; rfl] at h
  refine h.mono ?_
  rintro e w' ⟨z1, z2, z3, z4, rfl, _, hb⟩
  exact ⟨z1, z2, z3, z4, rfl, hb⟩

set_option maxRecDepth 100000 in
set_option maxHeartbeats 8000000 in
theorem law6 (len cap : Nat) (a : Option Addr) (w : World) (hl0 : len ≤ 9223372036854775807) (hr : CodeRow w a len) :
    Calls Try.prog 6 #[.slice a len cap] w fun e w' => e = .returned (.bool true) ∧ Below w.heap.size w w' := by
  have HBG : Hid (∀ W : World, Calls Try.prog 10 #[.slice a len cap] W fun e w' => e = .returned (.bool (decide ((1048576 : Int) < (len : Int)))) ∧ w' = W) := fun W => big10 len cap a W
  have HR : Hid (CodeRow w a len) := hr
  clear hr
  by_cases hbig : len ≤ 1048576
  · rw [decide_eq_false (by omega)] at HBG
    go_enter Try.func6, Try.ntmps6
    go_wp2_with fail
    refine (HBG.out _).mono ?_
    rintro e w ⟨rfl, rfl⟩
    go_wp2_with fail
    refine (ddok23 len cap a hbig _ HR.out).mono ?_
    rintro e w1 ⟨ss, cur, x1, x2, x3, x4, rfl, hd1, hI1, hb1⟩
    have HI1 : Hid (DaI ss cur) := hI1
    have HB1 : Hid (Below w.heap.size w (w1.alloc (.cells #[.slice x1 ss.length x2, .slice x3 cur.length x4] 27))) := hb1.alloc hb1.size _
    have HA1 : Hid (Bx (w1.alloc (.cells #[.slice x1 ss.length x2, .slice x3 cur.length x4] 27)) w1.heap.size (.slice x1 ss.length x2) (.slice x3 cur.length x4)) := Bx.new w1 _ _ 27
    have HD1 : Hid (DOwn (w1.alloc (.cells #[.slice x1 ss.length x2, .slice x3 cur.length x4] 27)) w.heap.size x1 x2 x3 x4 ss cur) := hd1.below ((belowRefl w1).alloc (Nat.le_refl _) _)
    clear hd1 hI1 hb1
    have hsss : ss.length ≤ 6 := HI1.out.1
    have hcss : cur.length ≤ 61 := HI1.out.2.1
    have HSss : Hid (∀ s ∈ ss, s.size ≤ 65) := HI1.out.2.2.1
    have HPss : Hid (∀ p ∈ cur, p.2.size ≤ 65) := HI1.out.2.2.2
    go_wp2_with fail
    refine (drs24 len cap a hbig _ (HR.out.below HB1.out)).mono ?_
    rintro e w2 ⟨xs, xc, y1, y2, y3, y4, f, rfl, hd2, hI2, hf2, hb2⟩
    have HI2 : Hid (DaI xs xc) := hI2
    have b2a : Below (w1.alloc (.cells #[.slice x1 ss.length x2, .slice x3 cur.length x4] 27)).heap.size (w1.alloc (.cells #[.slice x1 ss.length x2, .slice x3 cur.length x4] 27)) (w2.alloc (.cells #[.slice y1 xs.length y2, .slice y3 xc.length y4] 27)) := hb2.alloc hb2.size _
    have HB2 : Hid (Below w.heap.size w (w2.alloc (.cells #[.slice y1 xs.length y2, .slice y3 xc.length y4] 27))) := HB1.out.trans (b2a.mono HB1.out.size)
    have HA2 : Hid (Bx (w2.alloc (.cells #[.slice y1 xs.length y2, .slice y3 xc.length y4] 27)) w1.heap.size (.slice x1 ss.length x2) (.slice x3 cur.length x4)) := HA1.out.keep b2a HA1.out.lt
    have HD2 : Hid (DOwn (w2.alloc (.cells #[.slice y1 xs.length y2, .slice y3 xc.length y4] 27)) w.heap.size x1 x2 x3 x4 ss cur) := HD1.out.below b2a
    have HX2 : Hid (Bx (w2.alloc (.cells #[.slice y1 xs.length y2, .slice y3 xc.length y4] 27)) w2.heap.size (.slice y1 xs.length y2) (.slice y3 xc.length y4)) := Bx.new w2 _ _ 27
    have HE2 : Hid (DOwn (w2.alloc (.cells #[.slice y1 xs.length y2, .slice y3 xc.length y4] 27)) w.heap.size y1 y2 y3 y4 xs xc) := (hd2.mono HB1.out.size).below ((belowRefl w2).alloc (Nat.le_refl _) _)
    clear hd2 hI2 hb2 b2a HB1 HA1 HD1 hf2
    have hsxs : xs.length ≤ 6 := HI2.out.1
    have hcxs : xc.length ≤ 61 := HI2.out.2.1
    have HSxs : Hid (∀ s ∈ xs, s.size ≤ 65) := HI2.out.2.2.1
    have HPxs : Hid (∀ p ∈ xc, p.2.size ≤ 65) := HI2.out.2.2.2
    obtain ⟨R, hR⟩ : ∃ R, R = rdR xs xc f := ⟨_, rfl⟩
    obtain ⟨H, hH⟩ : ∃ H, H = hasB f xs.length := ⟨_, rfl⟩
    have C16 : Hid (∀ W : World, DOwn W w.heap.size y1 y2 y3 y4 xs xc → Calls Try.prog 16 #[.agg #[.slice y1 xs.length y2, .slice y3 xc.length y4], .int .i64 f] W fun e w' => e = .returned (.tuple #[.string R, .bool H]) ∧ Below W.heap.size W w') := fun W h => by
      rw [hR, hH]
      exact ird21_any xs xc f y1 y3 y2 y4 (by omega) (by omega) (fun s hs => Nat.le_trans (HSxs.out s hs) (by omega)) (fun p hp => Nat.le_trans (HPxs.out p hp) (by omega)) W h.s.srow h.p.prow
    have C15 : Hid (∀ W : World, DOwn W w.heap.size y1 y2 y3 y4 xs xc → Calls Try.prog 15 #[.agg #[.slice y1 xs.length y2, .slice y3 xc.length y4], .int .i64 f] W fun e w' => e = .returned (.tuple #[.string R, .bool H]) ∧ Below W.heap.size W w') := fun W h => by
      rw [hR, hH]
      exact srd20_any xs xc f y1 y3 y2 y4 (by omega) (by omega) W h.s.srow h.p.prow
    clear hR hH
    have g0 := HX2.out.c0
    have g1 := HX2.out.c1
    go_wp2_with fail
    refine (C16.out _ HE2.out).mono ?_
    rintro e w3 ⟨rfl, hb3⟩
    have HB3 : Hid (Below w.heap.size w w3) := HB2.out.trans (hb3.mono HB2.out.size)
    have HA3 : Hid (Bx w3 w1.heap.size (.slice x1 ss.length x2) (.slice x3 cur.length x4)) := HA2.out.keep hb3 HA2.out.lt
    have HD3 : Hid (DOwn w3 w.heap.size x1 x2 x3 x4 ss cur) := HD2.out.below hb3
    have HX3 : Hid (Bx w3 w2.heap.size (.slice y1 xs.length y2) (.slice y3 xc.length y4)) := HX2.out.keep hb3 HX2.out.lt
    have HE3 : Hid (DOwn w3 w.heap.size y1 y2 y3 y4 xs xc) := HE2.out.below hb3
    clear hb3 HB2 HA2 HD2 HX2 HE2 g0 g1
    generalize w1.heap.size = A at *
    generalize w2.heap.size = B at *
    have g0 := HX3.out.c0
    have g1 := HX3.out.c1
    go_wp2_with fail
    refine (C15.out _ HE3.out).mono ?_
    rintro e w4 ⟨rfl, hb4⟩
    have HB4 : Hid (Below w.heap.size w w4) := HB3.out.trans (hb4.mono HB3.out.size)
    have HA4 : Hid (Bx w4 A (.slice x1 ss.length x2) (.slice x3 cur.length x4)) := HA3.out.keep hb4 HA3.out.lt
    have HD4 : Hid (DOwn w4 w.heap.size x1 x2 x3 x4 ss cur) := HD3.out.below hb4
    clear hb4 HB3 HA3 HD3 HX3 HE3 g0 g1
    go_wp2_with fail
    refine (dst25 len cap a hbig _ (HR.out.below HB4.out)).mono ?_
    rintro e w5 ⟨ys, yc, u1, u2, u3, u4, f5, n5, rfl, hd5, hI5, hf5, hb5⟩
    have HI5 : Hid (DaI ys yc) := hI5
    have HF5 : Hid (-9223372036854775808 ≤ f5 ∧ f5 ≤ 9223372036854775807) := hf5
    have b5a : Below w4.heap.size w4 (w5.alloc (.cells #[.slice u1 ys.length u2, .slice u3 yc.length u4] 27)) := hb5.alloc hb5.size _
    have HB5 : Hid (Below w.heap.size w (w5.alloc (.cells #[.slice u1 ys.length u2, .slice u3 yc.length u4] 27))) := HB4.out.trans (b5a.mono HB4.out.size)
    have HA5 : Hid (Bx (w5.alloc (.cells #[.slice u1 ys.length u2, .slice u3 yc.length u4] 27)) A (.slice x1 ss.length x2) (.slice x3 cur.length x4)) := HA4.out.keep b5a HA4.out.lt
    have HD5 : Hid (DOwn (w5.alloc (.cells #[.slice u1 ys.length u2, .slice u3 yc.length u4] 27)) w.heap.size x1 x2 x3 x4 ss cur) := HD4.out.below b5a
    have HX5 : Hid (Bx (w5.alloc (.cells #[.slice u1 ys.length u2, .slice u3 yc.length u4] 27)) w5.heap.size (.slice u1 ys.length u2) (.slice u3 yc.length u4)) := Bx.new w5 _ _ 27
    have HE5 : Hid (DOwn (w5.alloc (.cells #[.slice u1 ys.length u2, .slice u3 yc.length u4] 27)) w.heap.size u1 u2 u3 u4 ys yc) := (hd5.mono HB4.out.size).below ((belowRefl w5).alloc (Nat.le_refl _) _)
    clear hd5 hI5 hb5 b5a HB4 HA4 HD4 hf5
    have hsys : ys.length ≤ 6 := HI5.out.1
    have hcys : yc.length ≤ 61 := HI5.out.2.1
    have HSys : Hid (∀ s ∈ ys, s.size ≤ 65) := HI5.out.2.2.1
    have HPys : Hid (∀ p ∈ yc, p.2.size ≤ 65) := HI5.out.2.2.2
    obtain ⟨T, hT⟩ : ∃ T, T = stT ys yc f5 n5 := ⟨_, rfl⟩
    obtain ⟨U, hU⟩ : ∃ U, U = stB ys f5 n5 := ⟨_, rfl⟩
    have C26 : Hid (∀ W : World, DOwn W w.heap.size u1 u2 u3 u4 ys yc → Calls Try.prog 26 #[.agg #[.slice u1 ys.length u2, .slice u3 yc.length u4], .int .i64 f5, .int .i64 n5] W fun e w' => e = .returned (.tuple #[.string T, .bool U]) ∧ Below W.heap.size W w') := fun W h => by
      rw [hT, hU]
      exact ist32 ys yc f5 n5 u1 u3 u2 u4 HF5.out.1 HF5.out.2 (by omega) (by omega) (fun s hs => Nat.le_trans (HSys.out s hs) (by omega)) (fun p hp => Nat.le_trans (HPys.out p hp) (by omega)) W h.s.srow h.p.prow
    have C27 : Hid (∀ W : World, DOwn W w.heap.size u1 u2 u3 u4 ys yc → Calls Try.prog 27 #[.agg #[.slice u1 ys.length u2, .slice u3 yc.length u4], .int .i64 f5, .int .i64 n5] W fun e w' => e = .returned (.tuple #[.string T, .bool U]) ∧ Below W.heap.size W w') := fun W h => by
      rw [hT, hU]
      exact sst31 ys yc f5 n5 u1 u3 u2 u4 (by omega) (by omega) (fun s hs => Nat.le_trans (HSys.out s hs) (by omega)) (fun p hp => Nat.le_trans (HPys.out p hp) (by omega)) W h.s.srow h.p.prow
    clear hT hU
    have g0 := HX5.out.c0
    have g1 := HX5.out.c1
    go_wp2_with fail
    refine (C26.out _ HE5.out).mono ?_
    rintro e w6 ⟨rfl, hb6⟩
    have HB6 : Hid (Below w.heap.size w w6) := HB5.out.trans (hb6.mono HB5.out.size)
    have HA6 : Hid (Bx w6 A (.slice x1 ss.length x2) (.slice x3 cur.length x4)) := HA5.out.keep hb6 HA5.out.lt
    have HD6 : Hid (DOwn w6 w.heap.size x1 x2 x3 x4 ss cur) := HD5.out.below hb6
    have HX6 : Hid (Bx w6 w5.heap.size (.slice u1 ys.length u2) (.slice u3 yc.length u4)) := HX5.out.keep hb6 HX5.out.lt
    have HE6 : Hid (DOwn w6 w.heap.size u1 u2 u3 u4 ys yc) := HE5.out.below hb6
    clear hb6 HB5 HA5 HD5 HX5 HE5 g0 g1
    generalize w5.heap.size = C at *
    have g0 := HX6.out.c0
    have g1 := HX6.out.c1
    go_wp2_with fail
    refine (C27.out _ HE6.out).mono ?_
    rintro e w7 ⟨rfl, hb7⟩
    have HB7 : Hid (Below w.heap.size w w7) := HB6.out.trans (hb7.mono HB6.out.size)
    have HA7 : Hid (Bx w7 A (.slice x1 ss.length x2) (.slice x3 cur.length x4)) := HA6.out.keep hb7 HA6.out.lt
    have HD7 : Hid (DOwn w7 w.heap.size x1 x2 x3 x4 ss cur) := HD6.out.below hb7
    clear hb7 HB6 HA6 HD6 HX6 HE6 g0 g1
    go_wp2_with fail
    refine (new3 _).mono ?_
    rintro e w8 ⟨z1, z2, z3, z4, rfl, hb8⟩
    have b8a : Below w7.heap.size w7 (w8.alloc (.cells #[.slice z1 3 z2, .slice z3 0 z4] 27)) := hb8.alloc hb8.size _
    have HB8 : Hid (Below w.heap.size w (w8.alloc (.cells #[.slice z1 3 z2, .slice z3 0 z4] 27))) := HB7.out.trans (b8a.mono HB7.out.size)
    have HA8 : Hid (Bx (w8.alloc (.cells #[.slice z1 3 z2, .slice z3 0 z4] 27)) A (.slice x1 ss.length x2) (.slice x3 cur.length x4)) := HA7.out.keep b8a HA7.out.lt
    have HD8 : Hid (DOwn (w8.alloc (.cells #[.slice z1 3 z2, .slice z3 0 z4] 27)) w.heap.size x1 x2 x3 x4 ss cur) := HD7.out.below b8a
    have HZ8 : Hid (Bx (w8.alloc (.cells #[.slice z1 3 z2, .slice z3 0 z4] 27)) w8.heap.size (.slice z1 3 z2) (.slice z3 0 z4)) := Bx.new w8 _ _ 27
    clear hb8 b8a HB7 HA7 HD7
    go_wp2_with fail
    refine (new0 _).mono ?_
    rintro e w9 ⟨v1, v2, v3, v4, rfl, hb9⟩
    have b9a := hb9.alloc hb9.size (.cells #[.slice v1 0 v2, .slice v3 0 v4] 27)
    have HB9 : Hid (Below w.heap.size w (w9.alloc (.cells #[.slice v1 0 v2, .slice v3 0 v4] 27))) := HB8.out.trans (b9a.mono HB8.out.size)
    have HA9 : Hid (Bx (w9.alloc (.cells #[.slice v1 0 v2, .slice v3 0 v4] 27)) A (.slice x1 ss.length x2) (.slice x3 cur.length x4)) := HA8.out.keep b9a HA8.out.lt
    have HD9 : Hid (DOwn (w9.alloc (.cells #[.slice v1 0 v2, .slice v3 0 v4] 27)) w.heap.size x1 x2 x3 x4 ss cur) := HD8.out.below b9a
    have HZ9 : Hid (Bx (w9.alloc (.cells #[.slice v1 0 v2, .slice v3 0 v4] 27)) w8.heap.size (.slice z1 3 z2) (.slice z3 0 z4)) := HZ8.out.keep b9a HZ8.out.lt
    clear hb9 b9a HB8 HA8 HD8 HZ8
    go_wp2
    generalize (w9.alloc (.cells #[.slice v1 0 v2, .slice v3 0 v4] 27)) = W9 at *
    generalize w8.heap.size = Z at *
    have hA9 := HA9.out.lt
    have hZ9 := HZ9.out.lt
    obtain ⟨O, hO⟩ : ∃ O, O = okB ss cur := ⟨_, rfl⟩
    obtain ⟨F, hF⟩ : ∃ F, F = flS ss cur := ⟨_, rfl⟩
    obtain ⟨P, hP⟩ : ∃ P, P = flP ss cur := ⟨_, rfl⟩
    have hFl : F.length ≤ 6 := by
      have h : F.length = ss.length := by
        rw [hF]
        unfold flS
        split
        · rw [flush_len]
        · rfl
      omega
    have hPl : P.length ≤ 61 := by
      rw [hP]
      unfold flP
      split
      · simp
      · omega
    have AG : Hid (∀ W : World, Below W9.heap.size W9 W → DOwn W w.heap.size x1 x2 x3 x4 ss cur) := fun W h => HD9.out.below h
    have C17 : Hid (∀ W : World, Below W9.heap.size W9 W → Calls Try.prog 17 #[.agg #[.slice x1 ss.length x2, .slice x3 cur.length x4]] W fun e w' => e = .returned (.bool O) ∧ Below W.heap.size W w') := fun W h => by
      rw [hO]
      exact iok22 ss cur x1 x3 x2 x4 (by omega) (by omega) W (AG.out W h).s.srow (AG.out W h).p.prow
    have C29 : Hid (∀ W : World, Below W9.heap.size W9 W → Calls Try.prog 29 #[.agg #[.slice x1 ss.length x2, .slice x3 cur.length x4]] W fun e w' => e = .returned (.bool O) ∧ Below W.heap.size W w') := fun W h => by
      rw [hO]
      exact sok37 ss cur x1 x3 x2 x4 (by omega) (by omega) W (AG.out W h).s.srow (AG.out W h).p.prow
    have C14 : Hid (∀ W : World, Below W9.heap.size W9 W → Calls Try.prog 14 #[.agg #[.slice x1 ss.length x2, .slice x3 cur.length x4]] W fun e w' => ∃ f1 f2 f3 f4, e = .returned (.agg #[.slice f1 F.length f2, .slice f3 P.length f4]) ∧ DOwn w' W.heap.size f1 f2 f3 f4 F P ∧ Below W.heap.size W w') := fun W h => by
      rw [hF, hP]
      exact iflush19 ss cur x1 x3 x2 x4 (by omega) (by omega) (fun s hs => Nat.le_trans (HSss.out s hs) (by omega)) (fun p hp => Nat.le_trans (HPss.out p hp) (by omega)) W (AG.out W h).s.srow (AG.out W h).p.prow
    have C30 : Hid (∀ W : World, Below W9.heap.size W9 W → Calls Try.prog 30 #[.agg #[.slice x1 ss.length x2, .slice x3 cur.length x4]] W fun e w' => ∃ f1 f2 f3 f4, e = .returned (.agg #[.slice f1 F.length f2, .slice f3 P.length f4]) ∧ DOwn w' W.heap.size f1 f2 f3 f4 F P ∧ Below W.heap.size W w') := fun W h => by
      rw [hF, hP]
      exact sflush38 ss cur x1 x3 x2 x4 _ (by omega) (by omega) W (AG.out W h)
    clear hO hF hP
    try simp only [List.append_eq, List.cons_append, List.nil_append]
    refine wp_region_held_drew (S := fun w' => w'.cell? ⟨A, 0, none⟩ = some (.slice x1 ss.length x2) ∧ w'.cell? ⟨A, 1, none⟩ = some (.slice x3 cur.length x4) ∧ w'.cell? ⟨Z, 0, none⟩ = some (.slice z1 3 z2)) (by kernel_rfl) ⟨HA9.out.c0, HA9.out.c1, HZ9.out.c0⟩ (fun hHeld => ?_)
    (refine wpAnyH_take (i := 0) (v := ?_) rfl (by kernel_rfl) (by kernel_rfl) (by kernel_rfl) (fun _ _ _ h => h) (Or.inl ⟨by rfl, ?_⟩) (by assumption) ?_; rotate_left; (focus (intro w hSw; (try dsimp only at hSw); go_simp; (try with_reducible rfl); done)); simp only [Act.put, List.getElem_toArray, List.getElem_cons_zero, List.setIfInBounds_toArray, List.set_cons_zero, List.set_cons_succ])
    (refine wpAnyH_take (i := 2) (v := ?_) rfl (by kernel_rfl) (by kernel_rfl) (by kernel_rfl) (fun _ _ _ h => h) (Or.inl ⟨by rfl, ?_⟩) (by assumption) ?_; rotate_left; (focus (intro w hSw; (try dsimp only at hSw); go_simp; (try with_reducible rfl); done)); simp only [Act.put, List.getElem_toArray, List.getElem_cons_zero, List.getElem_cons_succ, List.setIfInBounds_toArray, List.set_cons_zero, List.set_cons_succ])
    refine wpAnyH_ready (rs := [1]) (by kernel_rfl) (by simp) ?_
    refine AllReadyH.cons rfl (fun K hK => ?_) AllReadyH.nil
    go_simp
    go_wp2_with fail
    refine (C17.out _ ((belowRefl W9).drew)).mono ?_
    rintro e v1w ⟨rfl, hbb⟩
    have BB1 : Hid (Below W9.heap.size W9 v1w) := undrew hbb
    have HA1z : Hid (Bx v1w A (.slice x1 ss.length x2) (.slice x3 cur.length x4)) := HA9.out.keep BB1.out hA9
    have HZ1z : Hid (Bx v1w Z (.slice z1 3 z2) (.slice z3 0 z4)) := HZ9.out.keep BB1.out hZ9
    clear hbb
    go_wp2_with fail
    refine hK.out _ _ ⟨HA1z.out.c0, HA1z.out.c1, HZ1z.out.c0⟩ (fun hHeldz1 => ?_)
    clear hK K
    refine wpAnyH_ready (rs := [3]) (by kernel_rfl) (by simp) ?_
    refine AllReadyH.cons rfl (fun K hK => ?_) AllReadyH.nil
    go_simp
    go_wp2_with fail
    refine (C29.out _ BB1.out).mono ?_
    rintro e v2w ⟨rfl, hbb⟩
    have BB2 : Hid (Below W9.heap.size W9 v2w) := BB1.out.trans (hbb.mono BB1.out.size)
    have HA2z : Hid (Bx v2w A (.slice x1 ss.length x2) (.slice x3 cur.length x4)) := HA9.out.keep BB2.out hA9
    have HZ2z : Hid (Bx v2w Z (.slice z1 3 z2) (.slice z3 0 z4)) := HZ9.out.keep BB2.out hZ9
    clear hbb
    go_wp2_with fail
    refine hK.out _ _ ⟨HA2z.out.c0, HA2z.out.c1, HZ2z.out.c0⟩ (fun hHeldz2 => ?_)
    clear hK K
    (refine wpAnyH_take (i := 4) (v := ?_) rfl (by kernel_rfl) (by kernel_rfl) (by kernel_rfl) (fun _ _ _ h => h) (Or.inl ⟨by rfl, ?_⟩) (by assumption) ?_; rotate_left; (focus (intro w hSw; (try dsimp only at hSw); go_simp; (try with_reducible rfl); done)); simp only [Act.put, List.getElem_toArray, List.getElem_cons_zero, List.getElem_cons_succ, List.setIfInBounds_toArray, List.set_cons_zero, List.set_cons_succ])
    (refine wpAnyH_take (i := 5) (v := ?_) rfl (by kernel_rfl) (by kernel_rfl) (by kernel_rfl) (fun _ _ _ h => h) (Or.inl ⟨by rfl, ?_⟩) (by assumption) ?_; rotate_left; (focus (intro w hSw; (try dsimp only at hSw); go_simp; (try with_reducible rfl); done)); simp only [Act.put, List.getElem_toArray, List.getElem_cons_zero, List.getElem_cons_succ, List.setIfInBounds_toArray, List.set_cons_zero, List.set_cons_succ])
    (refine wpAnyH_take (i := 6) (v := ?_) rfl (by kernel_rfl) (by kernel_rfl) (by kernel_rfl) (fun _ _ _ h => h) (Or.inl ⟨by rfl, ?_⟩) (by assumption) ?_; rotate_left; (focus (intro w hSw; (try dsimp only at hSw); go_simp; (try with_reducible rfl); done)); simp only [Act.put, List.getElem_toArray, List.getElem_cons_zero, List.getElem_cons_succ, List.setIfInBounds_toArray, List.set_cons_zero, List.set_cons_succ])
    (refine wpAnyH_take (i := 7) (v := ?_) rfl (by kernel_rfl) (by kernel_rfl) (by kernel_rfl) (fun _ _ _ h => h) (Or.inl ⟨by rfl, ?_⟩) (by assumption) ?_; rotate_left; (focus (intro w hSw; (try dsimp only at hSw); go_simp; (try with_reducible rfl); done)); simp only [Act.put, List.getElem_toArray, List.getElem_cons_zero, List.getElem_cons_succ, List.setIfInBounds_toArray, List.set_cons_zero, List.set_cons_succ])
    (refine wpAnyH_take (i := 8) (v := ?_) rfl (by kernel_rfl) (by kernel_rfl) (by kernel_rfl) (fun _ _ _ h => h) (Or.inl ⟨by rfl, ?_⟩) (by assumption) ?_; rotate_left; (focus (intro w hSw; (try dsimp only at hSw); go_simp; (try with_reducible rfl); done)); simp only [Act.put, List.getElem_toArray, List.getElem_cons_zero, List.getElem_cons_succ, List.setIfInBounds_toArray, List.set_cons_zero, List.set_cons_succ])
    (refine wpAnyH_take (i := 9) (v := ?_) rfl (by kernel_rfl) (by kernel_rfl) (by kernel_rfl) (fun _ _ _ h => h) (Or.inl ⟨by rfl, ?_⟩) (by assumption) ?_; rotate_left; (focus (intro w hSw; (try dsimp only at hSw); go_simp; (try with_reducible rfl); done)); simp only [Act.put, List.getElem_toArray, List.getElem_cons_zero, List.getElem_cons_succ, List.setIfInBounds_toArray, List.set_cons_zero, List.set_cons_succ])
    (refine wpAnyH_take (i := 10) (v := ?_) rfl (by kernel_rfl) (by kernel_rfl) (by kernel_rfl) (fun _ _ _ h => h) (Or.inl ⟨by rfl, ?_⟩) (by assumption) ?_; rotate_left; (focus (intro w hSw; (try dsimp only at hSw); go_simp; (try with_reducible rfl); done)); simp only [Act.put, List.getElem_toArray, List.getElem_cons_zero, List.getElem_cons_succ, List.setIfInBounds_toArray, List.set_cons_zero, List.set_cons_succ])
    (refine wpAnyH_take (i := 11) (v := ?_) rfl (by kernel_rfl) (by kernel_rfl) (by kernel_rfl) (fun _ _ _ h => h) (Or.inl ⟨by rfl, ?_⟩) (by assumption) ?_; rotate_left; (focus (intro w hSw; (try dsimp only at hSw); go_simp; (try with_reducible rfl); done)); simp only [Act.put, List.getElem_toArray, List.getElem_cons_zero, List.getElem_cons_succ, List.setIfInBounds_toArray, List.set_cons_zero, List.set_cons_succ])
    (refine wpAnyH_take (i := 12) (v := ?_) rfl (by kernel_rfl) (by kernel_rfl) (by kernel_rfl) (fun _ _ _ h => h) (Or.inl ⟨by rfl, ?_⟩) (by assumption) ?_; rotate_left; (focus (intro w hSw; (try dsimp only at hSw); go_simp; (try with_reducible rfl); done)); simp only [Act.put, List.getElem_toArray, List.getElem_cons_zero, List.getElem_cons_succ, List.setIfInBounds_toArray, List.set_cons_zero, List.set_cons_succ])
    (refine wpAnyH_take (i := 13) (v := ?_) rfl (by kernel_rfl) (by kernel_rfl) (by kernel_rfl) (fun _ _ _ h => h) (Or.inl ⟨by rfl, ?_⟩) (by assumption) ?_; rotate_left; (focus (intro w hSw; (try dsimp only at hSw); go_simp; (try with_reducible rfl); done)); simp only [Act.put, List.getElem_toArray, List.getElem_cons_zero, List.getElem_cons_succ, List.setIfInBounds_toArray, List.set_cons_zero, List.set_cons_succ])
    (refine wpAnyH_take (i := 14) (v := ?_) rfl (by kernel_rfl) (by kernel_rfl) (by kernel_rfl) (fun _ _ _ h => h) (Or.inl ⟨by rfl, ?_⟩) (by assumption) ?_; rotate_left; (focus (intro w hSw; (try dsimp only at hSw); go_simp; (try with_reducible rfl); done)); simp only [Act.put, List.getElem_toArray, List.getElem_cons_zero, List.getElem_cons_succ, List.setIfInBounds_toArray, List.set_cons_zero, List.set_cons_succ])
    (refine wpAnyH_take (i := 15) (v := ?_) rfl (by kernel_rfl) (by kernel_rfl) (by kernel_rfl) (fun _ _ _ h => h) (Or.inl ⟨by rfl, ?_⟩) (by assumption) ?_; rotate_left; (focus (intro w hSw; (try dsimp only at hSw); go_simp; (try with_reducible rfl); done)); simp only [Act.put, List.getElem_toArray, List.getElem_cons_zero, List.getElem_cons_succ, List.setIfInBounds_toArray, List.set_cons_zero, List.set_cons_succ])
    (refine wpAnyH_take (i := 16) (v := ?_) rfl (by kernel_rfl) (by kernel_rfl) (by kernel_rfl) (fun _ _ _ h => h) (Or.inl ⟨by rfl, ?_⟩) (by assumption) ?_; rotate_left; (focus (intro w hSw; (try dsimp only at hSw); go_simp; (try with_reducible rfl); done)); simp only [Act.put, List.getElem_toArray, List.getElem_cons_zero, List.getElem_cons_succ, List.setIfInBounds_toArray, List.set_cons_zero, List.set_cons_succ])
    (refine wpAnyH_take (i := 17) (v := ?_) rfl (by kernel_rfl) (by kernel_rfl) (by kernel_rfl) (fun _ _ _ h => h) (Or.inl ⟨by rfl, ?_⟩) (by assumption) ?_; rotate_left; (focus (intro w hSw; (try dsimp only at hSw); go_simp; (try with_reducible rfl); done)); simp only [Act.put, List.getElem_toArray, List.getElem_cons_zero, List.getElem_cons_succ, List.setIfInBounds_toArray, List.set_cons_zero, List.set_cons_succ])
    (refine wpAnyH_take (i := 18) (v := ?_) rfl (by kernel_rfl) (by kernel_rfl) (by kernel_rfl) (fun _ _ _ h => h) (Or.inl ⟨by rfl, ?_⟩) (by assumption) ?_; rotate_left; (focus (intro w hSw; (try dsimp only at hSw); go_simp; (try with_reducible rfl); done)); simp only [Act.put, List.getElem_toArray, List.getElem_cons_zero, List.getElem_cons_succ, List.setIfInBounds_toArray, List.set_cons_zero, List.set_cons_succ])
    (refine wpAnyH_take (i := 19) (v := ?_) rfl (by kernel_rfl) (by kernel_rfl) (by kernel_rfl) (fun _ _ _ h => h) (Or.inl ⟨by rfl, ?_⟩) (by assumption) ?_; rotate_left; (focus (intro w hSw; (try dsimp only at hSw); go_simp; (try with_reducible rfl); done)); simp only [Act.put, List.getElem_toArray, List.getElem_cons_zero, List.getElem_cons_succ, List.setIfInBounds_toArray, List.set_cons_zero, List.set_cons_succ])
    (refine wpAnyH_take (i := 20) (v := ?_) rfl (by kernel_rfl) (by kernel_rfl) (by kernel_rfl) (fun _ _ _ h => h) (Or.inl ⟨by rfl, ?_⟩) (by assumption) ?_; rotate_left; (focus (intro w hSw; (try dsimp only at hSw); go_simp; (try with_reducible rfl); done)); simp only [Act.put, List.getElem_toArray, List.getElem_cons_zero, List.getElem_cons_succ, List.setIfInBounds_toArray, List.set_cons_zero, List.set_cons_succ])
    (refine wpAnyH_take (i := 21) (v := ?_) rfl (by kernel_rfl) (by kernel_rfl) (by kernel_rfl) (fun _ _ _ h => h) (Or.inl ⟨by rfl, ?_⟩) (by assumption) ?_; rotate_left; (focus (intro w hSw; (try dsimp only at hSw); go_simp; (try with_reducible rfl); done)); simp only [Act.put, List.getElem_toArray, List.getElem_cons_zero, List.getElem_cons_succ, List.setIfInBounds_toArray, List.set_cons_zero, List.set_cons_succ])
    (refine wpAnyH_take (i := 22) (v := ?_) rfl (by kernel_rfl) (by kernel_rfl) (by kernel_rfl) (fun _ _ _ h => h) (Or.inl ⟨by rfl, ?_⟩) (by assumption) ?_; rotate_left; (focus (intro w hSw; (try dsimp only at hSw); go_simp; (try with_reducible rfl); done)); simp only [Act.put, List.getElem_toArray, List.getElem_cons_zero, List.getElem_cons_succ, List.setIfInBounds_toArray, List.set_cons_zero, List.set_cons_succ])
    (refine wpAnyH_take (i := 23) (v := ?_) rfl (by kernel_rfl) (by kernel_rfl) (by kernel_rfl) (fun _ _ _ h => h) (Or.inl ⟨by rfl, ?_⟩) (by assumption) ?_; rotate_left; (focus (intro w hSw; (try dsimp only at hSw); go_simp; (try with_reducible rfl); done)); simp only [Act.put, List.getElem_toArray, List.getElem_cons_zero, List.getElem_cons_succ, List.setIfInBounds_toArray, List.set_cons_zero, List.set_cons_succ])
    (refine wpAnyH_take (i := 24) (v := ?_) rfl (by kernel_rfl) (by kernel_rfl) (by kernel_rfl) (fun _ _ _ h => h) (Or.inl ⟨by rfl, ?_⟩) (by assumption) ?_; rotate_left; (focus (intro w hSw; (try dsimp only at hSw); go_simp; (try with_reducible rfl); done)); simp only [Act.put, List.getElem_toArray, List.getElem_cons_zero, List.getElem_cons_succ, List.setIfInBounds_toArray, List.set_cons_zero, List.set_cons_succ])
    (refine wpAnyH_take (i := 25) (v := ?_) rfl (by kernel_rfl) (by kernel_rfl) (by kernel_rfl) (fun _ _ _ h => h) (Or.inl ⟨by rfl, ?_⟩) (by assumption) ?_; rotate_left; (focus (intro w hSw; (try dsimp only at hSw); go_simp; (try with_reducible rfl); done)); simp only [Act.put, List.getElem_toArray, List.getElem_cons_zero, List.getElem_cons_succ, List.setIfInBounds_toArray, List.set_cons_zero, List.set_cons_succ])
    (refine wpAnyH_take (i := 26) (v := ?_) rfl (by kernel_rfl) (by kernel_rfl) (by kernel_rfl) (fun _ _ _ h => h) (Or.inl ⟨by rfl, ?_⟩) (by assumption) ?_; rotate_left; (focus (intro w hSw; (try dsimp only at hSw); go_simp; (try with_reducible rfl); done)); simp only [Act.put, List.getElem_toArray, List.getElem_cons_zero, List.getElem_cons_succ, List.setIfInBounds_toArray, List.set_cons_zero, List.set_cons_succ])
    (refine wpAnyH_take (i := 28) (v := ?_) rfl (by kernel_rfl) (by kernel_rfl) (by kernel_rfl) (fun _ _ _ h => h) (Or.inl ⟨by rfl, ?_⟩) (by assumption) ?_; rotate_left; (focus (intro w hSw; (try dsimp only at hSw); go_simp; (try with_reducible rfl); done)); simp only [Act.put, List.getElem_toArray, List.getElem_cons_zero, List.getElem_cons_succ, List.setIfInBounds_toArray, List.set_cons_zero, List.set_cons_succ])
    refine wpAnyH_ready (rs := [27]) (by kernel_rfl) (by simp) ?_
    refine AllReadyH.cons rfl (fun K hK => ?_) AllReadyH.nil
    go_simp
    go_wp2_with fail
    refine (C14.out _ BB2.out).mono ?_
    rintro e v3w ⟨m1, m2, m3, m4, rfl, hdm, hbb⟩
    have DM : Hid (DOwn v3w 0 m1 m2 m3 m4 F P) := hdm.mono (Nat.zero_le _)
    clear hdm
    have BB3 : Hid (Below W9.heap.size W9 v3w) := BB2.out.trans (hbb.mono BB2.out.size)
    have HA3z : Hid (Bx v3w A (.slice x1 ss.length x2) (.slice x3 cur.length x4)) := HA9.out.keep BB3.out hA9
    have HZ3z : Hid (Bx v3w Z (.slice z1 3 z2) (.slice z3 0 z4)) := HZ9.out.keep BB3.out hZ9
    clear hbb
    go_wp2_with fail
    refine hK.out _ _ ⟨HA3z.out.c0, HA3z.out.c1, HZ3z.out.c0⟩ (fun hHeldz3 => ?_)
    clear hK K
    refine wpAnyH_ready (rs := [29]) (by kernel_rfl) (by simp) ?_
    refine AllReadyH.cons rfl (fun K hK => ?_) AllReadyH.nil
    go_simp
    go_wp2_with fail
    refine (C30.out _ BB3.out).mono ?_
    rintro e v4w ⟨k1, k2, k3, k4, rfl, hdk, hbb⟩
    have DK : Hid (DOwn v4w 0 k1 k2 k3 k4 F P) := hdk.mono (Nat.zero_le _)
    have DM2 : Hid (DOwn v4w 0 m1 m2 m3 m4 F P) := DM.out.below hbb
    clear hdk
    have BB4 : Hid (Below W9.heap.size W9 v4w) := BB3.out.trans (hbb.mono BB3.out.size)
    have HA4z : Hid (Bx v4w A (.slice x1 ss.length x2) (.slice x3 cur.length x4)) := HA9.out.keep BB4.out hA9
    have HZ4z : Hid (Bx v4w Z (.slice z1 3 z2) (.slice z3 0 z4)) := HZ9.out.keep BB4.out hZ9
    clear hbb
    go_wp2_with fail
    refine hK.out _ _ ⟨HA4z.out.c0, HA4z.out.c1, HZ4z.out.c0⟩ (fun hHeldz4 => ?_)
    clear hK K
    refine wpAnyH_ready (rs := [30]) (by kernel_rfl) (by simp) ?_
    refine AllReadyH.cons rfl (fun K hK => ?_) AllReadyH.nil
    go_simp
    go_wp2_with fail
    refine (same21 F P m1 m3 k1 k3 m2 m4 k2 k4 (by omega) (by omega) _ DM2.out.s.srow DM2.out.p.prow DK.out.s.srow DK.out.p.prow).mono ?_
    rintro e v5w ⟨rfl, hbb⟩
    have BB5 : Hid (Below W9.heap.size W9 v5w) := BB4.out.trans (hbb.mono BB4.out.size)
    have HA5z : Hid (Bx v5w A (.slice x1 ss.length x2) (.slice x3 cur.length x4)) := HA9.out.keep BB5.out hA9
    have HZ5z : Hid (Bx v5w Z (.slice z1 3 z2) (.slice z3 0 z4)) := HZ9.out.keep BB5.out hZ9
    clear hbb
    go_wp2_with fail
    refine hK.out _ _ ⟨HA5z.out.c0, HA5z.out.c1, HZ5z.out.c0⟩ (fun hHeldz5 => ?_)
    clear hK K
    (refine wpAnyH_take (i := 31) (v := ?_) rfl (by kernel_rfl) (by kernel_rfl) (by kernel_rfl) (fun _ _ _ h => h) (Or.inl ⟨by rfl, ?_⟩) (by assumption) ?_; rotate_left; (focus (intro w hSw; (try dsimp only at hSw); go_simp; (try with_reducible rfl); done)); simp only [Act.put, List.getElem_toArray, List.getElem_cons_zero, List.getElem_cons_succ, List.setIfInBounds_toArray, List.set_cons_zero, List.set_cons_succ])
    (refine wpAnyH_take (i := 32) (v := ?_) rfl (by kernel_rfl) (by kernel_rfl) (by kernel_rfl) (fun _ _ _ h => h) (Or.inl ⟨by rfl, ?_⟩) (by assumption) ?_; rotate_left; (focus (intro w hSw; (try dsimp only at hSw); go_simp; (try with_reducible rfl); done)); simp only [Act.put, List.getElem_toArray, List.getElem_cons_zero, List.getElem_cons_succ, List.setIfInBounds_toArray, List.set_cons_zero, List.set_cons_succ])
    (refine wpAnyH_take (i := 33) (v := ?_) rfl (by kernel_rfl) (by kernel_rfl) (by kernel_rfl) (fun _ _ _ h => h) (Or.inl ⟨by rfl, ?_⟩) (by assumption) ?_; rotate_left; (focus (intro w hSw; (try dsimp only at hSw); go_simp; (try with_reducible rfl); done)); simp only [Act.put, List.getElem_toArray, List.getElem_cons_zero, List.getElem_cons_succ, List.setIfInBounds_toArray, List.set_cons_zero, List.set_cons_succ])
    (refine wpAnyH_take (i := 34) (v := ?_) rfl (by kernel_rfl) (by kernel_rfl) (by kernel_rfl) (fun _ _ _ h => h) (Or.inl ⟨by rfl, ?_⟩) (by assumption) ?_; rotate_left; (focus (intro w hSw; (try dsimp only at hSw); go_simp; (try with_reducible rfl); done)); simp only [Act.put, List.getElem_toArray, List.getElem_cons_zero, List.getElem_cons_succ, List.setIfInBounds_toArray, List.set_cons_zero, List.set_cons_succ])
    (refine wpAnyH_take (i := 35) (v := ?_) rfl (by kernel_rfl) (by kernel_rfl) (by kernel_rfl) (fun _ _ _ h => h) (Or.inl ⟨by rfl, ?_⟩) (by assumption) ?_; rotate_left; (focus (intro w hSw; (try dsimp only at hSw); go_simp; (try with_reducible rfl); done)); simp only [Act.put, List.getElem_toArray, List.getElem_cons_zero, List.getElem_cons_succ, List.setIfInBounds_toArray, List.set_cons_zero, List.set_cons_succ])
    (refine wpAnyH_take (i := 36) (v := ?_) rfl (by kernel_rfl) (by kernel_rfl) (by kernel_rfl) (fun _ _ _ h => h) (Or.inl ⟨by rfl, ?_⟩) (by assumption) ?_; rotate_left; (focus (intro w hSw; (try dsimp only at hSw); go_simp; (try with_reducible rfl); done)); simp only [Act.put, List.getElem_toArray, List.getElem_cons_zero, List.getElem_cons_succ, List.setIfInBounds_toArray, List.set_cons_zero, List.set_cons_succ])
    (refine wpAnyH_take (i := 37) (v := ?_) rfl (by kernel_rfl) (by kernel_rfl) (by kernel_rfl) (fun _ _ _ h => h) (Or.inl ⟨by rfl, ?_⟩) (by assumption) ?_; rotate_left; (focus (intro w hSw; (try dsimp only at hSw); go_simp; (try with_reducible rfl); done)); simp only [Act.put, List.getElem_toArray, List.getElem_cons_zero, List.getElem_cons_succ, List.setIfInBounds_toArray, List.set_cons_zero, List.set_cons_succ])
    (refine wpAnyH_take (i := 38) (v := ?_) rfl (by kernel_rfl) (by kernel_rfl) (by kernel_rfl) (fun _ _ _ h => h) (Or.inl ⟨by rfl, ?_⟩) (by assumption) ?_; rotate_left; (focus (intro w hSw; (try dsimp only at hSw); go_simp; (try with_reducible rfl); done)); simp only [Act.put, List.getElem_toArray, List.getElem_cons_zero, List.getElem_cons_succ, List.setIfInBounds_toArray, List.set_cons_zero, List.set_cons_succ])
    (refine wpAnyH_take (i := 39) (v := ?_) rfl (by kernel_rfl) (by kernel_rfl) (by kernel_rfl) (fun _ _ _ h => h) (Or.inl ⟨by rfl, ?_⟩) (by assumption) ?_; rotate_left; (focus (intro w hSw; (try dsimp only at hSw); go_simp; (try with_reducible rfl); done)); simp only [Act.put, List.getElem_toArray, List.getElem_cons_zero, List.getElem_cons_succ, List.setIfInBounds_toArray, List.set_cons_zero, List.set_cons_succ])
    (refine wpAnyH_take (i := 40) (v := ?_) rfl (by kernel_rfl) (by kernel_rfl) (by kernel_rfl) (fun _ _ _ h => h) (Or.inl ⟨by rfl, ?_⟩) (by assumption) ?_; rotate_left; (focus (intro w hSw; (try dsimp only at hSw); go_simp; (try with_reducible rfl); done)); simp only [Act.put, List.getElem_toArray, List.getElem_cons_zero, List.getElem_cons_succ, List.setIfInBounds_toArray, List.set_cons_zero, List.set_cons_succ])
    (refine wpAnyH_take (i := 41) (v := ?_) rfl (by kernel_rfl) (by kernel_rfl) (by kernel_rfl) (fun _ _ _ h => h) (Or.inl ⟨by rfl, ?_⟩) (by assumption) ?_; rotate_left; (focus (intro w hSw; (try dsimp only at hSw); go_simp; (try with_reducible rfl); done)); simp only [Act.put, List.getElem_toArray, List.getElem_cons_zero, List.getElem_cons_succ, List.setIfInBounds_toArray, List.set_cons_zero, List.set_cons_succ])
    (refine wpAnyH_take (i := 42) (v := ?_) rfl (by kernel_rfl) (by kernel_rfl) (by kernel_rfl) (fun _ _ _ h => h) (Or.inl ⟨by rfl, ?_⟩) (by assumption) ?_; rotate_left; (focus (intro w hSw; (try dsimp only at hSw); go_simp; (try with_reducible rfl); done)); simp only [Act.put, List.getElem_toArray, List.getElem_cons_zero, List.getElem_cons_succ, List.setIfInBounds_toArray, List.set_cons_zero, List.set_cons_succ])
    (refine wpAnyH_take (i := 43) (v := ?_) rfl (by kernel_rfl) (by kernel_rfl) (by kernel_rfl) (fun _ _ _ h => h) (Or.inl ⟨by rfl, ?_⟩) (by assumption) ?_; rotate_left; (focus (intro w hSw; (try dsimp only at hSw); go_simp; (try with_reducible rfl); done)); simp only [Act.put, List.getElem_toArray, List.getElem_cons_zero, List.getElem_cons_succ, List.setIfInBounds_toArray, List.set_cons_zero, List.set_cons_succ])
    (refine wpAnyH_take (i := 44) (v := ?_) rfl (by kernel_rfl) (by kernel_rfl) (by kernel_rfl) (fun _ _ _ h => h) (Or.inl ⟨by rfl, ?_⟩) (by assumption) ?_; rotate_left; (focus (intro w hSw; (try dsimp only at hSw); go_simp; (try with_reducible rfl); done)); simp only [Act.put, List.getElem_toArray, List.getElem_cons_zero, List.getElem_cons_succ, List.setIfInBounds_toArray, List.set_cons_zero, List.set_cons_succ])
    (refine wpAnyH_take (i := 45) (v := ?_) rfl (by kernel_rfl) (by kernel_rfl) (by kernel_rfl) (fun _ _ _ h => h) (Or.inl ⟨by rfl, ?_⟩) (by assumption) ?_; rotate_left; (focus (intro w hSw; (try dsimp only at hSw); go_simp; (try with_reducible rfl); done)); simp only [Act.put, List.getElem_toArray, List.getElem_cons_zero, List.getElem_cons_succ, List.setIfInBounds_toArray, List.set_cons_zero, List.set_cons_succ])
    refine wpAnyH_done (by kernel_rfl) ?_ _
    go_wp2
    go_ret
    exact ⟨rfl, HB9.out.trans (BB5.out.mono HB9.out.size)⟩

  · rw [decide_eq_true (by omega)] at HBG
    go_enter Try.func6, Try.ntmps6
    go_wp2_with fail
    refine (HBG.out _).mono ?_
    rintro e w ⟨rfl, rfl⟩
    go_wp2
    go_ret
    exact ⟨rfl, belowRefl w⟩
end Go.Proofs.Ytnfkecefkkdedaa

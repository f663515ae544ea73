/- What stays: ReadyAt of the program, and the law FnExactReadyAt, walked. -/
import Derived.Test.YtnefncmkhgkdnaaB4
import Derived.Test.YtnefncmkhgkdnaaMf
import Derived.Laws.EntriesVeiled
import Derived.Deep.RegionHeld3
import Derived.Deep.Cut
import Derived.Deep.CutRange
namespace Go.Proofs.Ytnefncmkhgkdnaa
open Go.RowKit
open KM
attribute [local go_sem ↓] Go.wp_at_zero Go.wp_at_succ

set_option maxRecDepth 100000 in
set_option maxHeartbeats 2000000 in
theorem byname70 (a : Option Addr) (c n : Nat) (w : World) : Calls Try.prog 70 #[.slice a n c] w fun e w' => e = .returned (.agg #[.slice a n c, .func (.func 107) #[] #[]]) ∧ Below w.heap.size w w' := by
  go_enter Try.func70, Try.ntmps70
  go_wp2
  refine bodyPost_ret (v := .agg #[.slice a n c, .func (.func 107) #[] #[]]) (by simp [results, Try.results70, go_sem]) rfl ⟨rfl, ?_⟩
  exact (belowRefl w).alloc (Nat.le_refl _) _

set_option maxRecDepth 100000 in
set_option maxHeartbeats 2000000 in
theorem place72 (xs : List Ta) (a : Option Addr) (c n : Nat) (s : ByteArray) (hx : n = xs.length) (hn : n ≤ 10000000) (w : World) (hp : TRows w a xs) :
    Calls Try.prog 72 #[.agg #[.slice a n c, .func (.func 107) #[] #[]], .string s] w fun e w' => e = .returned (.int .i64 (idxN (nms xs) s 0)) ∧ Below w.heap.size w w' := by
  have HB0 : Hid (Below w.heap.size w (w.alloc (.cells #[.slice a n c, .func (.func 107) #[] #[]] 85))) := (belowRefl w).alloc (Nat.le_refl _) _
  have BA0 : Hid (Bx (w.alloc (.cells #[.slice a n c, .func (.func 107) #[] #[]] 85)) w.heap.size [.slice a n c, .func (.func 107) #[] #[]]) := Bx.new w [.slice a n c, .func (.func 107) #[] #[]] 85
  have H := hide (keysN xs a c n hx hn (w.alloc (.cells #[.slice a n c, .func (.func 107) #[] #[]] 85)) (hp.below HB0.out))
  have HX : Hid (n = (nms xs).length) := by show _ = _; rw [nms_len, hx]
  clear hp hx
  go_enter Try.func72, Try.ntmps72
  go_wp2_with fail
  refine H.out.mono ?_
  rintro e w1 ⟨a1, c1, rfl, ho, hb1⟩
  have HB1 : Hid (Below w.heap.size w w1) := HB0.out.trans (hb1.mono HB0.out.size)
  have RO : Hid (GRow encS w1 a1 (nms xs)) := by have h := ho; rw [HX.out] at h; exact h.grow
  clear ho hb1
  go_wp2_with fail
  refine (idxS (nms xs) a1 c1 n s HX.out (by omega) _ RO.out).mono ?_
  rintro e w2 ⟨rfl, hb2⟩
  have HB2 : Hid (Below w.heap.size w w2) := HB1.out.trans (hb2.mono HB1.out.size)
  clear hb2
  go_wp2
  go_ret
  exact ⟨rfl, HB2.out⟩

set_option maxRecDepth 100000 in
set_option maxHeartbeats 2000000 in
theorem ireadyat (b : Bb) (nm : ByteArray) (hn : b.qs.length ≤ 10000000) (w : World) (hp : BRows w b) :
    Calls Try.prog 38 #[.agg #[.slice b.va b.vs.length b.vc, .slice b.pa b.ps.length b.pc, .slice b.qa b.qs.length b.qc, .int .i64 b.cs, .int .i64 b.nx], .string nm] w fun e w' => e = .returned (.int .i64 (idxN (nms b.qs) nm 0)) ∧ Below w.heap.size w w' := by
  have HB0 : Hid (Below w.heap.size w (w.alloc (.cells #[.slice b.va b.vs.length b.vc, .slice b.pa b.ps.length b.pc, .slice b.qa b.qs.length b.qc, .int .i64 b.cs, .int .i64 b.nx] 46))) := (belowRefl w).alloc (Nat.le_refl _) _
  have HQ : Hid (TRows w b.qa b.qs) := hp.q
  clear hp
  go_enter Try.func38, Try.ntmps38
  go_wp2_with fail
  refine (byname70 b.qa b.qc b.qs.length _).mono ?_
  rintro e w1 ⟨rfl, hb1⟩
  have HB1 : Hid (Below w.heap.size w w1) := HB0.out.trans (hb1.mono HB0.out.size)
  clear hb1
  go_wp2_with fail
  refine (place72 b.qs b.qa b.qc b.qs.length nm rfl hn _ (HQ.out.below HB1.out)).mono ?_
  rintro e w2 ⟨rfl, hb2⟩
  have HB2 : Hid (Below w.heap.size w w2) := HB1.out.trans (hb2.mono HB1.out.size)
  clear hb2
  go_wp2
  go_ret
  exact ⟨rfl, HB2.out⟩

set_option maxRecDepth 100000 in
set_option maxHeartbeats 4000000 in
theorem law8 (b : Bb) (nm : ByteArray) (w : World) (hpb : BArg w b) (_hnm : nm.size ≤ maxLen) : Calls Try.prog 8 #[.agg #[.slice b.va b.vs.length b.vc, .slice b.pa b.ps.length b.pc, .slice b.qa b.qs.length b.qc, .int .i64 b.cs, .int .i64 b.nx], .string nm] w fun e w' => e = .returned (.bool true) ∧ Below w.heap.size w w' := by
  have HPb : Hid (BArg w b) := hpb
  clear hpb
  have BA : Hid (Bx (w.alloc (.cells #[.slice b.va b.vs.length b.vc, .slice b.pa b.ps.length b.pc, .slice b.qa b.qs.length b.qc, .int .i64 b.cs, .int .i64 b.nx] 53)) w.heap.size [.slice b.va b.vs.length b.vc, .slice b.pa b.ps.length b.pc, .slice b.qa b.qs.length b.qc, .int .i64 b.cs, .int .i64 b.nx]) := Bx.new w [.slice b.va b.vs.length b.vc, .slice b.pa b.ps.length b.pc, .slice b.qa b.qs.length b.qc, .int .i64 b.cs, .int .i64 b.nx] 53
  have HB : Hid (Below w.heap.size w (w.alloc (.cells #[.slice b.va b.vs.length b.vc, .slice b.pa b.ps.length b.pc, .slice b.qa b.qs.length b.qc, .int .i64 b.cs, .int .i64 b.nx] 53))) := (belowRefl w).alloc (Nat.le_refl _) _
  have AB : Hid (BArg (w.alloc (.cells #[.slice b.va b.vs.length b.vc, .slice b.pa b.ps.length b.pc, .slice b.qa b.qs.length b.qc, .int .i64 b.cs, .int .i64 b.nx] 53)) b) := HPb.out.below HB.out

  by_cases hl : (1048576 : Int) < (nm.size : Int)
  · go_enter Try.func8, Try.ntmps8
    go_wp2
    go_ret
    exact ⟨rfl, HB.out⟩
  go_enter Try.func8, Try.ntmps8
  have x0 := BA.out.c0
  have x1 := BA.out.c1
  have x2 := BA.out.c2
  have x3 := BA.out.c3
  have x4 := BA.out.c4
  go_wp2_with fail
  refine (szB b 1048576 (by omega) (by omega) _ AB.out).mono ?_
  rintro e w1 ⟨hb1, lft, rfl, hut, hrt⟩
  replace BA : Hid (Bx w1 w.heap.size [.slice b.va b.vs.length b.vc, .slice b.pa b.ps.length b.pc, .slice b.qa b.qs.length b.qc, .int .i64 b.cs, .int .i64 b.nx]) := BA.out.below hb1
  replace HB : Hid (Below w.heap.size w w1) := HB.out.trans (hb1.mono HB.out.size)
  replace AB : Hid (BArg w1 b) := AB.out.below hb1
  clear hb1 x0 x1 x2 x3 x4
  by_cases hneg : lft < 0
  · clear hrt
    go_wp2
    go_ret
    exact ⟨rfl, HB.out⟩
  have hpost : ¬ lft < 0 := hneg
  have HF : Hid (BFit b) := hrt (by omega)
  clear hrt hneg
  have hql : b.qs.length ≤ 10000000 := Nat.le_trans HF.out.ql (by omega)
  have CS : Hid (∀ (c : Bb) (W : World), BSame b c → BRows W c → Calls Try.prog 37 #[.agg #[.slice c.va c.vs.length c.vc, .slice c.pa c.ps.length c.pc, .slice c.qa c.qs.length c.qc, .int .i64 c.cs, .int .i64 c.nx], .string nm] W fun e w' => e = .returned (.int .i64 (idxN (nms b.qs) nm 0)) ∧ Below W.heap.size W w') := fun c W h1 h2 => by
    have h := sreadyat c nm (by rw [h1.ql]; exact hql) W h2
    rwa [nms_txs, h1.q, ← nms_txs] at h
  have CI : Hid (∀ (c : Bb) (W : World), BSame b c → BRows W c → Calls Try.prog 38 #[.agg #[.slice c.va c.vs.length c.vc, .slice c.pa c.ps.length c.pc, .slice c.qa c.qs.length c.qc, .int .i64 c.cs, .int .i64 c.nx], .string nm] W fun e w' => e = .returned (.int .i64 (idxN (nms b.qs) nm 0)) ∧ Below W.heap.size W w') := fun c W h1 h2 => by
    have h := ireadyat c nm (by rw [h1.ql]; exact hql) W h2
    rwa [nms_txs, h1.q, ← nms_txs] at h
  generalize idxN (nms b.qs) nm 0 = ri at *
  have hbn := ne_self_int ri
  have x0 := BA.out.c0
  have x1 := BA.out.c1
  have x2 := BA.out.c2
  have x3 := BA.out.c3
  have x4 := BA.out.c4
  go_wp2_with fail
  refine (toB b HF.out _ AB.out.rows).mono ?_
  rintro e w2 ⟨c1, rfl, hs1, hl1, hb2⟩
  replace BA : Hid (Bx w2 w.heap.size [.slice b.va b.vs.length b.vc, .slice b.pa b.ps.length b.pc, .slice b.qa b.qs.length b.qc, .int .i64 b.cs, .int .i64 b.nx]) := BA.out.below hb2
  replace HB : Hid (Below w.heap.size w w2) := HB.out.trans (hb2.mono HB.out.size)
  replace AB : Hid (BArg w2 b) := AB.out.below hb2
  clear hb2 x0 x1 x2 x3 x4
  have CS1 : Hid (BSame b c1) := hs1
  have R1 : Hid (BRows w2 c1) := hl1.rows
  clear hs1 hl1
  go_wp2_with fail
  refine (CS.out c1 _ CS1.out R1.out).mono ?_
  rintro e w3 ⟨rfl, hb3⟩
  replace BA : Hid (Bx w3 w.heap.size [.slice b.va b.vs.length b.vc, .slice b.pa b.ps.length b.pc, .slice b.qa b.qs.length b.qc, .int .i64 b.cs, .int .i64 b.nx]) := BA.out.below hb3
  replace HB : Hid (Below w.heap.size w w3) := HB.out.trans (hb3.mono HB.out.size)
  replace AB : Hid (BArg w3 b) := AB.out.below hb3
  replace R1 : Hid (BRows w3 c1) := R1.out.below hb3
  clear hb3
  clear R1
  have x0 := BA.out.c0
  have x1 := BA.out.c1
  have x2 := BA.out.c2
  have x3 := BA.out.c3
  have x4 := BA.out.c4
  go_wp2_with fail
  refine (toB b HF.out _ AB.out.rows).mono ?_
  rintro e w4 ⟨c2, rfl, hs2, hl2, hb4⟩
  replace BA : Hid (Bx w4 w.heap.size [.slice b.va b.vs.length b.vc, .slice b.pa b.ps.length b.pc, .slice b.qa b.qs.length b.qc, .int .i64 b.cs, .int .i64 b.nx]) := BA.out.below hb4
  replace HB : Hid (Below w.heap.size w w4) := HB.out.trans (hb4.mono HB.out.size)
  replace AB : Hid (BArg w4 b) := AB.out.below hb4
  clear hb4 x0 x1 x2 x3 x4
  have CS2 : Hid (BSame b c2) := hs2
  have R2 : Hid (BRows w4 c2) := hl2.rows
  clear hs2 hl2
  have hba : Below w4.heap.size w4 (w4.alloc (.cells #[.slice c2.va c2.vs.length c2.vc, .slice c2.pa c2.ps.length c2.pc, .slice c2.qa c2.qs.length c2.qc, .int .i64 c2.cs, .int .i64 c2.nx] 46)) := (belowRefl w4).alloc (Nat.le_refl _) _
  replace BA : Hid (Bx (w4.alloc (.cells #[.slice c2.va c2.vs.length c2.vc, .slice c2.pa c2.ps.length c2.pc, .slice c2.qa c2.qs.length c2.qc, .int .i64 c2.cs, .int .i64 c2.nx] 46)) w.heap.size [.slice b.va b.vs.length b.vc, .slice b.pa b.ps.length b.pc, .slice b.qa b.qs.length b.qc, .int .i64 b.cs, .int .i64 b.nx]) := BA.out.below hba
  replace HB : Hid (Below w.heap.size w (w4.alloc (.cells #[.slice c2.va c2.vs.length c2.vc, .slice c2.pa c2.ps.length c2.pc, .slice c2.qa c2.qs.length c2.qc, .int .i64 c2.cs, .int .i64 c2.nx] 46))) := HB.out.trans (hba.mono HB.out.size)
  replace AB : Hid (BArg (w4.alloc (.cells #[.slice c2.va c2.vs.length c2.vc, .slice c2.pa c2.ps.length c2.pc, .slice c2.qa c2.qs.length c2.qc, .int .i64 c2.cs, .int .i64 c2.nx] 46)) b) := AB.out.below hba
  replace R2 : Hid (BRows (w4.alloc (.cells #[.slice c2.va c2.vs.length c2.vc, .slice c2.pa c2.ps.length c2.pc, .slice c2.qa c2.qs.length c2.qc, .int .i64 c2.cs, .int .i64 c2.nx] 46)) c2) := R2.out.below hba
  clear hba
  have XA : Hid (Bx (w4.alloc (.cells #[.slice c2.va c2.vs.length c2.vc, .slice c2.pa c2.ps.length c2.pc, .slice c2.qa c2.qs.length c2.qc, .int .i64 c2.cs, .int .i64 c2.nx] 46)) w4.heap.size [.slice c2.va c2.vs.length c2.vc, .slice c2.pa c2.ps.length c2.pc, .slice c2.qa c2.qs.length c2.qc, .int .i64 c2.cs, .int .i64 c2.nx]) := Bx.new w4 [.slice c2.va c2.vs.length c2.vc, .slice c2.pa c2.ps.length c2.pc, .slice c2.qa c2.qs.length c2.qc, .int .i64 c2.cs, .int .i64 c2.nx] 46
  have y0 := XA.out.c0
  have y1 := XA.out.c1
  have y2 := XA.out.c2
  have y3 := XA.out.c3
  have y4 := XA.out.c4
  go_wp2_with fail
  refine (CI.out c2 _ CS2.out R2.out).mono ?_
  rintro e w5 ⟨rfl, hb5⟩
  replace BA : Hid (Bx w5 w.heap.size [.slice b.va b.vs.length b.vc, .slice b.pa b.ps.length b.pc, .slice b.qa b.qs.length b.qc, .int .i64 b.cs, .int .i64 b.nx]) := BA.out.below hb5
  replace HB : Hid (Below w.heap.size w w5) := HB.out.trans (hb5.mono HB.out.size)
  replace AB : Hid (BArg w5 b) := AB.out.below hb5
  replace R2 : Hid (BRows w5 c2) := R2.out.below hb5
  replace XA : Hid (Bx w5 w4.heap.size [.slice c2.va c2.vs.length c2.vc, .slice c2.pa c2.ps.length c2.pc, .slice c2.qa c2.qs.length c2.qc, .int .i64 c2.cs, .int .i64 c2.nx]) := XA.out.below hb5
  clear hb5 y0 y1 y2 y3 y4
  go_wp2
  refine wp_region_held_drew (S := fun w' => w'.cell? ⟨w4.heap.size, 0, none⟩ = some (.slice c2.va c2.vs.length c2.vc) ∧ w'.cell? ⟨w4.heap.size, 1, none⟩ = some (.slice c2.pa c2.ps.length c2.pc) ∧ w'.cell? ⟨w4.heap.size, 2, none⟩ = some (.slice c2.qa c2.qs.length c2.qc) ∧ w'.cell? ⟨w4.heap.size, 3, none⟩ = some (.int .i64 c2.cs) ∧ w'.cell? ⟨w4.heap.size, 4, none⟩ = some (.int .i64 c2.nx) ∧ w'.cell? ⟨w.heap.size, 0, none⟩ = some (.slice b.va b.vs.length b.vc) ∧ w'.cell? ⟨w.heap.size, 1, none⟩ = some (.slice b.pa b.ps.length b.pc) ∧ w'.cell? ⟨w.heap.size, 2, none⟩ = some (.slice b.qa b.qs.length b.qc) ∧ w'.cell? ⟨w.heap.size, 3, none⟩ = some (.int .i64 b.cs) ∧ w'.cell? ⟨w.heap.size, 4, none⟩ = some (.int .i64 b.nx)) (by kernel_rfl) ⟨XA.out.c0, XA.out.c1, XA.out.c2, XA.out.c3, XA.out.c4, BA.out.c0, BA.out.c1, BA.out.c2, BA.out.c3, BA.out.c4⟩ (fun hHeld => ?_)
  (refine wpAnyH_take (i := 0) (v := ?_) rfl (by kernel_rfl) (by kernel_rfl) (by kernel_rfl) (fun _ _ _ h => h) (Or.inl ⟨by rfl, ?_⟩) (by assumption) ?_; rotate_left; (focus (intro w hSw; (try dsimp only at hSw); go_simp; (try with_reducible rfl); done)); simp only [Act.put, List.getElem_toArray, List.getElem_cons_zero, List.setIfInBounds_toArray, List.set_cons_zero, List.set_cons_succ])
  (refine wpAnyH_take (i := 1) (v := ?_) rfl (by kernel_rfl) (by kernel_rfl) (by kernel_rfl) (fun _ _ _ h => h) (Or.inl ⟨by rfl, ?_⟩) (by assumption) ?_; rotate_left; (focus (intro w hSw; (try dsimp only at hSw); go_simp; (try with_reducible rfl); done)); simp only [Act.put, List.getElem_toArray, List.getElem_cons_zero, List.getElem_cons_succ, List.setIfInBounds_toArray, List.set_cons_zero, List.set_cons_succ])
  refine wpAnyH_ready (rs := [2]) (by kernel_rfl) (by simp) ?_
  refine AllReadyH.cons rfl (fun K hK => ?_) AllReadyH.nil
  go_simp
  go_wp2_with fail
  refine (toB b HF.out _ AB.out.rows.drewB).mono ?_
  rintro e w6 ⟨c3, rfl, hs3, hl3, hb6⟩
  have hbu6 := undrew hb6
  replace BA : Hid (Bx w6 w.heap.size [.slice b.va b.vs.length b.vc, .slice b.pa b.ps.length b.pc, .slice b.qa b.qs.length b.qc, .int .i64 b.cs, .int .i64 b.nx]) := BA.out.below hbu6
  replace HB : Hid (Below w.heap.size w w6) := HB.out.trans (hbu6.mono HB.out.size)
  replace AB : Hid (BArg w6 b) := AB.out.below hbu6
  replace R2 : Hid (BRows w6 c2) := R2.out.below hbu6
  replace XA : Hid (Bx w6 w4.heap.size [.slice c2.va c2.vs.length c2.vc, .slice c2.pa c2.ps.length c2.pc, .slice c2.qa c2.qs.length c2.qc, .int .i64 c2.cs, .int .i64 c2.nx]) := XA.out.below hbu6
  have U := hide hl3.rows
  clear hl3
  go_wp2_with fail
  refine hK.out _ _ ⟨XA.out.c0, XA.out.c1, XA.out.c2, XA.out.c3, XA.out.c4, BA.out.c0, BA.out.c1, BA.out.c2, BA.out.c3, BA.out.c4⟩ (fun hHeld6 => ?_)
  clear hK K hb6 hbu6
  refine wpAnyH_ready (rs := [3]) (by kernel_rfl) (by simp) ?_
  refine AllReadyH.cons rfl (fun K hK => ?_) AllReadyH.nil
  go_simp
  go_wp2_with fail
  refine (eqB c2 c3 (CS2.out.symm.trans hs3) (CS2.out.fit HF.out) _ R2.out U.out).mono ?_
  rintro e w7 ⟨rfl, hb7⟩
  replace BA : Hid (Bx w7 w.heap.size [.slice b.va b.vs.length b.vc, .slice b.pa b.ps.length b.pc, .slice b.qa b.qs.length b.qc, .int .i64 b.cs, .int .i64 b.nx]) := BA.out.below hb7
  replace HB : Hid (Below w.heap.size w w7) := HB.out.trans (hb7.mono HB.out.size)
  replace AB : Hid (BArg w7 b) := AB.out.below hb7
  replace R2 : Hid (BRows w7 c2) := R2.out.below hb7
  replace XA : Hid (Bx w7 w4.heap.size [.slice c2.va c2.vs.length c2.vc, .slice c2.pa c2.ps.length c2.pc, .slice c2.qa c2.qs.length c2.qc, .int .i64 c2.cs, .int .i64 c2.nx]) := XA.out.below hb7
  replace U : Hid (BRows w7 c3) := U.out.below hb7
  go_wp2_with fail
  refine hK.out _ _ ⟨XA.out.c0, XA.out.c1, XA.out.c2, XA.out.c3, XA.out.c4, BA.out.c0, BA.out.c1, BA.out.c2, BA.out.c3, BA.out.c4⟩ (fun hHeld7 => ?_)
  clear hK K hb7
  (refine wpAnyH_take (i := 4) (v := ?_) rfl (by kernel_rfl) (by kernel_rfl) (by kernel_rfl) (fun _ _ _ h => h) (Or.inl ⟨by rfl, ?_⟩) (by assumption) ?_; rotate_left; (focus (intro w hSw; (try dsimp only at hSw); go_simp; (try with_reducible rfl); done)); simp only [Act.put, List.getElem_toArray, List.getElem_cons_zero, List.getElem_cons_succ, List.setIfInBounds_toArray, List.set_cons_zero, List.set_cons_succ])
  refine wpAnyH_done (by kernel_rfl) ?_ _
  go_wp2
  go_ret
  exact ⟨rfl, HB.out⟩

end Go.Proofs.Ytnefncmkhgkdnaa

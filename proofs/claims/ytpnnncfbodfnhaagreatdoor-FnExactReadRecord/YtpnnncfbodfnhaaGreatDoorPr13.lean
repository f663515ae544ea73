/- What stays: whether a base is right, as the program asks it, the rest. -/
import Derived.Test.YtpnnncfbodfnhaaGreatDoorPr01
import Derived.Test.YtpnnncfbodfnhaaGreatDoorPr12
import Derived.Deep.RegionHeld3
import Derived.Deep.Cut
import Derived.Deep.CutRange
import Derived.Laws.EntriesVeiled
import Derived.Test.YtpnnncfbodfnhaaGreatDoorPr07
import Derived.Test.YtpnnncfbodfnhaaGreatDoorPr05
import Derived.Test.YtpnnncfbodfnhaaGreatDoorPr08
namespace Go.Proofs.YtpnnncfbodfnhaaGreatDoor
open Go.RowKit
open KM
attribute [local go_sem ↓] Go.wp_at_zero Go.wp_at_succ

set_option maxRecDepth 100000 in
set_option maxHeartbeats 4000000 in
theorem ready20 (b : Bb) (hf : BFit b) (w : World) (hp : BRows w b) :
  Calls Tryz.prog 126 #[.agg #[.slice b.va b.vs.length b.vc, .slice b.pa b.ps.length b.pc, .slice b.qa b.qs.length b.qc, .int .i64 b.cs, .int .i64 b.nx]] w fun e w' => e = .returned (.bool (readyOkB b)) ∧ Below w.heap.size w w' := by
 have BA0 : Hid (Bx (w.alloc (.cells #[.slice b.va b.vs.length b.vc, .slice b.pa b.ps.length b.pc, .slice b.qa b.qs.length b.qc, .int .i64 b.cs, .int .i64 b.nx] 42)) w.heap.size [.slice b.va b.vs.length b.vc, .slice b.pa b.ps.length b.pc, .slice b.qa b.qs.length b.qc, .int .i64 b.cs, .int .i64 b.nx]) := Bx.new w [.slice b.va b.vs.length b.vc, .slice b.pa b.ps.length b.pc, .slice b.qa b.qs.length b.qc, .int .i64 b.cs, .int .i64 b.nx] 42
 have HB0 : Hid (Below w.heap.size w (w.alloc (.cells #[.slice b.va b.vs.length b.vc, .slice b.pa b.ps.length b.pc, .slice b.qa b.qs.length b.qc, .int .i64 b.cs, .int .i64 b.nx] 42))) := (belowRefl w).alloc (Nat.le_refl _) _
 have HP : Hid (TRows w b.qa b.qs) := hp.q
 have C0 : Hid (∀ W : World, Calls Tryz.prog 140 #[.slice b.qa b.qs.length b.qc] W fun e w' => e = .returned (.agg #[.slice b.qa b.qs.length b.qc, .func (.func 155) #[] #[]]) ∧ Below W.heap.size W w') := fun W => by39 b.qa b.qc b.qs.length W
 have C0s : Hid (∀ W : World, Calls Tryz.prog 142 #[.slice b.qa b.qs.length b.qc] W fun e w' => e = .returned (.agg #[.slice b.qa b.qs.length b.qc, .func (.func 158) #[] #[]]) ∧ Below W.heap.size W w') := fun W => by41 b.qa b.qc b.qs.length W
 have C1 : Hid (∀ W : World, Below w.heap.size w W → Calls Tryz.prog 141 #[.agg #[.slice b.qa b.qs.length b.qc, .func (.func 155) #[] #[]]] W fun e w' => e = .returned (.bool (ascSB (b.qs.map fun x : Ta => x.t.nm))) ∧ Below W.heap.size W w') := fun W h => asc40 b.qs b.qa b.qc b.qs.length rfl (Nat.le_trans hf.ql (by omega)) W (HP.out.below h)
 have C2 : Hid (∀ W : World, Below w.heap.size w W → Calls Tryz.prog 138 #[.agg #[.slice b.qa b.qs.length b.qc, .func (.func 158) #[] #[]], .int .i64 b.cs] W fun e w' => e = .returned (.bool (b.qs.any (fun x : Ta => decide (b.cs < x.t.snap)))) ∧ Below W.heap.size W w') := fun W h => any66 b.qs b.qa b.qc b.qs.length rfl (Nat.le_trans hf.ql (by omega)) b.cs W (HP.out.below h)
 have C3 : Hid (∀ W : World, Below w.heap.size w W → Calls Tryz.prog 139 #[.slice b.qa b.qs.length b.qc, .int .i64 2] W fun e w' => e = .returned (.bool (b.qs.all (inStB 2))) ∧ Below W.heap.size W w') := fun W h => allin38 b.qs b.qa b.qc b.qs.length 2 rfl (Nat.le_trans hf.ql (by omega)) hf.q W (HP.out.below h)
 clear hp hf HP
 unfold readyOkB
 obtain ⟨rl, hrl⟩ : ∃ rl, rl = decide (b.qs.length ≤ 3) := ⟨_, rfl⟩
 have HRL : Hid (decide ((3 : Int) < (b.qs.length : Int)) = !rl) := by show _ = _; rw [hrl]; by_cases h : b.qs.length ≤ 3 <;> simp [h] <;> omega
 rw [← hrl]
 clear hrl
 generalize ascSB (b.qs.map fun x : Ta => x.t.nm) = ra at *
 generalize b.qs.any (fun x : Ta => decide (b.cs < x.t.snap)) = rb at *
 generalize b.qs.all (inStB 2) = rg at *
 have x2 := BA0.out.c2
 have hrl0 := HRL.out
 cases rl
 ·simp only [Bool.not_false] at hrl0
  go_enter Tryz.func126, Tryz.ntmps126
  go_wp2
  go_ret
  exact ⟨rfl, HB0.out⟩
 simp only [Bool.not_true] at hrl0
 go_enter Tryz.func126, Tryz.ntmps126
 go_wp2_with fail
 refine (C0.out _).mono ?_
 rintro e w1 ⟨rfl, hb⟩
 have HB1 : Hid (Below w.heap.size w w1) := HB0.out.trans (hb.mono HB0.out.size)
 have BA1 : Hid (Bx w1 w.heap.size [.slice b.va b.vs.length b.vc, .slice b.pa b.ps.length b.pc, .slice b.qa b.qs.length b.qc, .int .i64 b.cs, .int .i64 b.nx]) := BA0.out.below hb
 clear hb HB0 BA0
 clear x2
 go_wp2_with fail
 refine (C1.out _ HB1.out).mono ?_
 rintro e w2 ⟨rfl, hb⟩
 have HB2 : Hid (Below w.heap.size w w2) := HB1.out.trans (hb.mono HB1.out.size)
 have BA2 : Hid (Bx w2 w.heap.size [.slice b.va b.vs.length b.vc, .slice b.pa b.ps.length b.pc, .slice b.qa b.qs.length b.qc, .int .i64 b.cs, .int .i64 b.nx]) := BA1.out.below hb
 clear hb HB1 BA1
 cases ra
 ·go_wp2
  go_ret
  exact ⟨rfl, HB2.out⟩
 go_wp2
 refine wp_region_held_drew (S := fun w' => w'.cell? ⟨w.heap.size, 0, none⟩ = some (.slice b.va b.vs.length b.vc) ∧ w'.cell? ⟨w.heap.size, 1, none⟩ = some (.slice b.pa b.ps.length b.pc) ∧ w'.cell? ⟨w.heap.size, 2, none⟩ = some (.slice b.qa b.qs.length b.qc) ∧ w'.cell? ⟨w.heap.size, 3, none⟩ = some (.int .i64 b.cs) ∧ w'.cell? ⟨w.heap.size, 4, none⟩ = some (.int .i64 b.nx)) (by kernel_rfl) ⟨BA2.out.c0, BA2.out.c1, BA2.out.c2, BA2.out.c3, BA2.out.c4⟩ (fun hHeld => ?_)
 (refine ti 0 ?_; simp only [Act.put, tA, tB, tD, tE, tF])
 (refine ti 1 ?_; simp only [Act.put, tA, tB, tC, tD, tE, tF])
 (refine ti 3 ?_; simp only [Act.put, tA, tB, tC, tD, tE, tF])
 (refine ti 4 ?_; simp only [Act.put, tA, tB, tC, tD, tE, tF])
 refine wpAnyH_ready (rs := [2]) (by kernel_rfl) (by simp) ?_
 refine (AllReadyH.cons rfl (fun K hK => ?_) AllReadyH.nil)
 go_simp
 go_wp2_with fail
 refine (C0s.out _).mono ?_
 rintro e w3 ⟨rfl, hb9⟩
 have hb := undrew hb9
 have HB3 : Hid (Below w.heap.size w w3) := HB2.out.trans (hb.mono HB2.out.size)
 have BA3 : Hid (Bx w3 w.heap.size [.slice b.va b.vs.length b.vc, .slice b.pa b.ps.length b.pc, .slice b.qa b.qs.length b.qc, .int .i64 b.cs, .int .i64 b.nx]) := BA2.out.below hb
 clear hb HB2 BA2
 clear hb9
 go_wp2_with fail
 refine hK.out _ _ ⟨BA3.out.c0, BA3.out.c1, BA3.out.c2, BA3.out.c3, BA3.out.c4⟩ (fun hHeld3 => ?_)
 clear hK K
 refine wpAnyH_ready (rs := [5]) (by kernel_rfl) (by simp) ?_
 refine (AllReadyH.cons rfl (fun K hK => ?_) AllReadyH.nil)
 go_simp
 go_wp2_with fail
 refine (C2.out _ HB3.out).mono ?_
 rintro e w4 ⟨rfl, hb9⟩
 have hb := hb9
 have HB4 : Hid (Below w.heap.size w w4) := HB3.out.trans (hb.mono HB3.out.size)
 have BA4 : Hid (Bx w4 w.heap.size [.slice b.va b.vs.length b.vc, .slice b.pa b.ps.length b.pc, .slice b.qa b.qs.length b.qc, .int .i64 b.cs, .int .i64 b.nx]) := BA3.out.below hb
 clear hb HB3 BA3
 clear hb9
 go_wp2_with fail
 refine hK.out _ _ ⟨BA4.out.c0, BA4.out.c1, BA4.out.c2, BA4.out.c3, BA4.out.c4⟩ (fun hHeld4 => ?_)
 clear hK K
 (refine ti 6 ?_; simp only [Act.put, tA, tB, tC, tD, tE, tF])
 (refine ti 7 ?_; simp only [Act.put, tA, tB, tC, tD, tE, tF])
 cases rb
 ·(refine ti 8 ?_; simp only [Act.put, tA, tB, tC, tD, tE, tF])
  (refine ti 9 ?_; simp only [Act.put, tA, tB, tC, tD, tE, tF])
  refine wpAnyH_ready (rs := [10]) (by kernel_rfl) (by simp) ?_
  refine (AllReadyH.cons rfl (fun K hK => ?_) AllReadyH.nil)
  go_simp
  go_wp2_with fail
  refine (C3.out _ HB4.out).mono ?_
  rintro e w5 ⟨rfl, hb9⟩
  have hb := hb9
  have HB5 : Hid (Below w.heap.size w w5) := HB4.out.trans (hb.mono HB4.out.size)
  have BA5 : Hid (Bx w5 w.heap.size [.slice b.va b.vs.length b.vc, .slice b.pa b.ps.length b.pc, .slice b.qa b.qs.length b.qc, .int .i64 b.cs, .int .i64 b.nx]) := BA4.out.below hb
  clear hb HB4 BA4
  clear hb9
  go_wp2_with fail
  refine hK.out _ _ ⟨BA5.out.c0, BA5.out.c1, BA5.out.c2, BA5.out.c3, BA5.out.c4⟩ (fun hHeld5 => ?_)
  clear hK K
  (refine ti 11 ?_; simp only [Act.put, tA, tB, tC, tD, tE, tF])
  (refine ti 12 ?_; simp only [Act.put, tA, tB, tC, tD, tE, tF])
  refine wpAnyH_done (by kernel_rfl) ?_ _
  go_wp2
  go_ret
  exact ⟨by simp, HB5.out⟩
 ·(refine tu 8 ?_; simp only [Act.put, tA, tB, tC, tD, tE, tF])
  (refine tu 9 ?_; simp only [Act.put, tA, tB, tC, tD, tE, tF])
  (refine tu 10 ?_; simp only [Act.put, tA, tB, tC, tD, tE, tF])
  (refine ti 11 ?_; simp only [Act.put, tA, tB, tC, tD, tE, tF])
  (refine ti 12 ?_; simp only [Act.put, tA, tB, tC, tD, tE, tF])
  refine wpAnyH_done (by kernel_rfl) ?_ _
  go_wp2
  go_ret
  exact ⟨rfl, HB4.out⟩

set_option maxRecDepth 100000 in
set_option maxHeartbeats 4000000 in
theorem ids21 (b : Bb) (hf : BFit b) (hpa : b.pa = none → b.ps.length = 0 ∧ b.pc = 0) (hqa : b.qa = none → b.qs.length = 0 ∧ b.qc = 0) (hn1 : 1 ≤ b.nx) (hn2 : b.nx ≤ 9999) (w : World) (hp : BRows w b) :
  Calls Tryz.prog 127 #[.agg #[.slice b.va b.vs.length b.vc, .slice b.pa b.ps.length b.pc, .slice b.qa b.qs.length b.qc, .int .i64 b.cs, .int .i64 b.nx]] w fun e w' => e = .returned (.bool (idsB b)) ∧ Below w.heap.size w w' := by
 have BA0 : Hid (Bx ((w.alloc (.cells #[.slice b.va b.vs.length b.vc, .slice b.pa b.ps.length b.pc, .slice b.qa b.qs.length b.qc, .int .i64 b.cs, .int .i64 b.nx] 42)).alloc (.cells #[.slice b.pa b.ps.length b.pc, .slice b.qa b.qs.length b.qc] 40)) w.heap.size [.slice b.va b.vs.length b.vc, .slice b.pa b.ps.length b.pc, .slice b.qa b.qs.length b.qc, .int .i64 b.cs, .int .i64 b.nx]) := (Bx.new w [.slice b.va b.vs.length b.vc, .slice b.pa b.ps.length b.pc, .slice b.qa b.qs.length b.qc, .int .i64 b.cs, .int .i64 b.nx] 42).alloc _
 have HB0 : Hid (Below w.heap.size w ((w.alloc (.cells #[.slice b.va b.vs.length b.vc, .slice b.pa b.ps.length b.pc, .slice b.qa b.qs.length b.qc, .int .i64 b.cs, .int .i64 b.nx] 42)).alloc (.cells #[.slice b.pa b.ps.length b.pc, .slice b.qa b.qs.length b.qc] 40))) := ((belowRefl w).alloc (Nat.le_refl _) _).alloc (by simp) _
 have RS : Hid (GRow encSl ((w.alloc (.cells #[.slice b.va b.vs.length b.vc, .slice b.pa b.ps.length b.pc, .slice b.qa b.qs.length b.qc, .int .i64 b.cs, .int .i64 b.nx] 42)).alloc (.cells #[.slice b.pa b.ps.length b.pc, .slice b.qa b.qs.length b.qc] 40)) (some ⟨w.heap.size + 1, 0, none⟩) [⟨b.pa, b.ps.length, b.pc, b.ps⟩, ⟨b.qa, b.qs.length, b.qc, b.qs⟩]) := fun _ => ⟨w.heap.size + 1, 0, rfl, by simp, fun j hj i hi => by
  obtain rfl : i = 0 := by simpa [encSl] using hi
  have : j = 0 ∨ j = 1 := by simp at hj; omega
  rcases this with rfl | rfl
  ·simp [encSl]
  ·simp [encSl]⟩
 have ES : Hid (sums [⟨b.pa, b.ps.length, b.pc, b.ps⟩, ⟨b.qa, b.qs.length, b.qc, b.qs⟩] = b.ps ++ b.qs) := by show _ = _; simp [sums]
 have hlen : (b.ps ++ b.qs).length ≤ 10000000 := by rw [List.length_append]; have := hf.pl; have := hf.ql; omega
 have CC := hide (concat43 [⟨b.pa, b.ps.length, b.pc, b.ps⟩, ⟨b.qa, b.qs.length, b.qc, b.qs⟩] (some ⟨w.heap.size + 1, 0, none⟩) 2 2 rfl (by omega) (by rw [ES.out]; exact hlen) ((w.alloc (.cells #[.slice b.va b.vs.length b.vc, .slice b.pa b.ps.length b.pc, .slice b.qa b.qs.length b.qc, .int .i64 b.cs, .int .i64 b.nx] 42)).alloc (.cells #[.slice b.pa b.ps.length b.pc, .slice b.qa b.qs.length b.qc] 40)) RS.out (fun s hs => by
  rcases List.mem_cons.1 hs with rfl | hs
  ·exact ⟨rfl, (hp.p.below HB0.out).row, hpa⟩
  ·obtain rfl := List.mem_singleton.1 hs
   exact ⟨rfl, (hp.q.below HB0.out).row, hqa⟩))
 rw [ES.out] at CC
 have HM : Hid (∀ x ∈ b.ps ++ b.qs, TRow w x.t x.ra x.wa) := fun x hx => by
  rcases List.mem_append.1 hx with h | h
  ·exact hp.p.each x h
  ·exact hp.q.each x h
 have C1 : Hid (∀ (W : World) (a1 : Option Addr) (c1 n1 : Nat), n1 = (b.ps ++ b.qs).length → Below w.heap.size w W → GRow encT W a1 (b.ps ++ b.qs) → Calls Tryz.prog 145 #[.agg #[.slice a1 n1 c1, .func (.func 159) #[] #[]]] W fun e w' => e = .returned (.bool (ascIB (sortI ((b.ps ++ b.qs).map fun x : Ta => x.t.id)))) ∧ Below W.heap.size W w') := fun W a1 c1 n1 h1 h2 h3 => unlike44 (b.ps ++ b.qs) a1 c1 n1 h1 (by rw [h1]; exact hlen) W ⟨h3, fun x hx => (HM.out x hx).below h2⟩
 have C2 : Hid (∀ (W : World) (a1 : Option Addr) (c1 n1 : Nat), n1 = (b.ps ++ b.qs).length → Below w.heap.size w W → GRow encT W a1 (b.ps ++ b.qs) → Calls Tryz.prog 138 #[.agg #[.slice a1 n1 c1, .func (.func 159) #[] #[]], .int .i64 (b.nx - 1)] W fun e w' => e = .returned (.bool ((b.ps ++ b.qs).any (fun x : Ta => decide (b.nx - 1 < x.t.id)))) ∧ Below W.heap.size W w') := fun W a1 c1 n1 h1 h2 h3 => any67 (b.ps ++ b.qs) a1 c1 n1 h1 (by rw [h1]; exact hlen) (b.nx - 1) W ⟨h3, fun x hx => (HM.out x hx).below h2⟩
 have ew : IntKind.i64.wrap (b.nx - 1) = b.nx - 1 := by rw [IntKind.wrap_i64]; omega
 unfold idsB
 clear hp hf HM RS ES hpa hqa hlen
 generalize ascIB (sortI ((b.ps ++ b.qs).map fun x : Ta => x.t.id)) = ra at *
 generalize (b.ps ++ b.qs).any (fun x : Ta => decide (b.nx - 1 < x.t.id)) = rb at *
 obtain ⟨zs, hzs⟩ : ∃ zs, zs = b.ps ++ b.qs := ⟨_, rfl⟩
 rw [← hzs] at CC C1 C2
 clear hzs
 go_enter Tryz.func127, Tryz.ntmps127
 go_wp2_with fail
 refine CC.out.mono ?_
 rintro e w2 ⟨a1, c1, n1, rfl, hn1, ho, hb⟩
 have HN1 : Hid (n1 = zs.length) := hn1
 have RZ2 : Hid (GRow encT w2 a1 zs) := by subst hn1; exact ho.grow
 clear hn1 ho
 have HB2 : Hid (Below w.heap.size w w2) := HB0.out.trans (hb.mono HB0.out.size)
 have BA2 : Hid (Bx w2 w.heap.size [.slice b.va b.vs.length b.vc, .slice b.pa b.ps.length b.pc, .slice b.qa b.qs.length b.qc, .int .i64 b.cs, .int .i64 b.nx]) := BA0.out.below hb
 clear hb HB0 BA0
 go_wp2_with fail
 refine (by42 a1 c1 n1 _).mono ?_
 rintro e w3 ⟨rfl, hb⟩
 have RZ3 : Hid (GRow encT w3 a1 zs) := RZ2.out.below hb
 have HB3 : Hid (Below w.heap.size w w3) := HB2.out.trans (hb.mono HB2.out.size)
 have BA3 : Hid (Bx w3 w.heap.size [.slice b.va b.vs.length b.vc, .slice b.pa b.ps.length b.pc, .slice b.qa b.qs.length b.qc, .int .i64 b.cs, .int .i64 b.nx]) := BA2.out.below hb
 clear hb HB2 BA2
 go_upto_region 2 with fail
 have hba : Below w3.heap.size w3 (w3.alloc (.cells #[.slice a1 n1 c1, .func (.func 159) #[] #[]] 189)) := (belowRefl w3).alloc (Nat.le_refl _) _
 have HB4 : Hid (Below w.heap.size w (w3.alloc (.cells #[.slice a1 n1 c1, .func (.func 159) #[] #[]] 189))) := HB3.out.trans (hba.mono HB3.out.size)
 have BA4 : Hid (Bx (w3.alloc (.cells #[.slice a1 n1 c1, .func (.func 159) #[] #[]] 189)) w.heap.size [.slice b.va b.vs.length b.vc, .slice b.pa b.ps.length b.pc, .slice b.qa b.qs.length b.qc, .int .i64 b.cs, .int .i64 b.nx]) := BA3.out.below hba
 have BK4 : Hid (Bx (w3.alloc (.cells #[.slice a1 n1 c1, .func (.func 159) #[] #[]] 189)) w3.heap.size [.slice a1 n1 c1, .func (.func 159) #[] #[]]) := Bx.new w3 [.slice a1 n1 c1, .func (.func 159) #[] #[]] 189
 have RZ4 : Hid (GRow encT (w3.alloc (.cells #[.slice a1 n1 c1, .func (.func 159) #[] #[]] 189)) a1 zs) := RZ3.out.below hba
 clear hba HB3 BA3
 generalize (w3.alloc (.cells #[.slice a1 n1 c1, .func (.func 159) #[] #[]] 189)) = w4 at *
 have k0 := BK4.out.c0
 have k1 := BK4.out.c1
 go_wp2_with fail
 refine (C1.out _ a1 c1 n1 HN1.out HB4.out RZ4.out).mono ?_
 rintro e w5 ⟨rfl, hb⟩
 have RZ5 : Hid (GRow encT w5 a1 zs) := RZ4.out.below hb
 have HB5 : Hid (Below w.heap.size w w5) := HB4.out.trans (hb.mono HB4.out.size)
 have BA5 : Hid (Bx w5 w.heap.size [.slice b.va b.vs.length b.vc, .slice b.pa b.ps.length b.pc, .slice b.qa b.qs.length b.qc, .int .i64 b.cs, .int .i64 b.nx]) := BA4.out.below hb
 have BK5 : Hid (Bx w5 w3.heap.size [.slice a1 n1 c1, .func (.func 159) #[] #[]]) := BK4.out.below hb
 clear hb HB4 BA4 BK4
 clear k0 k1
 cases ra
 ·go_wp2
  go_ret
  exact ⟨rfl, HB5.out⟩
 have k0 := BK5.out.c0
 have k1 := BK5.out.c1
 have x4 := BA5.out.c4
 go_wp2_with fail
 refine (C2.out _ a1 c1 n1 HN1.out HB5.out RZ5.out).mono ?_
 rintro e w6 ⟨rfl, hb⟩
 have HB6 : Hid (Below w.heap.size w w6) := HB5.out.trans (hb.mono HB5.out.size)
 have BA6 : Hid (Bx w6 w.heap.size [.slice b.va b.vs.length b.vc, .slice b.pa b.ps.length b.pc, .slice b.qa b.qs.length b.qc, .int .i64 b.cs, .int .i64 b.nx]) := BA5.out.below hb
 have BK6 : Hid (Bx w6 w3.heap.size [.slice a1 n1 c1, .func (.func 159) #[] #[]]) := BK5.out.below hb
 clear hb HB5 BA5 BK5
 go_wp2
 go_ret
 exact ⟨by simp, HB6.out⟩

end Go.Proofs.YtpnnncfbodfnhaaGreatDoor

namespace Go.Proofs.YtpnnncfbodfnhaaGreatDoor
open Go.RowKit
open KM
attribute [local go_sem ↓] Go.wp_at_zero Go.wp_at_succ

def ibB (b : Bb) : Bool := decide (0 ≤ b.cs) && decide (b.cs ≤ 9999) && decide (1 ≤ b.nx) && decide (b.nx ≤ 9999) && versB b.vs && !(b.vs.any (fun x : Vr => decide (b.cs < x.2.2.2))) && pastB b && readyOkB b && idsB b

set_option maxRecDepth 100000 in
set_option maxHeartbeats 4000000 in
theorem ibase7 (b : Bb) (hf : BFit b) (hpa : b.pa = none → b.ps.length = 0 ∧ b.pc = 0) (hqa : b.qa = none → b.qs.length = 0 ∧ b.qc = 0) (w : World) (hp : BRows w b) :
  Calls Tryz.prog 114 #[.agg #[.slice b.va b.vs.length b.vc, .slice b.pa b.ps.length b.pc, .slice b.qa b.qs.length b.qc, .int .i64 b.cs, .int .i64 b.nx]] w fun e w' => e = .returned (.bool (ibB b)) ∧ Below w.heap.size w w' := by
 have BA0 : Hid (Bx (w.alloc (.cells #[.slice b.va b.vs.length b.vc, .slice b.pa b.ps.length b.pc, .slice b.qa b.qs.length b.qc, .int .i64 b.cs, .int .i64 b.nx] 42)) w.heap.size [.slice b.va b.vs.length b.vc, .slice b.pa b.ps.length b.pc, .slice b.qa b.qs.length b.qc, .int .i64 b.cs, .int .i64 b.nx]) := Bx.new w [.slice b.va b.vs.length b.vc, .slice b.pa b.ps.length b.pc, .slice b.qa b.qs.length b.qc, .int .i64 b.cs, .int .i64 b.nx] 42
 have HB0 : Hid (Below w.heap.size w (w.alloc (.cells #[.slice b.va b.vs.length b.vc, .slice b.pa b.ps.length b.pc, .slice b.qa b.qs.length b.qc, .int .i64 b.cs, .int .i64 b.nx] 42))) := (belowRefl w).alloc (Nat.le_refl _) _
 have HP : Hid (BRows w b) := hp
 have HF : Hid (BFit b) := hf
 have HV : Hid (GRow encV w b.va b.vs) := hp.v
 clear hp hf
 have x3 := BA0.out.c3
 have x4 := BA0.out.c4
 by_cases h1 : b.cs < 0
 ·have HR : Hid (false = ibB b) := by show _ = _; unfold ibB; simp [show ¬ (0 ≤ b.cs) by omega]
  clear HF HV hpa hqa HP
  go_enter Tryz.func114, Tryz.ntmps114
  go_wp2
  go_ret
  exact ⟨ret_bool HR.out, HB0.out⟩
 by_cases h2 : 9999 < b.cs
 ·have HR : Hid (false = ibB b) := by show _ = _; unfold ibB; simp [show ¬ (b.cs ≤ 9999) by omega]
  clear HF HV hpa hqa HP
  go_enter Tryz.func114, Tryz.ntmps114
  go_wp2
  go_ret
  exact ⟨ret_bool HR.out, HB0.out⟩
 by_cases h3 : b.nx < 1
 ·have HR : Hid (false = ibB b) := by show _ = _; unfold ibB; simp [show ¬ (1 ≤ b.nx) by omega]
  clear HF HV hpa hqa HP
  go_enter Tryz.func114, Tryz.ntmps114
  go_wp2
  go_ret
  exact ⟨ret_bool HR.out, HB0.out⟩
 by_cases h4 : 9999 < b.nx
 ·have HR : Hid (false = ibB b) := by show _ = _; unfold ibB; simp [show ¬ (b.nx ≤ 9999) by omega]
  clear HF HV hpa hqa HP
  go_enter Tryz.func114, Tryz.ntmps114
  go_wp2
  go_ret
  exact ⟨ret_bool HR.out, HB0.out⟩
 have HE : Hid (ibB b = (versB b.vs && !(b.vs.any (fun x : Vr => decide (b.cs < x.2.2.2))) && pastB b && readyOkB b && idsB b)) := by
  show _ = _
  unfold ibB
  simp [show 0 ≤ b.cs by omega, show b.cs ≤ 9999 by omega, show 1 ≤ b.nx by omega, show b.nx ≤ 9999 by omega]
 have CV : Hid (∀ W : World, Below w.heap.size w W → Calls Tryz.prog 122 #[.slice b.va b.vs.length b.vc] W fun e w' => e = .returned (.bool (versB b.vs)) ∧ Below W.heap.size W w') := fun W h => ivers b.vs b.va b.vc (Nat.le_trans HF.out.vl (by omega)) W (HV.out.below h)
 have CB : Hid (∀ W : World, Calls Tryz.prog 123 #[.slice b.va b.vs.length b.vc] W fun e w' => e = .returned (.agg #[.slice b.va b.vs.length b.vc, .func (.func 134) #[] #[]]) ∧ Below W.heap.size W w') := fun W => by17 b.va b.vc b.vs.length W
 have CA : Hid (∀ W : World, Below w.heap.size w W → Calls Tryz.prog 124 #[.agg #[.slice b.va b.vs.length b.vc, .func (.func 134) #[] #[]], .int .i64 b.cs] W fun e w' => e = .returned (.bool (b.vs.any (fun x : Vr => decide (b.cs < x.2.2.2)))) ∧ Below W.heap.size W w') := fun W h => any33 b.vs b.va b.vc b.vs.length rfl (Nat.le_trans HF.out.vl (by omega)) b.cs W (HV.out.below h)
 have C1 : Hid (∀ W : World, Below w.heap.size w W → Calls Tryz.prog 125 #[.agg #[.slice b.va b.vs.length b.vc, .slice b.pa b.ps.length b.pc, .slice b.qa b.qs.length b.qc, .int .i64 b.cs, .int .i64 b.nx]] W fun e w' => e = .returned (.bool (pastB b)) ∧ Below W.heap.size W w') := fun W h => past19 b HF.out W (HP.out.below h)
 have C2 : Hid (∀ W : World, Below w.heap.size w W → Calls Tryz.prog 126 #[.agg #[.slice b.va b.vs.length b.vc, .slice b.pa b.ps.length b.pc, .slice b.qa b.qs.length b.qc, .int .i64 b.cs, .int .i64 b.nx]] W fun e w' => e = .returned (.bool (readyOkB b)) ∧ Below W.heap.size W w') := fun W h => ready20 b HF.out W (HP.out.below h)
 have C3 : Hid (∀ W : World, Below w.heap.size w W → Calls Tryz.prog 127 #[.agg #[.slice b.va b.vs.length b.vc, .slice b.pa b.ps.length b.pc, .slice b.qa b.qs.length b.qc, .int .i64 b.cs, .int .i64 b.nx]] W fun e w' => e = .returned (.bool (idsB b)) ∧ Below W.heap.size W w') := fun W h => ids21 b HF.out hpa hqa (by omega) (by omega) W (HP.out.below h)
 clear HF HV hpa hqa HP
 generalize versB b.vs = rv at *
 generalize b.vs.any (fun x : Vr => decide (b.cs < x.2.2.2)) = ry at *
 generalize pastB b = rp at *
 generalize readyOkB b = rr at *
 generalize idsB b = ri at *
 generalize ibB b = res at *
 have hres := HE.out
 subst hres
 clear HE
 go_enter Tryz.func114, Tryz.ntmps114
 go_wp2
 clear x3 x4
 refine wp_region_held_drew (S := fun w' => w'.cell? ⟨w.heap.size, 0, none⟩ = some (.slice b.va b.vs.length b.vc) ∧ w'.cell? ⟨w.heap.size, 1, none⟩ = some (.slice b.pa b.ps.length b.pc) ∧ w'.cell? ⟨w.heap.size, 2, none⟩ = some (.slice b.qa b.qs.length b.qc) ∧ w'.cell? ⟨w.heap.size, 3, none⟩ = some (.int .i64 b.cs) ∧ w'.cell? ⟨w.heap.size, 4, none⟩ = some (.int .i64 b.nx)) (by kernel_rfl) ⟨BA0.out.c0, BA0.out.c1, BA0.out.c2, BA0.out.c3, BA0.out.c4⟩ (fun hHeld => ?_)
 (refine ti 0 ?_; simp only [Act.put, tA, tB, tD, tE, tF])
 (refine ti 1 ?_; simp only [Act.put, tA, tB, tC, tD, tE, tF])
 refine wpAnyH_ready (rs := [2]) (by kernel_rfl) (by simp) ?_
 refine (AllReadyH.cons rfl (fun K hK => ?_) AllReadyH.nil)
 go_simp
 go_wp2_with fail
 refine (CV.out _ HB0.out.drew).mono ?_
 rintro e w1 ⟨rfl, hb9⟩
 have hb := undrew hb9
 have HB1 : Hid (Below w.heap.size w w1) := HB0.out.trans (hb.mono HB0.out.size)
 have BA1 : Hid (Bx w1 w.heap.size [.slice b.va b.vs.length b.vc, .slice b.pa b.ps.length b.pc, .slice b.qa b.qs.length b.qc, .int .i64 b.cs, .int .i64 b.nx]) := BA0.out.below hb
 clear hb HB0 BA0
 clear hb9
 go_wp2_with fail
 refine hK.out _ _ ⟨BA1.out.c0, BA1.out.c1, BA1.out.c2, BA1.out.c3, BA1.out.c4⟩ (fun hHeld1 => ?_)
 clear hK K
 (refine ti 3 ?_; simp only [Act.put, tA, tB, tC, tD, tE, tF])
 (refine ti 4 ?_; simp only [Act.put, tA, tB, tC, tD, tE, tF])
 cases rv
 ·(refine tu 5 ?_; simp only [Act.put, tA, tB, tC, tD, tE, tF])
  (refine tu 6 ?_; simp only [Act.put, tA, tB, tC, tD, tE, tF])
  (refine tu 7 ?_; simp only [Act.put, tA, tB, tC, tD, tE, tF])
  (refine tu 8 ?_; simp only [Act.put, tA, tB, tC, tD, tE, tF])
  (refine tu 9 ?_; simp only [Act.put, tA, tB, tC, tD, tE, tF])
  (refine tu 10 ?_; simp only [Act.put, tA, tB, tC, tD, tE, tF])
  (refine ti 11 ?_; simp only [Act.put, tA, tB, tC, tD, tE, tF])
  refine wpAnyH_done (by kernel_rfl) ?_ _
  go_wp2
  go_ret
  exact ⟨rfl, HB1.out⟩
 (refine ti 5 ?_; simp only [Act.put, tA, tB, tC, tD, tE, tF])
 (refine ti 6 ?_; simp only [Act.put, tA, tB, tC, tD, tE, tF])
 (refine ti 8 ?_; simp only [Act.put, tA, tB, tC, tD, tE, tF])
 (refine ti 9 ?_; simp only [Act.put, tA, tB, tC, tD, tE, tF])
 refine wpAnyH_ready (rs := [7]) (by kernel_rfl) (by simp) ?_
 refine (AllReadyH.cons rfl (fun K hK => ?_) AllReadyH.nil)
 go_simp
 go_wp2_with fail
 refine (CB.out _).mono ?_
 rintro e w2 ⟨rfl, hb9⟩
 have hb := hb9
 have HB2 : Hid (Below w.heap.size w w2) := HB1.out.trans (hb.mono HB1.out.size)
 have BA2 : Hid (Bx w2 w.heap.size [.slice b.va b.vs.length b.vc, .slice b.pa b.ps.length b.pc, .slice b.qa b.qs.length b.qc, .int .i64 b.cs, .int .i64 b.nx]) := BA1.out.below hb
 clear hb HB1 BA1
 clear hb9
 go_wp2_with fail
 refine hK.out _ _ ⟨BA2.out.c0, BA2.out.c1, BA2.out.c2, BA2.out.c3, BA2.out.c4⟩ (fun hHeld2 => ?_)
 clear hK K
 refine wpAnyH_ready (rs := [10]) (by kernel_rfl) (by simp) ?_
 refine (AllReadyH.cons rfl (fun K hK => ?_) AllReadyH.nil)
 go_simp
 go_wp2_with fail
 refine (CA.out _ HB2.out).mono ?_
 rintro e w3 ⟨rfl, hb9⟩
 have hb := hb9
 have HB3 : Hid (Below w.heap.size w w3) := HB2.out.trans (hb.mono HB2.out.size)
 have BA3 : Hid (Bx w3 w.heap.size [.slice b.va b.vs.length b.vc, .slice b.pa b.ps.length b.pc, .slice b.qa b.qs.length b.qc, .int .i64 b.cs, .int .i64 b.nx]) := BA2.out.below hb
 clear hb HB2 BA2
 clear hb9
 go_wp2_with fail
 refine hK.out _ _ ⟨BA3.out.c0, BA3.out.c1, BA3.out.c2, BA3.out.c3, BA3.out.c4⟩ (fun hHeld3 => ?_)
 clear hK K
 (refine ti 11 ?_; simp only [Act.put, tA, tB, tC, tD, tE, tF])
 refine wpAnyH_done (by kernel_rfl) ?_ _
 cases ry
 case true =>
  go_wp2
  go_ret
  exact ⟨rfl, HB3.out⟩
 have y0 := BA3.out.c0
 have y1 := BA3.out.c1
 have y2 := BA3.out.c2
 have y3 := BA3.out.c3
 have y4 := BA3.out.c4
 go_wp2_with fail
 refine (C1.out _ HB3.out).mono ?_
 rintro e w4 ⟨rfl, hb⟩
 have HB4 : Hid (Below w.heap.size w w4) := HB3.out.trans (hb.mono HB3.out.size)
 have BA4 : Hid (Bx w4 w.heap.size [.slice b.va b.vs.length b.vc, .slice b.pa b.ps.length b.pc, .slice b.qa b.qs.length b.qc, .int .i64 b.cs, .int .i64 b.nx]) := BA3.out.below hb
 clear hb HB3 BA3
 clear y0 y1 y2 y3 y4
 cases rp
 ·go_wp2
  go_ret
  exact ⟨rfl, HB4.out⟩
 have y0 := BA4.out.c0
 have y1 := BA4.out.c1
 have y2 := BA4.out.c2
 have y3 := BA4.out.c3
 have y4 := BA4.out.c4
 go_wp2_with fail
 refine (C2.out _ HB4.out).mono ?_
 rintro e w5 ⟨rfl, hb⟩
 have HB5 : Hid (Below w.heap.size w w5) := HB4.out.trans (hb.mono HB4.out.size)
 have BA5 : Hid (Bx w5 w.heap.size [.slice b.va b.vs.length b.vc, .slice b.pa b.ps.length b.pc, .slice b.qa b.qs.length b.qc, .int .i64 b.cs, .int .i64 b.nx]) := BA4.out.below hb
 clear hb HB4 BA4
 clear y0 y1 y2 y3 y4
 cases rr
 ·go_wp2
  go_ret
  exact ⟨rfl, HB5.out⟩
 have y0 := BA5.out.c0
 have y1 := BA5.out.c1
 have y2 := BA5.out.c2
 have y3 := BA5.out.c3
 have y4 := BA5.out.c4
 go_wp2_with fail
 refine (C3.out _ HB5.out).mono ?_
 rintro e w6 ⟨rfl, hb⟩
 have HB6 : Hid (Below w.heap.size w w6) := HB5.out.trans (hb.mono HB5.out.size)
 have BA6 : Hid (Bx w6 w.heap.size [.slice b.va b.vs.length b.vc, .slice b.pa b.ps.length b.pc, .slice b.qa b.qs.length b.qc, .int .i64 b.cs, .int .i64 b.nx]) := BA5.out.below hb
 clear hb HB5 BA5
 go_wp2
 go_ret
 exact ⟨by simp, HB6.out⟩

end Go.Proofs.YtpnnncfbodfnhaaGreatDoor

namespace Go.Proofs.YtpnnncfbodfnhaaGreatDoor
open Go.RowKit
open KM
attribute [local go_sem ↓] Go.wp_at_zero Go.wp_at_succ

abbrev pstG (xs : List Ta) (cs : Int) : Prop := ∀ j (h : j < xs.length), (txnB xs[j].t = true ∧ xs[j].t.st = 3 ∧ xs[j].t.cs ≤ cs) ∧ ∀ (_ : 0 < j), (xs[j - 1]'(by omega)).t.cs < xs[j].t.cs
def pstK (xs : List Ta) (cs : Int) (k : Nat) : Prop := ∀ j (h : j < xs.length), j < k → (txnB xs[j].t = true ∧ xs[j].t.st = 3 ∧ xs[j].t.cs ≤ cs) ∧ ∀ (_ : 0 < j), (xs[j - 1]'(by omega)).t.cs < xs[j].t.cs
theorem pst_more {xs : List Ta} {cs : Int} {k : Nat} (hg : pstK xs cs k) (hk : k < xs.length) (h2 : (txnB xs[k].t = true ∧ xs[k].t.st = 3 ∧ xs[k].t.cs ≤ cs) ∧ ∀ (_ : 0 < k), (xs[k - 1]'(by omega)).t.cs < xs[k].t.cs) : pstK xs cs (k + 1) := fun j h hlt => by
 by_cases e : j = k
 ·subst e; exact h2
 ·exact hg j h (by omega)
theorem pst_all {xs : List Ta} {cs : Int} {k : Nat} (hg : pstK xs cs k) (hk : xs.length ≤ k) : pstG xs cs := fun j h => hg j h (by omega)
abbrev rdyG (xs : List Ta) (cs : Int) : Prop := ∀ j (h : j < xs.length), (txnB xs[j].t = true ∧ xs[j].t.st = 2 ∧ xs[j].t.snap ≤ cs) ∧ ∀ (_ : 0 < j), Op.bytesLess (xs[j - 1]'(by omega)).t.nm.toList xs[j].t.nm.toList = true
def rdyK (xs : List Ta) (cs : Int) (k : Nat) : Prop := ∀ j (h : j < xs.length), j < k → (txnB xs[j].t = true ∧ xs[j].t.st = 2 ∧ xs[j].t.snap ≤ cs) ∧ ∀ (_ : 0 < j), Op.bytesLess (xs[j - 1]'(by omega)).t.nm.toList xs[j].t.nm.toList = true
theorem rdy_more {xs : List Ta} {cs : Int} {k : Nat} (hg : rdyK xs cs k) (hk : k < xs.length) (h2 : (txnB xs[k].t = true ∧ xs[k].t.st = 2 ∧ xs[k].t.snap ≤ cs) ∧ ∀ (_ : 0 < k), Op.bytesLess (xs[k - 1]'(by omega)).t.nm.toList xs[k].t.nm.toList = true) : rdyK xs cs (k + 1) := fun j h hlt => by
 by_cases e : j = k
 ·subst e; exact h2
 ·exact hg j h (by omega)
theorem rdy_all {xs : List Ta} {cs : Int} {k : Nat} (hg : rdyK xs cs k) (hk : xs.length ≤ k) : rdyG xs cs := fun j h => hg j h (by omega)
abbrev idsG (zs : List Int) (nx : Int) : Prop := ∀ j (h : j < zs.length), (∀ k (hk : k < j), zs[k]'(by omega) ≠ zs[j]) ∧ zs[j] < nx
def idsK (zs : List Int) (nx : Int) (n : Nat) : Prop := ∀ j (h : j < zs.length), j < n → (∀ k (hk : k < j), zs[k]'(by omega) ≠ zs[j]) ∧ zs[j] < nx
theorem ids_more {zs : List Int} {nx : Int} {n : Nat} (hg : idsK zs nx n) (hn : n < zs.length) (h2 : (∀ k (hk : k < n), zs[k]'(by omega) ≠ zs[n]) ∧ zs[n] < nx) : idsK zs nx (n + 1) := fun j h hlt => by
 by_cases e : j = n
 ·subst e; exact h2
 ·exact hg j h (by omega)
abbrev SbP (b : Bb) : Prop := versB b.vs = true ∧ b.ps.length ≤ 12 ∧ b.qs.length ≤ 3 ∧ (0 ≤ b.cs ∧ b.cs ≤ 9999) ∧ (1 ≤ b.nx ∧ b.nx ≤ 9999) ∧ (∀ j (h : j < b.vs.length), b.vs[j].2.2.2 ≤ b.cs) ∧ pstG b.ps b.cs ∧ rdyG b.qs b.cs ∧ idsG (b.ps.map (fun x : Ta => x.t.id) ++ b.qs.map (fun x : Ta => x.t.id)) b.nx
def sbB (b : Bb) : Bool := decide (SbP b)
theorem sb_no {b : Bb} (h : ¬ SbP b) : false = sbB b := (decide_eq_false h).symm
theorem sb_yes {b : Bb} (h : SbP b) : true = sbB b := (decide_eq_true h).symm

end Go.Proofs.YtpnnncfbodfnhaaGreatDoor

namespace Go.Proofs.YtpnnncfbodfnhaaGreatDoor
open Go.RowKit
open KM
attribute [local go_sem ↓] Go.wp_at_zero Go.wp_at_succ

theorem asc_pair (l : List Int) : ascIB l = true ↔ l.Pairwise (· < ·) := by
 unfold ascIB
 rw [decide_eq_true_eq, List.pairwise_iff_getElem]
 constructor
 ·intro h i j hi hj hij
  obtain ⟨d, rfl⟩ : ∃ d, j = i + 1 + d := ⟨j - (i + 1), by omega⟩
  induction d with
  | zero =>
   have := h (i + 1) hj (by omega)
   simpa using this
  | succ d ih =>
   have h1 := ih (by omega) (by omega)
   have h2 := h (i + 1 + (d + 1)) hj (by omega)
   have h3 : l[i + 1 + (d + 1) - 1]'(by omega) = l[i + 1 + d]'(by omega) := by congr 1
   rw [h3] at h2
   omega
 ·intro h j hj h0
  exact h (j - 1) j (by omega) hj (by omega)
theorem sort_pair (zs : List Int) : ascIB (sortI zs) = true ↔ zs.Pairwise (· ≠ ·) := by
 rw [asc_pair]
 have hp : (sortI zs).Perm zs := List.mergeSort_perm _ _
 have hs : (sortI zs).Pairwise (fun a b => decide (a ≤ b) = true) := List.pairwise_mergeSort (fun a b c h1 h2 => by simp at *; omega) (fun a b => by simp; omega) _
 constructor
 ·intro h
  have h1 : (sortI zs).Pairwise (· ≠ ·) := h.imp (fun h => by omega)
  exact hp.pairwise h1 (fun h => h.symm)
 ·intro h
  have h1 : (sortI zs).Pairwise (· ≠ ·) := hp.symm.pairwise h (fun h => h.symm)
  refine (hs.and h1).imp ?_
  rintro a b ⟨h2, h3⟩
  have : a ≤ b := by simpa using h2
  omega
theorem ids_pair (zs : List Int) : (∀ j (h : j < zs.length), ∀ k (hk : k < j), zs[k]'(by omega) ≠ zs[j]) ↔ zs.Pairwise (· ≠ ·) := by
 rw [List.pairwise_iff_getElem]
 constructor
 ·intro h i j hi hj hij
  exact h j hj i hij
 ·intro h j hj k hk
  exact h k j (by omega) hj hk
theorem any_no {α : Type} (p : α → Bool) (xs : List α) : (!(xs.any p)) = true ↔ ∀ j (h : j < xs.length), p xs[j] = false := by
 rw [Bool.not_eq_true', List.any_eq_false]
 constructor
 ·intro h j hj
  have := h xs[j] (List.getElem_mem hj)
  simpa using this
 ·intro h x hx
  obtain ⟨j, hj, rfl⟩ := List.getElem_of_mem hx
  rw [h j hj]
  simp
theorem all_at {α : Type} (p : α → Bool) (xs : List α) : xs.all p = true ↔ ∀ j (h : j < xs.length), p xs[j] = true := by
 rw [List.all_eq_true]
 constructor
 ·intro h j hj
  exact h _ (List.getElem_mem hj)
 ·intro h x hx
  obtain ⟨j, hj, rfl⟩ := List.getElem_of_mem hx
  exact h j hj
theorem asc_map (f : Ta → Int) (xs : List Ta) : ascIB (xs.map f) = true ↔ ∀ j (h : j < xs.length), ∀ (_ : 0 < j), f (xs[j - 1]'(by omega)) < f xs[j] := by
 unfold ascIB
 rw [decide_eq_true_eq]
 constructor
 ·intro h j hj h0
  have := h j (by simpa using hj) h0
  simpa using this
 ·intro h j hj h0
  have := h j (by simpa using hj) h0
  simpa using this
theorem ascS_map (xs : List Ta) : ascSB (xs.map fun x : Ta => x.t.nm) = true ↔ ∀ j (h : j < xs.length), ∀ (_ : 0 < j), Op.bytesLess (xs[j - 1]'(by omega)).t.nm.toList xs[j].t.nm.toList = true := by
 unfold ascSB
 rw [decide_eq_true_eq]
 constructor
 ·intro h j hj h0
  have := h j (by simpa using hj) h0
  simpa using this
 ·intro h j hj h0
  have := h j (by simpa using hj) h0
  simpa using this
theorem past_iff (b : Bb) : pastB b = true ↔ b.ps.length ≤ 12 ∧ pstG b.ps b.cs := by
 unfold pastB
 rw [Bool.and_eq_true, Bool.and_eq_true, Bool.and_eq_true, decide_eq_true_eq, asc_map, any_no, all_at]
 constructor
 ·rintro ⟨h1, h2, h3, h4⟩
  refine ⟨h1, fun j h => ⟨?_, h2 j h⟩⟩
  have h5 := h4 j h
  have h6 := h3 j h
  simp only [inStB, Bool.and_eq_true, decide_eq_true_eq] at h5
  simp only [decide_eq_false_iff_not] at h6
  exact ⟨h5.1, h5.2, by omega⟩
 ·rintro ⟨h1, h2⟩
  refine ⟨h1, fun j h => (h2 j h).2, fun j h => ?_, fun j h => ?_⟩
  ·simp only [decide_eq_false_iff_not]
   have := (h2 j h).1.2.2
   omega
  ·simp only [inStB, Bool.and_eq_true, decide_eq_true_eq]
   exact ⟨(h2 j h).1.1, (h2 j h).1.2.1⟩
theorem ready_iff (b : Bb) : readyOkB b = true ↔ b.qs.length ≤ 3 ∧ rdyG b.qs b.cs := by
 unfold readyOkB
 rw [Bool.and_eq_true, Bool.and_eq_true, Bool.and_eq_true, decide_eq_true_eq, ascS_map, any_no, all_at]
 constructor
 ·rintro ⟨h1, h2, h3, h4⟩
  refine ⟨h1, fun j h => ⟨?_, h2 j h⟩⟩
  have h5 := h4 j h
  have h6 := h3 j h
  simp only [inStB, Bool.and_eq_true, decide_eq_true_eq] at h5
  simp only [decide_eq_false_iff_not] at h6
  exact ⟨h5.1, h5.2, by omega⟩
 ·rintro ⟨h1, h2⟩
  refine ⟨h1, fun j h => (h2 j h).2, fun j h => ?_, fun j h => ?_⟩
  ·simp only [decide_eq_false_iff_not]
   have := (h2 j h).1.2.2
   omega
  ·simp only [inStB, Bool.and_eq_true, decide_eq_true_eq]
   exact ⟨(h2 j h).1.1, (h2 j h).1.2.1⟩
theorem ids_iff (b : Bb) : idsB b = true ↔ idsG (b.ps.map (fun x : Ta => x.t.id) ++ b.qs.map (fun x : Ta => x.t.id)) b.nx := by
 unfold idsB
 rw [Bool.and_eq_true, sort_pair, any_no, List.map_append]
 have e : ∀ j (h : j < (b.ps ++ b.qs).length), (b.ps.map (fun x : Ta => x.t.id) ++ b.qs.map (fun x : Ta => x.t.id))[j]'(by simpa using h) = (b.ps ++ b.qs)[j].t.id := fun j h => by
  have : b.ps.map (fun x : Ta => x.t.id) ++ b.qs.map (fun x : Ta => x.t.id) = (b.ps ++ b.qs).map (fun x : Ta => x.t.id) := by rw [List.map_append]
  simp only [this, List.getElem_map]
 constructor
 ·rintro ⟨h1, h2⟩ j h
  refine ⟨(ids_pair _).2 h1 j h, ?_⟩
  have hj : j < (b.ps ++ b.qs).length := by simpa using h
  have h3 := h2 j hj
  simp only [decide_eq_false_iff_not] at h3
  rw [e j hj]
  omega
 ·intro h
  refine ⟨(ids_pair _).1 fun j hj => (h j hj).1, fun j hj => ?_⟩
  have h3 := (h j (by simpa using hj)).2
  rw [e j hj] at h3
  simp only [decide_eq_false_iff_not]
  omega
theorem ib_sb (b : Bb) : ibB b = sbB b := by
 rw [Bool.eq_iff_iff]
 unfold ibB sbB
 rw [decide_eq_true_eq]
 simp only [Bool.and_eq_true, decide_eq_true_eq]
 rw [any_no, past_iff, ready_iff, ids_iff]
 constructor
 ·rintro ⟨⟨⟨⟨⟨⟨⟨⟨h1, h2⟩, h3⟩, h4⟩, h5⟩, h6⟩, h7⟩, h8⟩, h9⟩
  refine ⟨h5, h7.1, h8.1, ⟨h1, h2⟩, ⟨h3, h4⟩, fun j h => ?_, h7.2, h8.2, h9⟩
  have := h6 j h
  simp only [decide_eq_false_iff_not] at this
  omega
 ·rintro ⟨h5, h71, h81, ⟨h1, h2⟩, ⟨h3, h4⟩, h6, h72, h82, h9⟩
  refine ⟨⟨⟨⟨⟨⟨⟨⟨h1, h2⟩, h3⟩, h4⟩, h5⟩, fun j h => ?_⟩, ⟨h71, h72⟩⟩, ⟨h81, h82⟩⟩, h9⟩
  have := h6 j h
  simp only [decide_eq_false_iff_not]
  omega
theorem own_none {α : Type} {E : Enc α} {e : TypeId} {w : World} {lo n c : Nat} {a : Option Addr} {xs : List α} (h : GOwn E e w lo (.slice a n c) xs) (ha : a = none) : n = 0 ∧ c = 0 := by
 rcases h.2 with ⟨hv, _⟩ | ⟨g, cap, cur, hv, _⟩
 ·cases hv
  exact ⟨rfl, rfl⟩
 ·subst ha
  cases hv
theorem BLie.nones {w : World} {lo hi : Nat} {c : Bb} (h : BLie w lo hi c) : (c.pa = none → c.ps.length = 0 ∧ c.pc = 0) ∧ (c.qa = none → c.qs.length = 0 ∧ c.qc = 0) := by
 obtain ⟨m1, m2, _, _, _, h1, h2, h3⟩ := h.ex
 exact ⟨fun e => own_none h2.own.own e, fun e => own_none h3.own.own e⟩

end Go.Proofs.YtpnnncfbodfnhaaGreatDoor

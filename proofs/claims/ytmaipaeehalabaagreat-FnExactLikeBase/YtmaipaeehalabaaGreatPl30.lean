/- LikeBase of both sides. -/
import Derived.Test.YtmaipaeehalabaaGreatPl21
import Derived.Test.YtmaipaeehalabaaGreatPl29
import Derived.Deep.RegionHeld3
import Derived.Deep.Cut
import Derived.Deep.CutRange
namespace Go.Proofs.YtmaipaeehalabaaGreat
open Go.RowKit
open KM
attribute [local go_sem ↓] Go.wp_at_zero Go.wp_at_succ

def likeBB (b c : Bb) : Bool := decide (b.cs = c.cs) && (likeB (txs b.ps) (txs c.ps) && (likeB (txs b.qs) (txs c.qs) && sameB b.vs c.vs b.cs))
theorem likeBB_same {b c b' c' : Bb} (h : BSame b b') (k : BSame c c') : likeBB b' c' = likeBB b c := by
  unfold likeBB
  rw [h.cs, k.cs, h.p, k.p, h.q, k.q, h.v, k.v]

set_option maxRecDepth 100000 in
set_option maxHeartbeats 2000000 in
theorem slikeB (b c : Bb) (hf : BFit b) (hg : BFit c) (w : World) (hp : BRows w b) (hq : BRows w c) :
    Calls Tryz.prog 5 #[.agg #[.slice b.va b.vs.length b.vc, .slice b.pa b.ps.length b.pc, .slice b.qa b.qs.length b.qc, .int .i64 b.cs, .int .i64 b.nx], .agg #[.slice c.va c.vs.length c.vc, .slice c.pa c.ps.length c.pc, .slice c.qa c.qs.length c.qc, .int .i64 c.cs, .int .i64 c.nx]] w fun e w' => e = .returned (.bool (likeBB b c)) ∧ Below w.heap.size w w' := by
  have BA0 : Hid (Bx ((w.alloc (.cells #[.slice b.va b.vs.length b.vc, .slice b.pa b.ps.length b.pc, .slice b.qa b.qs.length b.qc, .int .i64 b.cs, .int .i64 b.nx] 31)).alloc (.cells #[.slice c.va c.vs.length c.vc, .slice c.pa c.ps.length c.pc, .slice c.qa c.qs.length c.qc, .int .i64 c.cs, .int .i64 c.nx] 31)) w.heap.size [.slice b.va b.vs.length b.vc, .slice b.pa b.ps.length b.pc, .slice b.qa b.qs.length b.qc, .int .i64 b.cs, .int .i64 b.nx]) := (Bx.new w [.slice b.va b.vs.length b.vc, .slice b.pa b.ps.length b.pc, .slice b.qa b.qs.length b.qc, .int .i64 b.cs, .int .i64 b.nx] 31).alloc _
  have BB0 : Hid (Bx ((w.alloc (.cells #[.slice b.va b.vs.length b.vc, .slice b.pa b.ps.length b.pc, .slice b.qa b.qs.length b.qc, .int .i64 b.cs, .int .i64 b.nx] 31)).alloc (.cells #[.slice c.va c.vs.length c.vc, .slice c.pa c.ps.length c.pc, .slice c.qa c.qs.length c.qc, .int .i64 c.cs, .int .i64 c.nx] 31)) (w.heap.size + 1) [.slice c.va c.vs.length c.vc, .slice c.pa c.ps.length c.pc, .slice c.qa c.qs.length c.qc, .int .i64 c.cs, .int .i64 c.nx]) := by
    have h := Bx.new (w.alloc (.cells #[.slice b.va b.vs.length b.vc, .slice b.pa b.ps.length b.pc, .slice b.qa b.qs.length b.qc, .int .i64 b.cs, .int .i64 b.nx] 31)) [.slice c.va c.vs.length c.vc, .slice c.pa c.ps.length c.pc, .slice c.qa c.qs.length c.qc, .int .i64 c.cs, .int .i64 c.nx] 31
    rw [World.size_alloc] at h
    exact h
  have HB0 : Hid (Below w.heap.size w ((w.alloc (.cells #[.slice b.va b.vs.length b.vc, .slice b.pa b.ps.length b.pc, .slice b.qa b.qs.length b.qc, .int .i64 b.cs, .int .i64 b.nx] 31)).alloc (.cells #[.slice c.va c.vs.length c.vc, .slice c.pa c.ps.length c.pc, .slice c.qa c.qs.length c.qc, .int .i64 c.cs, .int .i64 c.nx] 31))) := ((belowRefl w).alloc (Nat.le_refl _) _).alloc (by simp) _
  have C1 : Hid (∀ W : World, Below w.heap.size w W → Calls Tryz.prog 11 #[.slice b.pa b.ps.length b.pc, .slice c.pa c.ps.length c.pc] W fun e w' => e = .returned (.bool (likeB (txs b.ps) (txs c.ps))) ∧ Below W.heap.size W w') := fun W h => slike11 b.ps c.ps b.pa c.pa b.pc c.pc _ _ rfl rfl (Nat.le_trans hf.pl (by omega)) (fun x hx => hf.p.2 _ (List.mem_map.2 ⟨x, hx, rfl⟩)) (fun x hx => hg.p.2 _ (List.mem_map.2 ⟨x, hx, rfl⟩)) W (hp.p.below h) (hq.p.below h)
  have C2 : Hid (∀ W : World, Below w.heap.size w W → Calls Tryz.prog 11 #[.slice b.qa b.qs.length b.qc, .slice c.qa c.qs.length c.qc] W fun e w' => e = .returned (.bool (likeB (txs b.qs) (txs c.qs))) ∧ Below W.heap.size W w') := fun W h => slike11 b.qs c.qs b.qa c.qa b.qc c.qc _ _ rfl rfl (Nat.le_trans hf.ql (by omega)) (fun x hx => hf.q.2 _ (List.mem_map.2 ⟨x, hx, rfl⟩)) (fun x hx => hg.q.2 _ (List.mem_map.2 ⟨x, hx, rfl⟩)) W (hp.q.below h) (hq.q.below h)
  have C3 : Hid (∀ W : World, Below w.heap.size w W → Calls Tryz.prog 12 #[.slice b.va b.vs.length b.vc, .slice c.va c.vs.length c.vc, .int .i64 b.cs] W fun e w' => e = .returned (.bool (sameB b.vs c.vs b.cs)) ∧ Below W.heap.size W w') := fun W h => ssame b.vs c.vs b.va c.va b.vc c.vc b.cs (Nat.le_trans hf.vl (by omega)) (Nat.le_trans hg.vl (by omega)) W (hp.v.below h) (hq.v.below h)
  have HE : Hid (likeBB b c = (decide (b.cs = c.cs) && (likeB (txs b.ps) (txs c.ps) && (likeB (txs b.qs) (txs c.qs) && sameB b.vs c.vs b.cs)))) := rfl
  clear hf hg hp hq
  generalize likeBB b c = R at *
  generalize likeB (txs b.ps) (txs c.ps) = P1 at *
  generalize likeB (txs b.qs) (txs c.qs) = P2 at *
  generalize sameB b.vs c.vs b.cs = P3 at *
  go_enter Tryz.func5, Tryz.ntmps5
  go_upto_region 1 with fail
  generalize ((w.alloc (.cells #[.slice b.va b.vs.length b.vc, .slice b.pa b.ps.length b.pc, .slice b.qa b.qs.length b.qc, .int .i64 b.cs, .int .i64 b.nx] 31)).alloc (.cells #[.slice c.va c.vs.length c.vc, .slice c.pa c.ps.length c.pc, .slice c.qa c.qs.length c.qc, .int .i64 c.cs, .int .i64 c.nx] 31)) = w0 at *
  have x3 := BA0.out.c3
  have y3 := BB0.out.c3
  by_cases hcs : b.cs = c.cs
  case neg =>
    have HR : Hid (R = false) := by show _ = _; rw [HE.out, decide_eq_false hcs]; rfl
    have hz1 : (b.cs == c.cs) = false := by simp [hcs]
    have hz2 : (b.cs != c.cs) = true := by simp [hcs]
    clear hcs
    go_wp2
    go_ret
    exact ⟨by rw [HR.out]; rfl, HB0.out⟩
  have hz1 : (b.cs == c.cs) = true := by simp [hcs]
  have hz2 : (b.cs != c.cs) = false := by simp [hcs]
  have HQ : Hid (R = (P1 && (P2 && P3))) := by show _ = _; rw [HE.out, decide_eq_true hcs]; rfl
  clear hcs HE
  have x1 := BA0.out.c1
  have y1 := BB0.out.c1
  go_wp2_with fail
  refine (C1.out _ HB0.out).mono ?_
  rintro e w1 ⟨rfl, hb1⟩
  have BA1 : Hid (Bx w1 w.heap.size [.slice b.va b.vs.length b.vc, .slice b.pa b.ps.length b.pc, .slice b.qa b.qs.length b.qc, .int .i64 b.cs, .int .i64 b.nx]) := BA0.out.below hb1
  have BB1 : Hid (Bx w1 (w.heap.size + 1) [.slice c.va c.vs.length c.vc, .slice c.pa c.ps.length c.pc, .slice c.qa c.qs.length c.qc, .int .i64 c.cs, .int .i64 c.nx]) := BB0.out.below hb1
  have HB1 : Hid (Below w.heap.size w w1) := HB0.out.trans (hb1.mono HB0.out.size)
  clear hb1 BA0 BB0 HB0 x1 y1 x3 y3 C1
  cases P1 with
  | false =>
    have HR : Hid (R = false) := HQ.out
    go_wp2
    go_ret
    exact ⟨by rw [HR.out]; rfl, HB1.out⟩
  | true =>
    have HQ2 : Hid (R = (P2 && P3)) := HQ.out
    clear HQ
    have x2 := BA1.out.c2
    have y2 := BB1.out.c2
    go_wp2_with fail
    refine (C2.out _ HB1.out).mono ?_
    rintro e w2 ⟨rfl, hb2⟩
    have BA2 : Hid (Bx w2 w.heap.size [.slice b.va b.vs.length b.vc, .slice b.pa b.ps.length b.pc, .slice b.qa b.qs.length b.qc, .int .i64 b.cs, .int .i64 b.nx]) := BA1.out.below hb2
    have BB2 : Hid (Bx w2 (w.heap.size + 1) [.slice c.va c.vs.length c.vc, .slice c.pa c.ps.length c.pc, .slice c.qa c.qs.length c.qc, .int .i64 c.cs, .int .i64 c.nx]) := BB1.out.below hb2
    have HB2 : Hid (Below w.heap.size w w2) := HB1.out.trans (hb2.mono HB1.out.size)
    clear hb2 BA1 BB1 HB1 x2 y2 C2
    cases P2 with
    | false =>
      have HR : Hid (R = false) := HQ2.out
      go_wp2
      go_ret
      exact ⟨by rw [HR.out]; rfl, HB2.out⟩
    | true =>
      have HQ3 : Hid (R = P3) := HQ2.out
      clear HQ2
      have x0 := BA2.out.c0
      have y0 := BB2.out.c0
      have x3 := BA2.out.c3
      go_wp2_with fail
      refine (C3.out _ HB2.out).mono ?_
      rintro e w3 ⟨rfl, hb3⟩
      have HB3 : Hid (Below w.heap.size w w3) := HB2.out.trans (hb3.mono HB2.out.size)
      clear hb3 x0 y0 x3
      go_wp2
      go_ret
      exact ⟨by rw [HQ3.out]; rfl, HB3.out⟩

set_option maxRecDepth 100000 in
set_option maxHeartbeats 2000000 in
theorem ilikeB (b c : Bb) (hf : BFit b) (hg : BFit c) (w : World) (hp : BRows w b) (hq : BRows w c) :
    Calls Tryz.prog 7 #[.agg #[.slice b.va b.vs.length b.vc, .slice b.pa b.ps.length b.pc, .slice b.qa b.qs.length b.qc, .int .i64 b.cs, .int .i64 b.nx], .agg #[.slice c.va c.vs.length c.vc, .slice c.pa c.ps.length c.pc, .slice c.qa c.qs.length c.qc, .int .i64 c.cs, .int .i64 c.nx]] w fun e w' => e = .returned (.bool (likeBB b c)) ∧ Below w.heap.size w w' := by
  have BA0 : Hid (Bx ((w.alloc (.cells #[.slice b.va b.vs.length b.vc, .slice b.pa b.ps.length b.pc, .slice b.qa b.qs.length b.qc, .int .i64 b.cs, .int .i64 b.nx] 31)).alloc (.cells #[.slice c.va c.vs.length c.vc, .slice c.pa c.ps.length c.pc, .slice c.qa c.qs.length c.qc, .int .i64 c.cs, .int .i64 c.nx] 31)) w.heap.size [.slice b.va b.vs.length b.vc, .slice b.pa b.ps.length b.pc, .slice b.qa b.qs.length b.qc, .int .i64 b.cs, .int .i64 b.nx]) := (Bx.new w [.slice b.va b.vs.length b.vc, .slice b.pa b.ps.length b.pc, .slice b.qa b.qs.length b.qc, .int .i64 b.cs, .int .i64 b.nx] 31).alloc _
  have BB0 : Hid (Bx ((w.alloc (.cells #[.slice b.va b.vs.length b.vc, .slice b.pa b.ps.length b.pc, .slice b.qa b.qs.length b.qc, .int .i64 b.cs, .int .i64 b.nx] 31)).alloc (.cells #[.slice c.va c.vs.length c.vc, .slice c.pa c.ps.length c.pc, .slice c.qa c.qs.length c.qc, .int .i64 c.cs, .int .i64 c.nx] 31)) (w.heap.size + 1) [.slice c.va c.vs.length c.vc, .slice c.pa c.ps.length c.pc, .slice c.qa c.qs.length c.qc, .int .i64 c.cs, .int .i64 c.nx]) := by
    have h := Bx.new (w.alloc (.cells #[.slice b.va b.vs.length b.vc, .slice b.pa b.ps.length b.pc, .slice b.qa b.qs.length b.qc, .int .i64 b.cs, .int .i64 b.nx] 31)) [.slice c.va c.vs.length c.vc, .slice c.pa c.ps.length c.pc, .slice c.qa c.qs.length c.qc, .int .i64 c.cs, .int .i64 c.nx] 31
    rw [World.size_alloc] at h
    exact h
  have HB0 : Hid (Below w.heap.size w ((w.alloc (.cells #[.slice b.va b.vs.length b.vc, .slice b.pa b.ps.length b.pc, .slice b.qa b.qs.length b.qc, .int .i64 b.cs, .int .i64 b.nx] 31)).alloc (.cells #[.slice c.va c.vs.length c.vc, .slice c.pa c.ps.length c.pc, .slice c.qa c.qs.length c.qc, .int .i64 c.cs, .int .i64 c.nx] 31))) := ((belowRefl w).alloc (Nat.le_refl _) _).alloc (by simp) _
  have C1 : Hid (∀ W : World, Below w.heap.size w W → Calls Tryz.prog 15 #[.slice b.pa b.ps.length b.pc, .slice c.pa c.ps.length c.pc] W fun e w' => e = .returned (.bool (likeB (txs b.ps) (txs c.ps))) ∧ Below W.heap.size W w') := fun W h => ilike15 b.ps c.ps b.pa c.pa b.pc c.pc _ _ rfl rfl (Nat.le_trans hf.pl (by omega)) (fun x hx => hf.p.2 _ (List.mem_map.2 ⟨x, hx, rfl⟩)) (fun x hx => hg.p.2 _ (List.mem_map.2 ⟨x, hx, rfl⟩)) W (hp.p.below h) (hq.p.below h)
  have C2 : Hid (∀ W : World, Below w.heap.size w W → Calls Tryz.prog 15 #[.slice b.qa b.qs.length b.qc, .slice c.qa c.qs.length c.qc] W fun e w' => e = .returned (.bool (likeB (txs b.qs) (txs c.qs))) ∧ Below W.heap.size W w') := fun W h => ilike15 b.qs c.qs b.qa c.qa b.qc c.qc _ _ rfl rfl (Nat.le_trans hf.ql (by omega)) (fun x hx => hf.q.2 _ (List.mem_map.2 ⟨x, hx, rfl⟩)) (fun x hx => hg.q.2 _ (List.mem_map.2 ⟨x, hx, rfl⟩)) W (hp.q.below h) (hq.q.below h)
  have C3 : Hid (∀ W : World, Below w.heap.size w W → Calls Tryz.prog 16 #[.slice b.va b.vs.length b.vc, .slice c.va c.vs.length c.vc, .int .i64 b.cs] W fun e w' => e = .returned (.bool (sameB b.vs c.vs b.cs)) ∧ Below W.heap.size W w') := fun W h => isame b.vs c.vs b.va c.va b.vc c.vc b.cs (Nat.le_trans hf.vl (by omega)) (Nat.le_trans hg.vl (by omega)) hf.vf hg.vf W (hp.v.below h) (hq.v.below h)
  have HE : Hid (likeBB b c = (decide (b.cs = c.cs) && (likeB (txs b.ps) (txs c.ps) && (likeB (txs b.qs) (txs c.qs) && sameB b.vs c.vs b.cs)))) := rfl
  clear hf hg hp hq
  generalize likeBB b c = R at *
  generalize likeB (txs b.ps) (txs c.ps) = P1 at *
  generalize likeB (txs b.qs) (txs c.qs) = P2 at *
  generalize sameB b.vs c.vs b.cs = P3 at *
  go_enter Tryz.func7, Tryz.ntmps7
  go_upto_region 1 with fail
  generalize ((w.alloc (.cells #[.slice b.va b.vs.length b.vc, .slice b.pa b.ps.length b.pc, .slice b.qa b.qs.length b.qc, .int .i64 b.cs, .int .i64 b.nx] 31)).alloc (.cells #[.slice c.va c.vs.length c.vc, .slice c.pa c.ps.length c.pc, .slice c.qa c.qs.length c.qc, .int .i64 c.cs, .int .i64 c.nx] 31)) = w0 at *
  have x3 := BA0.out.c3
  have y3 := BB0.out.c3
  by_cases hcs : b.cs = c.cs
  case neg =>
    have HR : Hid (R = false) := by show _ = _; rw [HE.out, decide_eq_false hcs]; rfl
    have hz1 : (b.cs == c.cs) = false := by simp [hcs]
    have hz2 : (b.cs != c.cs) = true := by simp [hcs]
    clear hcs
    go_wp2
    go_ret
    exact ⟨by rw [HR.out]; rfl, HB0.out⟩
  have hz1 : (b.cs == c.cs) = true := by simp [hcs]
  have hz2 : (b.cs != c.cs) = false := by simp [hcs]
  have HQ : Hid (R = (P1 && (P2 && P3))) := by show _ = _; rw [HE.out, decide_eq_true hcs]; rfl
  clear hcs HE
  have x1 := BA0.out.c1
  have y1 := BB0.out.c1
  go_wp2_with fail
  refine (C1.out _ HB0.out).mono ?_
  rintro e w1 ⟨rfl, hb1⟩
  have BA1 : Hid (Bx w1 w.heap.size [.slice b.va b.vs.length b.vc, .slice b.pa b.ps.length b.pc, .slice b.qa b.qs.length b.qc, .int .i64 b.cs, .int .i64 b.nx]) := BA0.out.below hb1
  have BB1 : Hid (Bx w1 (w.heap.size + 1) [.slice c.va c.vs.length c.vc, .slice c.pa c.ps.length c.pc, .slice c.qa c.qs.length c.qc, .int .i64 c.cs, .int .i64 c.nx]) := BB0.out.below hb1
  have HB1 : Hid (Below w.heap.size w w1) := HB0.out.trans (hb1.mono HB0.out.size)
  clear hb1 BA0 BB0 HB0 x1 y1 x3 y3 C1
  cases P1 with
  | false =>
    have HR : Hid (R = false) := HQ.out
    go_wp2
    go_ret
    exact ⟨by rw [HR.out]; rfl, HB1.out⟩
  | true =>
    have HQ2 : Hid (R = (P2 && P3)) := HQ.out
    clear HQ
    have x2 := BA1.out.c2
    have y2 := BB1.out.c2
    go_wp2_with fail
    refine (C2.out _ HB1.out).mono ?_
    rintro e w2 ⟨rfl, hb2⟩
    have BA2 : Hid (Bx w2 w.heap.size [.slice b.va b.vs.length b.vc, .slice b.pa b.ps.length b.pc, .slice b.qa b.qs.length b.qc, .int .i64 b.cs, .int .i64 b.nx]) := BA1.out.below hb2
    have BB2 : Hid (Bx w2 (w.heap.size + 1) [.slice c.va c.vs.length c.vc, .slice c.pa c.ps.length c.pc, .slice c.qa c.qs.length c.qc, .int .i64 c.cs, .int .i64 c.nx]) := BB1.out.below hb2
    have HB2 : Hid (Below w.heap.size w w2) := HB1.out.trans (hb2.mono HB1.out.size)
    clear hb2 BA1 BB1 HB1 x2 y2 C2
    cases P2 with
    | false =>
      have HR : Hid (R = false) := HQ2.out
      go_wp2
      go_ret
      exact ⟨by rw [HR.out]; rfl, HB2.out⟩
    | true =>
      have HQ3 : Hid (R = P3) := HQ2.out
      clear HQ2
      have x0 := BA2.out.c0
      have y0 := BB2.out.c0
      have x3 := BA2.out.c3
      go_wp2_with fail
      refine (C3.out _ HB2.out).mono ?_
      rintro e w3 ⟨rfl, hb3⟩
      have HB3 : Hid (Below w.heap.size w w3) := HB2.out.trans (hb3.mono HB2.out.size)
      clear hb3 x0 y0 x3
      go_wp2
      go_ret
      exact ⟨by rw [HQ3.out]; rfl, HB3.out⟩

end Go.Proofs.YtmaipaeehalabaaGreat

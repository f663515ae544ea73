/- Lists of those that look and change: their copy, their likeness. -/
import Derived.Test.YtnneodofajhbcaaPw02
import Derived.Lib.ItoaNum
import Derived.Lib.ItoaLen
namespace Go.Proofs.Ytnneodofajhbcaa
open Go.RowKit
open KM
attribute [local go_sem ↓] Go.wp_at_zero Go.wp_at_succ

set_option maxRecDepth 100000 in
set_option maxHeartbeats 2000000 in
theorem eqL (xs ys : List Ta) (a1 a2 : Option Addr) (c1 c2 n : Nat) (hx : n = xs.length) (hy : n = ys.length) (hn : n ≤ 100000000) (ht : txs xs = txs ys) (hf : LFit (txs xs)) (w : World) (h1 : TRows w a1 xs) (h2 : TRows w a2 ys) :
    Calls Try.prog 22 #[.slice a1 n c1, .slice a2 n c2] w fun e w' => e = .returned (.bool true) ∧ Below w.heap.size w w' := by
  have H1 : Hid (TRows w a1 xs) := h1
  have H2 : Hid (TRows w a2 ys) := h2
  have HT : Hid (txs xs = txs ys) := ht
  have HF : Hid (LFit (txs xs)) := hf
  have HX : Hid (n = xs.length) := hx
  have HY : Hid (n = ys.length) := hy
  clear h1 h2 ht hf hx hy
  go_enter Try.func22, Try.ntmps22
  go_wp2
  go_loopw [5] (fun t wr => ∃ k : Nat, k ≤ n ∧ t = .int .i64 k ∧ Hid (Below w.heap.size w wr)) (fun t _ => n - (intOf t).toNat)
  case atStart => exact ⟨0, Nat.zero_le _, rfl, Below.refl _ _⟩
  case round =>
    obtain ⟨k, hk, rfl, HB⟩ := hrel
    by_cases hlt : k < n
    · have hlt' : (k : Int) < (n : Int) := by omega
      have h0 : (0 : Int) ≤ (k : Int) := by omega
      have hkx : k < xs.length := by rw [← HX.out]; exact hlt
      have hky : k < ys.length := by rw [← HY.out]; exact hlt
      obtain ⟨b1, o1, rfl, hl1, q1, u1⟩ := (H1.out.below HB.out).cls k hkx
      obtain ⟨b2, o2, rfl, hl2, q2, u2⟩ := (H2.out.below HB.out).cls k hky
      have et : xs[k].t = ys[k].t := by
        have h := congrArg (fun l : List Tx => l[k]?) HT.out
        simpa [txs, List.getElem?_eq_getElem hkx, List.getElem?_eq_getElem hky] using h
      have hfx : TFit xs[k].t := HF.out.2 _ (List.mem_map.2 ⟨_, List.getElem_mem hkx, rfl⟩)
      obtain ⟨x, hx⟩ : ∃ x, x = xs[k] := ⟨_, rfl⟩
      obtain ⟨y, hy⟩ : ∃ y, y = ys[k] := ⟨_, rfl⟩
      rw [← hx] at q1 u1 et hfx
      rw [← hy] at q2 u2 et
      clear hx hy
      have HE : Hid (∀ W : World, TRow W x.t x.ra x.wa → TRow W x.t y.ra y.wa → Calls Try.prog 38 #[.agg #[.int .i64 x.t.id, .int .i64 x.t.st, .int .i64 x.t.snap, .int .i64 x.t.cs, .slice x.ra x.t.rs.length x.rc, .slice x.wa x.t.ws.length x.wc, .bool x.t.out, .string x.t.nm], .agg #[.int .i64 y.t.id, .int .i64 y.t.st, .int .i64 y.t.snap, .int .i64 y.t.cs, .slice y.ra y.t.rs.length y.rc, .slice y.wa y.t.ws.length y.wc, .bool y.t.out, .string y.t.nm]] W fun e w' => e = .returned (.bool true) ∧ Below W.heap.size W w') := by
        intro W g1 g2
        rw [← et]
        exact eqT x.t x.ra x.wa y.ra y.wa x.rc x.wc y.rc y.wc (Nat.le_trans hfx.1 (by omega)) (Nat.le_trans hfx.2.2.1 (by omega)) W g1 g2
      have U1 : Hid (TRow wr x.t x.ra x.wa) := u1
      have U2 : Hid (TRow wr x.t y.ra y.wa) := by rw [et]; exact u2
      have hHd : wr.cell? ⟨b1, o1 + k * 8, none⟩ = some (.int .i64 x.t.id) ∧ wr.cell? ⟨b1, o1 + k * 8 + 1, none⟩ = some (.int .i64 x.t.st) ∧ wr.cell? ⟨b1, o1 + k * 8 + 2, none⟩ = some (.int .i64 x.t.snap) ∧ wr.cell? ⟨b1, o1 + k * 8 + 3, none⟩ = some (.int .i64 x.t.cs) ∧ wr.cell? ⟨b1, o1 + k * 8 + 4, none⟩ = some (.slice x.ra x.t.rs.length x.rc) ∧ wr.cell? ⟨b1, o1 + k * 8 + 5, none⟩ = some (.slice x.wa x.t.ws.length x.wc) ∧ wr.cell? ⟨b1, o1 + k * 8 + 6, none⟩ = some (.bool x.t.out) ∧ wr.cell? ⟨b1, o1 + k * 8 + 7, none⟩ = some (.string x.t.nm) ∧ wr.cell? ⟨b2, o2 + k * 8, none⟩ = some (.int .i64 y.t.id) ∧ wr.cell? ⟨b2, o2 + k * 8 + 1, none⟩ = some (.int .i64 y.t.st) ∧ wr.cell? ⟨b2, o2 + k * 8 + 2, none⟩ = some (.int .i64 y.t.snap) ∧ wr.cell? ⟨b2, o2 + k * 8 + 3, none⟩ = some (.int .i64 y.t.cs) ∧ wr.cell? ⟨b2, o2 + k * 8 + 4, none⟩ = some (.slice y.ra y.t.rs.length y.rc) ∧ wr.cell? ⟨b2, o2 + k * 8 + 5, none⟩ = some (.slice y.wa y.t.ws.length y.wc) ∧ wr.cell? ⟨b2, o2 + k * 8 + 6, none⟩ = some (.bool y.t.out) ∧ wr.cell? ⟨b2, o2 + k * 8 + 7, none⟩ = some (.string y.t.nm) := ⟨q1.c0, q1.c1, q1.c2, q1.c3, q1.c4, q1.c5, q1.c6, q1.c7, q2.c0, q2.c1, q2.c2, q2.c3, q2.c4, q2.c5, q2.c6, q2.c7⟩
      have Q1 := hide q1
      have Q2 := hide q2
      clear q1 q2 u1 u2 et hfx hkx hky
      have HB0 := hide HB.out
      go_wp2
      refine wp_region_held_drew (S := fun w' => w'.cell? ⟨b1, o1 + k * 8, none⟩ = some (.int .i64 x.t.id) ∧ w'.cell? ⟨b1, o1 + k * 8 + 1, none⟩ = some (.int .i64 x.t.st) ∧ w'.cell? ⟨b1, o1 + k * 8 + 2, none⟩ = some (.int .i64 x.t.snap) ∧ w'.cell? ⟨b1, o1 + k * 8 + 3, none⟩ = some (.int .i64 x.t.cs) ∧ w'.cell? ⟨b1, o1 + k * 8 + 4, none⟩ = some (.slice x.ra x.t.rs.length x.rc) ∧ w'.cell? ⟨b1, o1 + k * 8 + 5, none⟩ = some (.slice x.wa x.t.ws.length x.wc) ∧ w'.cell? ⟨b1, o1 + k * 8 + 6, none⟩ = some (.bool x.t.out) ∧ w'.cell? ⟨b1, o1 + k * 8 + 7, none⟩ = some (.string x.t.nm) ∧ w'.cell? ⟨b2, o2 + k * 8, none⟩ = some (.int .i64 y.t.id) ∧ w'.cell? ⟨b2, o2 + k * 8 + 1, none⟩ = some (.int .i64 y.t.st) ∧ w'.cell? ⟨b2, o2 + k * 8 + 2, none⟩ = some (.int .i64 y.t.snap) ∧ w'.cell? ⟨b2, o2 + k * 8 + 3, none⟩ = some (.int .i64 y.t.cs) ∧ w'.cell? ⟨b2, o2 + k * 8 + 4, none⟩ = some (.slice y.ra y.t.rs.length y.rc) ∧ w'.cell? ⟨b2, o2 + k * 8 + 5, none⟩ = some (.slice y.wa y.t.ws.length y.wc) ∧ w'.cell? ⟨b2, o2 + k * 8 + 6, none⟩ = some (.bool y.t.out) ∧ w'.cell? ⟨b2, o2 + k * 8 + 7, none⟩ = some (.string y.t.nm)) (by kernel_rfl) hHd (fun hHeld => ?_)
      (refine wpAnyH_take (i := 0) (v := ?_) rfl (by kernel_rfl) (by kernel_rfl) (by kernel_rfl) (fun _ _ _ h => h) (Or.inl ⟨by rfl, ?_⟩) (by assumption) ?_; rotate_left; (focus (intro w hSw; (try dsimp only at hSw); go_simp; (try with_reducible rfl); done)); simp only [Act.put, List.getElem_toArray, List.getElem_cons_zero, List.setIfInBounds_toArray, List.set_cons_zero, List.set_cons_succ])
      (refine wpAnyH_take (i := 1) (v := ?_) rfl (by kernel_rfl) (by kernel_rfl) (by kernel_rfl) (fun _ _ _ h => h) (Or.inl ⟨by rfl, ?_⟩) (by assumption) ?_; rotate_left; (focus (intro w hSw; (try dsimp only at hSw); go_simp; (try with_reducible rfl); done)); simp only [Act.put, List.getElem_toArray, List.getElem_cons_zero, List.getElem_cons_succ, List.setIfInBounds_toArray, List.set_cons_zero, List.set_cons_succ])
      (refine wpAnyH_take (i := 2) (v := ?_) rfl (by kernel_rfl) (by kernel_rfl) (by kernel_rfl) (fun _ _ _ h => h) (Or.inl ⟨by rfl, ?_⟩) (by assumption) ?_; rotate_left; (focus (intro w hSw; (try dsimp only at hSw); go_simp; (try with_reducible rfl); done)); simp only [Act.put, List.getElem_toArray, List.getElem_cons_zero, List.getElem_cons_succ, List.setIfInBounds_toArray, List.set_cons_zero, List.set_cons_succ])
      (refine wpAnyH_take (i := 3) (v := ?_) rfl (by kernel_rfl) (by kernel_rfl) (by kernel_rfl) (fun _ _ _ h => h) (Or.inl ⟨by rfl, ?_⟩) (by assumption) ?_; rotate_left; (focus (intro w hSw; (try dsimp only at hSw); go_simp; (try with_reducible rfl); done)); simp only [Act.put, List.getElem_toArray, List.getElem_cons_zero, List.getElem_cons_succ, List.setIfInBounds_toArray, List.set_cons_zero, List.set_cons_succ])
      (refine wpAnyH_take (i := 4) (v := ?_) rfl (by kernel_rfl) (by kernel_rfl) (by kernel_rfl) (fun _ _ _ h => h) (Or.inl ⟨by rfl, ?_⟩) (by assumption) ?_; rotate_left; (focus (intro w hSw; (try dsimp only at hSw); go_simp; (try with_reducible rfl); done)); simp only [Act.put, List.getElem_toArray, List.getElem_cons_zero, List.getElem_cons_succ, List.setIfInBounds_toArray, List.set_cons_zero, List.set_cons_succ])
      (refine wpAnyH_take (i := 5) (v := ?_) rfl (by kernel_rfl) (by kernel_rfl) (by kernel_rfl) (fun _ _ _ h => h) (Or.inl ⟨by rfl, ?_⟩) (by assumption) ?_; rotate_left; (focus (intro w hSw; (try dsimp only at hSw); go_simp; (try with_reducible rfl); done)); simp only [Act.put, List.getElem_toArray, List.getElem_cons_zero, List.getElem_cons_succ, List.setIfInBounds_toArray, List.set_cons_zero, List.set_cons_succ])
      (refine wpAnyH_take (i := 6) (v := ?_) rfl (by kernel_rfl) (by kernel_rfl) (by kernel_rfl) (fun _ _ _ h => h) (Or.inl ⟨by rfl, ?_⟩) (by assumption) ?_; rotate_left; (focus (intro w hSw; (try dsimp only at hSw); go_simp; (try with_reducible rfl); done)); simp only [Act.put, List.getElem_toArray, List.getElem_cons_zero, List.getElem_cons_succ, List.setIfInBounds_toArray, List.set_cons_zero, List.set_cons_succ])
      (refine wpAnyH_take (i := 7) (v := ?_) rfl (by kernel_rfl) (by kernel_rfl) (by kernel_rfl) (fun _ _ _ h => h) (Or.inl ⟨by rfl, ?_⟩) (by assumption) ?_; rotate_left; (focus (intro w hSw; (try dsimp only at hSw); go_simp; (try with_reducible rfl); done)); simp only [Act.put, List.getElem_toArray, List.getElem_cons_zero, List.getElem_cons_succ, List.setIfInBounds_toArray, List.set_cons_zero, List.set_cons_succ])
      refine wpAnyH_ready (rs := [8]) (by kernel_rfl) (by simp) ?_
      refine AllReadyH.cons rfl (fun K hK => ?_) AllReadyH.nil
      go_simp
      go_wp2_with fail
      refine (HE.out _ U1.out.drewT U2.out.drewT).mono ?_
      rintro e w2 ⟨rfl, hb2⟩
      have hbu := undrew hb2
      have hHd2 : w2.cell? ⟨b1, o1 + k * 8, none⟩ = some (.int .i64 x.t.id) ∧ w2.cell? ⟨b1, o1 + k * 8 + 1, none⟩ = some (.int .i64 x.t.st) ∧ w2.cell? ⟨b1, o1 + k * 8 + 2, none⟩ = some (.int .i64 x.t.snap) ∧ w2.cell? ⟨b1, o1 + k * 8 + 3, none⟩ = some (.int .i64 x.t.cs) ∧ w2.cell? ⟨b1, o1 + k * 8 + 4, none⟩ = some (.slice x.ra x.t.rs.length x.rc) ∧ w2.cell? ⟨b1, o1 + k * 8 + 5, none⟩ = some (.slice x.wa x.t.ws.length x.wc) ∧ w2.cell? ⟨b1, o1 + k * 8 + 6, none⟩ = some (.bool x.t.out) ∧ w2.cell? ⟨b1, o1 + k * 8 + 7, none⟩ = some (.string x.t.nm) ∧ w2.cell? ⟨b2, o2 + k * 8, none⟩ = some (.int .i64 y.t.id) ∧ w2.cell? ⟨b2, o2 + k * 8 + 1, none⟩ = some (.int .i64 y.t.st) ∧ w2.cell? ⟨b2, o2 + k * 8 + 2, none⟩ = some (.int .i64 y.t.snap) ∧ w2.cell? ⟨b2, o2 + k * 8 + 3, none⟩ = some (.int .i64 y.t.cs) ∧ w2.cell? ⟨b2, o2 + k * 8 + 4, none⟩ = some (.slice y.ra y.t.rs.length y.rc) ∧ w2.cell? ⟨b2, o2 + k * 8 + 5, none⟩ = some (.slice y.wa y.t.ws.length y.wc) ∧ w2.cell? ⟨b2, o2 + k * 8 + 6, none⟩ = some (.bool y.t.out) ∧ w2.cell? ⟨b2, o2 + k * 8 + 7, none⟩ = some (.string y.t.nm) := by
        have cb : ∀ o, w2.cell? ⟨b1, o, none⟩ = wr.cell? ⟨b1, o, none⟩ := fun o => hbu.cell (p := ⟨b1, o, none⟩) hl1
        have cc : ∀ o, w2.cell? ⟨b2, o, none⟩ = wr.cell? ⟨b2, o, none⟩ := fun o => hbu.cell (p := ⟨b2, o, none⟩) hl2
        simp only [cb, cc]
        exact hHd
      go_wp2_with fail
      refine hK.out _ _ hHd2 (fun hHeld2 => ?_)
      have HB2 : Hid (Below w.heap.size w w2) := HB0.out.trans (hbu.mono HB0.out.size)
      clear hK K hb2 hbu hHd hHd2
      (refine wpAnyH_take (i := 9) (v := ?_) rfl (by kernel_rfl) (by kernel_rfl) (by kernel_rfl) (fun _ _ _ h => h) (Or.inl ⟨by rfl, ?_⟩) (by assumption) ?_; rotate_left; (focus (intro w hSw; (try dsimp only at hSw); go_simp; (try with_reducible rfl); done)); simp only [Act.put, List.getElem_toArray, List.getElem_cons_zero, List.getElem_cons_succ, List.setIfInBounds_toArray, List.set_cons_zero, List.set_cons_succ])
      refine wpAnyH_done (by kernel_rfl) ?_ _
      go_wp2
      go_roundw
      case rel => exact ⟨k + 1, by omega, by go_num, HB2⟩
      case measure => simp [intOf]; omega
    · have hd : ¬ (k : Int) < (n : Int) := by omega
      go_wp2
      go_ret
      exact ⟨rfl, HB.out⟩

end Go.Proofs.Ytnneodofajhbcaa

namespace Go.Proofs.Ytnneodofajhbcaa
open Go.RowKit
open KM
attribute [local go_sem ↓] Go.wp_at_zero Go.wp_at_succ

end Go.Proofs.Ytnneodofajhbcaa

namespace Go.Proofs.Ytnneodofajhbcaa
open Go.RowKit
open KM
attribute [local go_sem ↓] Go.wp_at_zero Go.wp_at_succ

structure Bb where
  vs : List Vr
  ps : List Ta
  qs : List Ta
  cs : Int
  nx : Int
  va : Option Addr
  vc : Nat
  pa : Option Addr
  pc : Nat
  qa : Option Addr
  qc : Nat
structure BRows (w : World) (b : Bb) : Prop where
  v : GRow encV w b.va b.vs
  p : TRows w b.pa b.ps
  q : TRows w b.qa b.qs
theorem BRows.below {w w' : World} {b : Bb} (h : BRows w b) (hb : Below w.heap.size w w') : BRows w' b := ⟨h.v.below hb, h.p.below hb, h.q.below hb⟩
structure BArg (w : World) (b : Bb) : Prop where
  vl : b.vs.length ≤ maxLen
  vf : ∀ x ∈ b.vs, x.1.size ≤ maxLen ∧ x.2.1.size ≤ maxLen
  v : GRow encV w b.va b.vs
  p : LArg w b.pa b.ps
  q : LArg w b.qa b.qs
theorem BArg.below {w w' : World} {b : Bb} (h : BArg w b) (hb : Below w.heap.size w w') : BArg w' b := ⟨h.vl, h.vf, h.v.below hb, h.p.below hb, h.q.below hb⟩
theorem BArg.rows {w : World} {b : Bb} (h : BArg w b) : BRows w b := ⟨h.v, h.p.rows, h.q.rows⟩
structure BFit (b : Bb) : Prop where
  vl : b.vs.length ≤ 1048576
  vf : VFit b.vs
  p : LFit (txs b.ps)
  q : LFit (txs b.qs)
theorem BFit.pl {b : Bb} (h : BFit b) : b.ps.length ≤ 1048576 := by have := h.p.1; rwa [txs_len] at this
theorem BFit.ql {b : Bb} (h : BFit b) : b.qs.length ≤ 1048576 := by have := h.q.1; rwa [txs_len] at this
structure BSame (b c : Bb) : Prop where
  v : c.vs = b.vs
  p : txs c.ps = txs b.ps
  q : txs c.qs = txs b.qs
  cs : c.cs = b.cs
  nx : c.nx = b.nx
theorem BSame.pl {b c : Bb} (h : BSame b c) : c.ps.length = b.ps.length := by rw [← txs_len, h.p, txs_len]
theorem BSame.ql {b c : Bb} (h : BSame b c) : c.qs.length = b.qs.length := by rw [← txs_len, h.q, txs_len]
theorem BSame.vl {b c : Bb} (h : BSame b c) : c.vs.length = b.vs.length := by rw [h.v]
theorem BSame.fit {b c : Bb} (h : BSame b c) (hf : BFit b) : BFit c := ⟨by rw [h.v]; exact hf.vl, by rw [h.v]; exact hf.vf, by rw [h.p]; exact hf.p, by rw [h.q]; exact hf.q⟩
theorem BSame.trans {b c d : Bb} (h : BSame b c) (k : BSame c d) : BSame b d := ⟨k.v.trans h.v, k.p.trans h.p, k.q.trans h.q, k.cs.trans h.cs, k.nx.trans h.nx⟩
theorem BSame.symm {b c : Bb} (h : BSame b c) : BSame c b := ⟨h.v.symm, h.p.symm, h.q.symm, h.cs.symm, h.nx.symm⟩

set_option maxRecDepth 100000 in
set_option maxHeartbeats 2000000 in
theorem eqB0 (b c : Bb) (hs : BSame b c) (hf : BFit b) (w : World) (hp : BRows w b) (hq : BRows w c) :
    Calls Try.prog 53 #[.agg #[.slice b.va b.vs.length b.vc, .slice b.pa b.ps.length b.pc, .slice b.qa b.qs.length b.qc, .int .i64 b.cs, .int .i64 b.nx], .agg #[.slice c.va b.vs.length c.vc, .slice c.pa b.ps.length c.pc, .slice c.qa b.qs.length c.qc, .int .i64 b.cs, .int .i64 b.nx]] w fun e w' => e = .returned (.bool true) ∧ Below w.heap.size w w' := by
  have HP : Hid (BRows w b) := hp
  have HQ : Hid (BRows w c) := hq
  have HS : Hid (BSame b c) := hs
  have HF : Hid (BFit b) := hf
  clear hp hq hs hf
  have n3 := ne_self_int b.cs
  have n4 := ne_self_int b.nx
  have BA0 : Hid (Bx ((w.alloc (.cells #[.slice b.va b.vs.length b.vc, .slice b.pa b.ps.length b.pc, .slice b.qa b.qs.length b.qc, .int .i64 b.cs, .int .i64 b.nx] 34)).alloc (.cells #[.slice c.va b.vs.length c.vc, .slice c.pa b.ps.length c.pc, .slice c.qa b.qs.length c.qc, .int .i64 b.cs, .int .i64 b.nx] 34)) w.heap.size [.slice b.va b.vs.length b.vc, .slice b.pa b.ps.length b.pc, .slice b.qa b.qs.length b.qc, .int .i64 b.cs, .int .i64 b.nx]) := (Bx.new w [.slice b.va b.vs.length b.vc, .slice b.pa b.ps.length b.pc, .slice b.qa b.qs.length b.qc, .int .i64 b.cs, .int .i64 b.nx] 34).alloc _
  have BB0 : Hid (Bx ((w.alloc (.cells #[.slice b.va b.vs.length b.vc, .slice b.pa b.ps.length b.pc, .slice b.qa b.qs.length b.qc, .int .i64 b.cs, .int .i64 b.nx] 34)).alloc (.cells #[.slice c.va b.vs.length c.vc, .slice c.pa b.ps.length c.pc, .slice c.qa b.qs.length c.qc, .int .i64 b.cs, .int .i64 b.nx] 34)) (w.heap.size + 1) [.slice c.va b.vs.length c.vc, .slice c.pa b.ps.length c.pc, .slice c.qa b.qs.length c.qc, .int .i64 b.cs, .int .i64 b.nx]) := by
    have h := Bx.new (w.alloc (.cells #[.slice b.va b.vs.length b.vc, .slice b.pa b.ps.length b.pc, .slice b.qa b.qs.length b.qc, .int .i64 b.cs, .int .i64 b.nx] 34)) [.slice c.va b.vs.length c.vc, .slice c.pa b.ps.length c.pc, .slice c.qa b.qs.length c.qc, .int .i64 b.cs, .int .i64 b.nx] 34
    rw [show (w.alloc (.cells #[.slice b.va b.vs.length b.vc, .slice b.pa b.ps.length b.pc, .slice b.qa b.qs.length b.qc, .int .i64 b.cs, .int .i64 b.nx] 34)).heap.size = w.heap.size + 1 by simp] at h
    exact h
  have HB0 : Hid (Below w.heap.size w ((w.alloc (.cells #[.slice b.va b.vs.length b.vc, .slice b.pa b.ps.length b.pc, .slice b.qa b.qs.length b.qc, .int .i64 b.cs, .int .i64 b.nx] 34)).alloc (.cells #[.slice c.va b.vs.length c.vc, .slice c.pa b.ps.length c.pc, .slice c.qa b.qs.length c.qc, .int .i64 b.cs, .int .i64 b.nx] 34))) := ((belowRefl w).alloc (Nat.le_refl _) _).alloc (by simp) _
  have CV : Hid (∀ W : World, Below w.heap.size w W → Calls Try.prog 63 #[.slice b.va b.vs.length b.vc, .slice c.va b.vs.length c.vc] W fun e w' => e = .returned (.bool true) ∧ Below W.heap.size W w') := fun W h => eqSV b.va c.va b.vc c.vc b.vs (Nat.le_trans HF.out.vl (by omega)) W (HP.out.v.below h) (by have k := HQ.out.v.below h; rw [HS.out.v] at k; exact k)
  have CP : Hid (∀ W : World, Below w.heap.size w W → Calls Try.prog 22 #[.slice b.pa b.ps.length b.pc, .slice c.pa b.ps.length c.pc] W fun e w' => e = .returned (.bool true) ∧ Below W.heap.size W w') := fun W h => eqL b.ps c.ps b.pa c.pa b.pc c.pc b.ps.length rfl HS.out.pl.symm (Nat.le_trans HF.out.pl (by omega)) HS.out.p.symm HF.out.p W (HP.out.p.below h) (HQ.out.p.below h)
  have CQ : Hid (∀ W : World, Below w.heap.size w W → Calls Try.prog 22 #[.slice b.qa b.qs.length b.qc, .slice c.qa b.qs.length c.qc] W fun e w' => e = .returned (.bool true) ∧ Below W.heap.size W w') := fun W h => eqL b.qs c.qs b.qa c.qa b.qc c.qc b.qs.length rfl HS.out.ql.symm (Nat.le_trans HF.out.ql (by omega)) HS.out.q.symm HF.out.q W (HP.out.q.below h) (HQ.out.q.below h)
  clear HP HQ HS HF
  go_enter Try.func53, Try.ntmps53
  go_wp2_with fail
  refine (CV.out _ HB0.out).mono ?_
  rintro e w1 ⟨rfl, hb1⟩
  have BA1 : Hid (Bx w1 w.heap.size [.slice b.va b.vs.length b.vc, .slice b.pa b.ps.length b.pc, .slice b.qa b.qs.length b.qc, .int .i64 b.cs, .int .i64 b.nx]) := BA0.out.below hb1
  have BB1 : Hid (Bx w1 (w.heap.size + 1) [.slice c.va b.vs.length c.vc, .slice c.pa b.ps.length c.pc, .slice c.qa b.qs.length c.qc, .int .i64 b.cs, .int .i64 b.nx]) := BB0.out.below hb1
  have HB1 : Hid (Below w.heap.size w w1) := HB0.out.trans (hb1.mono HB0.out.size)
  clear hb1 BA0 BB0 HB0
  have x1 := BA1.out.c1
  have y1 := BB1.out.c1
  go_wp2_with fail
  refine (CP.out _ HB1.out).mono ?_
  rintro e w2 ⟨rfl, hb2⟩
  have BA2 : Hid (Bx w2 w.heap.size [.slice b.va b.vs.length b.vc, .slice b.pa b.ps.length b.pc, .slice b.qa b.qs.length b.qc, .int .i64 b.cs, .int .i64 b.nx]) := BA1.out.below hb2
  have BB2 : Hid (Bx w2 (w.heap.size + 1) [.slice c.va b.vs.length c.vc, .slice c.pa b.ps.length c.pc, .slice c.qa b.qs.length c.qc, .int .i64 b.cs, .int .i64 b.nx]) := BB1.out.below hb2
  have HB2 : Hid (Below w.heap.size w w2) := HB1.out.trans (hb2.mono HB1.out.size)
  clear hb2 BA1 BB1 HB1 x1 y1
  have x2 := BA2.out.c2
  have y2 := BB2.out.c2
  go_wp2_with fail
  refine (CQ.out _ HB2.out).mono ?_
  rintro e w3 ⟨rfl, hb3⟩
  have BA3 : Hid (Bx w3 w.heap.size [.slice b.va b.vs.length b.vc, .slice b.pa b.ps.length b.pc, .slice b.qa b.qs.length b.qc, .int .i64 b.cs, .int .i64 b.nx]) := BA2.out.below hb3
  have BB3 : Hid (Bx w3 (w.heap.size + 1) [.slice c.va b.vs.length c.vc, .slice c.pa b.ps.length c.pc, .slice c.qa b.qs.length c.qc, .int .i64 b.cs, .int .i64 b.nx]) := BB2.out.below hb3
  have HB3 : Hid (Below w.heap.size w w3) := HB2.out.trans (hb3.mono HB2.out.size)
  clear hb3 BA2 BB2 HB2 x2 y2
  have x3 := BA3.out.c3
  have y3 := BB3.out.c3
  have x4 := BA3.out.c4
  have y4 := BB3.out.c4
  go_wp2
  go_ret
  exact ⟨rfl, HB3.out⟩

end Go.Proofs.Ytnneodofajhbcaa

namespace Go.Proofs.Ytnneodofajhbcaa
open Go.RowKit
open KM
attribute [local go_sem ↓] Go.wp_at_zero Go.wp_at_succ

theorem toNat_ofNat (x : Nat) (h : x < 256) : ((UInt8.ofNat x).toNat : Int) = (x : Int) := by
  simp only [UInt8.toNat_ofNat']; omega
def dd (m : Nat) : List UInt8 := if m = 0 then [] else Go.Lib.decDigits m
theorem dd_step (m : Nat) (h : 0 < m) : dd m = dd (m / 10) ++ [UInt8.ofNat (48 + m % 10)] := by
  unfold dd
  rw [if_neg (by omega)]
  by_cases hs : m < 10
  · rw [if_pos (by omega), Go.Lib.decDigits_one hs, show m % 10 = m by omega]; rfl
  · rw [if_neg (by omega), Go.Lib.decDigits, dif_neg hs]
def mkB (k : Nat) : ByteArray := ⟨#[109]⟩ ++ ⟨(dd k).toArray⟩
theorem dd_len (m : Nat) (h : m < 18446744073709551616) : (dd m).length ≤ 20 := by
  unfold dd
  split
  · simp
  · rw [Lib.decDigits_length]; exact Lib.nDigits_le20 m h
theorem app_data (b : UInt8) (s : ByteArray) : ((⟨#[b]⟩ : ByteArray) ++ s).data.toList = b :: s.data.toList := by simp
theorem dd_round {m N : Nat} {s : ByteArray} (hm : 0 < m) (h : dd m ++ s.data.toList = dd N) : dd (m / 10) ++ ((⟨#[UInt8.ofNat (48 + m % 10)]⟩ : ByteArray) ++ s).data.toList = dd N := by
  rw [app_data, ← h, dd_step m hm]; simp
theorem round_size {m N : Nat} {s : ByteArray} (hN : N < 18446744073709551616) (h : dd m ++ s.data.toList = dd N) : s.size ≤ 20 := by
  have h1 := dd_len N hN
  have h2 := congrArg List.length h
  simp at h2
  omega
theorem ret_str {a b : ByteArray} (h : a.data.toList = b.data.toList) : Ending.returned (.string a) = .returned (.string b) := by
  have : a = b := by
    apply ByteArray.ext
    exact Array.toList_inj.1 h
  rw [this]
theorem own_form {w : World} {base e size n c : Nat} {a : Option Addr} {xs : List Value} (h : w.ownsRow base e size (.slice a n c) n xs) (hn : 0 < n) : ∃ g, a = some ⟨g, 0, none⟩ ∧ base ≤ g ∧ g < w.heap.size := by
  obtain ⟨g, cap, hv, h1, h2⟩ := h.form hn
  cases hv
  exact ⟨g, rfl, h1, h2⟩
theorem gown_ext {α : Type} {E : Enc α} {e : TypeId} {w : World} {base n c : Nat} {a : Option Addr} {xs : List Value} {ls : List α} (hn : ls.length = n) (h : w.ownsRow base e E.size (.slice a n c) n xs) (hx : ∀ j, j < n * E.size → xs[j]? = (E.cells ls)[j]?) : GOwn E e w base (.slice a n c) ls := by
  have e' : xs = E.cells ls := by
    apply List.ext_getElem?
    intro j
    by_cases hj : j < n * E.size
    · exact hx j hj
    · rw [List.getElem?_eq_none (by have := h.1; omega), List.getElem?_eq_none (by rw [E.cells_len, hn]; omega)]
  subst hn
  rw [e'] at h
  exact h
theorem bne_text (t : ByteArray) : (!(t.toList == t.toList)) = false := by simp

end Go.Proofs.Ytnneodofajhbcaa

namespace Go.Proofs.Ytnneodofajhbcaa
open Go.RowKit
open KM
attribute [local go_sem ↓] Go.wp_at_zero Go.wp_at_succ
def goneQ (q : Nat) : Bool := ((q : Int) + 1 + 1) % 3 == 0
theorem goneQ_eq (q : Nat) : (((q : Int) + 1 + 1) % 3 == 0) = goneQ q := rfl

def mkV (k n : Nat) : List Vr := (List.range n).map fun j => (mkB (k + 4 * j), mkB ((k + 4 * j) + 1), goneQ (k + 4 * j), (((k + 4 * j) : Nat) : Int) + 1 + 1 + 1)
theorem mkV_len (k n : Nat) : (mkV k n).length = n := by simp [mkV]
theorem mkV_at (k n j : Nat) (h : j < n) : (mkV k n)[j]'(by rw [mkV_len]; exact h) = (mkB (k + 4 * j), mkB ((k + 4 * j) + 1), goneQ (k + 4 * j), (((k + 4 * j) : Nat) : Int) + 1 + 1 + 1) := by simp [mkV]

end Go.Proofs.Ytnneodofajhbcaa

namespace Go.Proofs.Ytnneodofajhbcaa
open Go.RowKit
open KM
attribute [local go_sem ↓] Go.wp_at_zero Go.wp_at_succ

def mkR (k n : Nat) : List Rg := (List.range n).map fun j => (mkB (k + 2 * j), mkB ((k + 2 * j) + 1))
theorem mkR_len (k n : Nat) : (mkR k n).length = n := by simp [mkR]
theorem mkR_at (k n j : Nat) (h : j < n) : (mkR k n)[j]'(by rw [mkR_len]; exact h) = (mkB (k + 2 * j), mkB ((k + 2 * j) + 1)) := by simp [mkR]

def mkW (k n : Nat) : List Wt := (List.range n).map fun j => (mkB (k + 3 * j), mkB ((k + 3 * j) + 1), goneQ (k + 3 * j))
theorem mkW_len (k n : Nat) : (mkW k n).length = n := by simp [mkW]
theorem mkW_at (k n j : Nat) (h : j < n) : (mkW k n)[j]'(by rw [mkW_len]; exact h) = (mkB (k + 3 * j), mkB ((k + 3 * j) + 1), goneQ (k + 3 * j)) := by simp [mkW]

end Go.Proofs.Ytnneodofajhbcaa

/- What stays: GivenUp by the document. -/
import Derived.Test.YtnefncmkhgkdnaaG6
import Derived.Test.YtnefncmkhgkdnaaG4
import Derived.Laws.EntriesVeiled
import Derived.Deep.RegionHeld3
import Derived.Deep.Cut
import Derived.Deep.CutRange
namespace Go.Proofs.Ytnefncmkhgkdnaa
open Go.RowKit
open KM
open VM
attribute [local go_sem ↓] Go.wp_at_zero Go.wp_at_succ

theorem Cls.low {w w' : World} {b o : Nat} {x : Ta} (h : Cls w b o x) (hb : Below w.heap.size w w') (hl : b < w.heap.size) : Cls w' b o x :=
  ⟨(hb.cell (p := ⟨b, o, none⟩) hl).trans h.c0, (hb.cell (p := ⟨b, o + 1, none⟩) hl).trans h.c1, (hb.cell (p := ⟨b, o + 2, none⟩) hl).trans h.c2, (hb.cell (p := ⟨b, o + 3, none⟩) hl).trans h.c3, (hb.cell (p := ⟨b, o + 4, none⟩) hl).trans h.c4, (hb.cell (p := ⟨b, o + 5, none⟩) hl).trans h.c5, (hb.cell (p := ⟨b, o + 6, none⟩) hl).trans h.c6, (hb.cell (p := ⟨b, o + 7, none⟩) hl).trans h.c7⟩
theorem BLie.low {w w' : World} {lo hi base : Nat} {c : Bb} (h : BLie w lo hi c) (hb : Below base w w') (hh : hi ≤ base) : BLie w' lo hi c :=
  h.zn (l := base) (h := w.heap.size) ⟨hb.os, hb.tape, hb.output, hb.size, fun j hj hn => hb.block j (by omega)⟩ (Or.inl hh)

set_option maxRecDepth 100000 in
set_option maxHeartbeats 6000000 in
theorem sgiven (b : Bb) (s : ByteArray) (lo hi : Nat) (hf : BFit b) (w : World) (hp : BLie w lo hi b) :
    Calls Try.prog 34 #[.agg #[.slice b.va b.vs.length b.vc, .slice b.pa b.ps.length b.pc, .slice b.qa b.qs.length b.qc, .int .i64 b.cs, .int .i64 b.nx], .string s] w fun e w' => ∃ d : Bb, e = .returned (.agg #[.slice d.va d.vs.length d.vc, .slice d.pa d.ps.length d.pc, .slice d.qa d.qs.length d.qc, .int .i64 d.cs, .int .i64 d.nx]) ∧ (d.vs = b.vs ∧ txs d.ps = txs b.ps ∧ txs d.qs = (txs b.qs).filter (fun t : Tx => !(t.nm.toList == s.toList)) ∧ d.cs = b.cs ∧ d.nx = b.nx) ∧ BLie w' w.heap.size w'.heap.size d ∧ Below w.heap.size w w' := by
  have BA0 : Hid (Bx ((w.alloc (.cells #[.slice b.va b.vs.length b.vc, .slice b.pa b.ps.length b.pc, .slice b.qa b.qs.length b.qc, .int .i64 b.cs, .int .i64 b.nx] 46)).alloc (.cells #[.slice none 0 0, .slice none 0 0, .slice none 0 0, .int .i64 0, .int .i64 0] 46)) w.heap.size [.slice b.va b.vs.length b.vc, .slice b.pa b.ps.length b.pc, .slice b.qa b.qs.length b.qc, .int .i64 b.cs, .int .i64 b.nx]) := (Bx.new w [.slice b.va b.vs.length b.vc, .slice b.pa b.ps.length b.pc, .slice b.qa b.qs.length b.qc, .int .i64 b.cs, .int .i64 b.nx] 46).alloc _
  have BR0 : Hid (Bx ((w.alloc (.cells #[.slice b.va b.vs.length b.vc, .slice b.pa b.ps.length b.pc, .slice b.qa b.qs.length b.qc, .int .i64 b.cs, .int .i64 b.nx] 46)).alloc (.cells #[.slice none 0 0, .slice none 0 0, .slice none 0 0, .int .i64 0, .int .i64 0] 46)) (w.heap.size + 1) [.slice none 0 0, .slice none 0 0, .slice none 0 0, .int .i64 0, .int .i64 0]) := by
    have h := Bx.new (w.alloc (.cells #[.slice b.va b.vs.length b.vc, .slice b.pa b.ps.length b.pc, .slice b.qa b.qs.length b.qc, .int .i64 b.cs, .int .i64 b.nx] 46)) [.slice none 0 0, .slice none 0 0, .slice none 0 0, .int .i64 0, .int .i64 0] 46
    rw [show (w.alloc (.cells #[.slice b.va b.vs.length b.vc, .slice b.pa b.ps.length b.pc, .slice b.qa b.qs.length b.qc, .int .i64 b.cs, .int .i64 b.nx] 46)).heap.size = w.heap.size + 1 by simp] at h
    exact h
  have HB0 : Hid (Below w.heap.size w ((w.alloc (.cells #[.slice b.va b.vs.length b.vc, .slice b.pa b.ps.length b.pc, .slice b.qa b.qs.length b.qc, .int .i64 b.cs, .int .i64 b.nx] 46)).alloc (.cells #[.slice none 0 0, .slice none 0 0, .slice none 0 0, .int .i64 0, .int .i64 0] 46))) := ((belowRefl w).alloc (Nat.le_refl _) _).alloc (by simp) _
  have HS0 : Hid (w.heap.size + 1 + 1 ≤ ((w.alloc (.cells #[.slice b.va b.vs.length b.vc, .slice b.pa b.ps.length b.pc, .slice b.qa b.qs.length b.qc, .int .i64 b.cs, .int .i64 b.nx] 46)).alloc (.cells #[.slice none 0 0, .slice none 0 0, .slice none 0 0, .int .i64 0, .int .i64 0] 46)).heap.size) := by show _ ≤ _; simp
  have HF : Hid (BFit b) := hf
  have CB := hide (scopyB b lo hi hf ((w.alloc (.cells #[.slice b.va b.vs.length b.vc, .slice b.pa b.ps.length b.pc, .slice b.qa b.qs.length b.qc, .int .i64 b.cs, .int .i64 b.nx] 46)).alloc (.cells #[.slice none 0 0, .slice none 0 0, .slice none 0 0, .int .i64 0, .int .i64 0] 46)) (hp.below HB0.out))
  obtain ⟨zm1, zm2, _, _, _, _, _, hqq⟩ := hp.ex
  have HRQ : Hid (TRows w b.qa b.qs) := hp.rows.q
  have HZQ : Hid (∀ y ∈ b.qs, ∃ p q, TLie w p q y.t y.ra y.rc y.wa y.wc) := fun y hy => hqq.zs.mem y hy
  have hql : b.qs.length ≤ 1048576 := hf.ql
  clear hp hf hqq
  go_enter Try.func34, Try.ntmps34
  go_upto_region 1 with fail
  generalize ((w.alloc (.cells #[.slice b.va b.vs.length b.vc, .slice b.pa b.ps.length b.pc, .slice b.qa b.qs.length b.qc, .int .i64 b.cs, .int .i64 b.nx] 46)).alloc (.cells #[.slice none 0 0, .slice none 0 0, .slice none 0 0, .int .i64 0, .int .i64 0] 46)) = w0 at *
  have x0 := BA0.out.c0
  have x1 := BA0.out.c1
  have x2 := BA0.out.c2
  have x3 := BA0.out.c3
  have x4 := BA0.out.c4
  go_wp2_with fail
  refine CB.out.mono ?_
  rintro e w1 ⟨c, rfl, hs1, hl1, hb⟩
  have HSM : Hid (BSame b c) := hs1
  have HL1 : Hid (BLie w1 w0.heap.size w1.heap.size c) := hl1
  have HB1 : Hid (Below w.heap.size w w1) := HB0.out.trans (hb.mono HB0.out.size)
  have BA1 : Hid (Bx w1 w.heap.size [.slice b.va b.vs.length b.vc, .slice b.pa b.ps.length b.pc, .slice b.qa b.qs.length b.qc, .int .i64 b.cs, .int .i64 b.nx]) := BA0.out.below hb
  have BR1 : Hid (Bx w1 (w.heap.size + 1) [.slice none 0 0, .slice none 0 0, .slice none 0 0, .int .i64 0, .int .i64 0]) := BR0.out.below hb
  have hs01 : w0.heap.size ≤ w1.heap.size := hb.size
  have hs0 := HS0.out
  clear x0 x1 x2 x3 x4 hb hs1 hl1 BA0 BR0 HB0 CB
  go_upto_region 2 with fail
  have hba : Below w1.heap.size w1 (w1.alloc (.cells #[.slice c.va c.vs.length c.vc, .slice c.pa c.ps.length c.pc, .slice c.qa c.qs.length c.qc, .int .i64 c.cs, .int .i64 c.nx] 46)) := (belowRefl w1).alloc (Nat.le_refl _) _
  have HB2 : Hid (Below w.heap.size w (w1.alloc (.cells #[.slice c.va c.vs.length c.vc, .slice c.pa c.ps.length c.pc, .slice c.qa c.qs.length c.qc, .int .i64 c.cs, .int .i64 c.nx] 46))) := HB1.out.trans (hba.mono HB1.out.size)
  have BA2 : Hid (Bx (w1.alloc (.cells #[.slice c.va c.vs.length c.vc, .slice c.pa c.ps.length c.pc, .slice c.qa c.qs.length c.qc, .int .i64 c.cs, .int .i64 c.nx] 46)) w.heap.size [.slice b.va b.vs.length b.vc, .slice b.pa b.ps.length b.pc, .slice b.qa b.qs.length b.qc, .int .i64 b.cs, .int .i64 b.nx]) := BA1.out.below hba
  have BR2 : Hid (Bx (w1.alloc (.cells #[.slice c.va c.vs.length c.vc, .slice c.pa c.ps.length c.pc, .slice c.qa c.qs.length c.qc, .int .i64 c.cs, .int .i64 c.nx] 46)) (w.heap.size + 1) [.slice none 0 0, .slice none 0 0, .slice none 0 0, .int .i64 0, .int .i64 0]) := BR1.out.below hba
  have BO2 : Hid (Bx (w1.alloc (.cells #[.slice c.va c.vs.length c.vc, .slice c.pa c.ps.length c.pc, .slice c.qa c.qs.length c.qc, .int .i64 c.cs, .int .i64 c.nx] 46)) w1.heap.size [.slice c.va c.vs.length c.vc, .slice c.pa c.ps.length c.pc, .slice c.qa c.qs.length c.qc, .int .i64 c.cs, .int .i64 c.nx]) := Bx.new w1 [.slice c.va c.vs.length c.vc, .slice c.pa c.ps.length c.pc, .slice c.qa c.qs.length c.qc, .int .i64 c.cs, .int .i64 c.nx] 46
  have HL2 : Hid (BLie (w1.alloc (.cells #[.slice c.va c.vs.length c.vc, .slice c.pa c.ps.length c.pc, .slice c.qa c.qs.length c.qc, .int .i64 c.cs, .int .i64 c.nx] 46)) w0.heap.size w1.heap.size c) := HL1.out.below hba
  have HS12 : Hid ((w1.alloc (.cells #[.slice c.va c.vs.length c.vc, .slice c.pa c.ps.length c.pc, .slice c.qa c.qs.length c.qc, .int .i64 c.cs, .int .i64 c.nx] 46)).heap.size = w1.heap.size + 1) := by show _ = _; simp
  clear hba HB1 BA1 BR1 HL1
  generalize (w1.alloc (.cells #[.slice c.va c.vs.length c.vc, .slice c.pa c.ps.length c.pc, .slice c.qa c.qs.length c.qc, .int .i64 c.cs, .int .i64 c.nx] 46)) = w2 at *
  have hs12 := HS12.out
  have o2 := BO2.out.c2
  have fo2 := BO2.out.fz 2
  go_upto_region 3 with fail
  clear o2 fo2
  have hse : (w2.setCell ⟨w1.heap.size, 2, none⟩ (.slice (some ⟨w1.heap.size + 1, 0, none⟩) 0 0)).heap.size = w2.heap.size := by simp [World.setCell]
  have hb3 : Below w1.heap.size w2 ((w2.setCell ⟨w1.heap.size, 2, none⟩ (.slice (some ⟨w1.heap.size + 1, 0, none⟩) 0 0)).alloc (.cells #[] 27)) := ((show Below w1.heap.size w2 w2 from Below.refl _ _).setCell (Nat.le_refl _) _).alloc (by rw [hse]; omega) _
  have BO3 : Hid (Bx ((w2.setCell ⟨w1.heap.size, 2, none⟩ (.slice (some ⟨w1.heap.size + 1, 0, none⟩) 0 0)).alloc (.cells #[] 27)) w1.heap.size [.slice c.va c.vs.length c.vc, .slice c.pa c.ps.length c.pc, .slice (some ⟨w1.heap.size + 1, 0, none⟩) 0 0, .int .i64 c.cs, .int .i64 c.nx]) := (BO2.out.set 2 _).alloc _
  have HB3 : Hid (Below w.heap.size w ((w2.setCell ⟨w1.heap.size, 2, none⟩ (.slice (some ⟨w1.heap.size + 1, 0, none⟩) 0 0)).alloc (.cells #[] 27))) := HB2.out.trans (hb3.mono (by omega))
  have BA3 : Hid (Bx ((w2.setCell ⟨w1.heap.size, 2, none⟩ (.slice (some ⟨w1.heap.size + 1, 0, none⟩) 0 0)).alloc (.cells #[] 27)) w.heap.size [.slice b.va b.vs.length b.vc, .slice b.pa b.ps.length b.pc, .slice b.qa b.qs.length b.qc, .int .i64 b.cs, .int .i64 b.nx]) := bx_low BA2.out hb3 (by omega)
  have BR3 : Hid (Bx ((w2.setCell ⟨w1.heap.size, 2, none⟩ (.slice (some ⟨w1.heap.size + 1, 0, none⟩) 0 0)).alloc (.cells #[] 27)) (w.heap.size + 1) [.slice none 0 0, .slice none 0 0, .slice none 0 0, .int .i64 0, .int .i64 0]) := bx_low BR2.out hb3 (by omega)
  have HL3 : Hid (BLie ((w2.setCell ⟨w1.heap.size, 2, none⟩ (.slice (some ⟨w1.heap.size + 1, 0, none⟩) 0 0)).alloc (.cells #[] 27)) w0.heap.size w1.heap.size c) := HL2.out.low hb3 (Nat.le_refl _)
  have LL3 : Hid (LLie ((w2.setCell ⟨w1.heap.size, 2, none⟩ (.slice (some ⟨w1.heap.size + 1, 0, none⟩) 0 0)).alloc (.cells #[] 27)) (w1.heap.size + 1) ((w2.setCell ⟨w1.heap.size, 2, none⟩ (.slice (some ⟨w1.heap.size + 1, 0, none⟩) 0 0)).alloc (.cells #[] 27)).heap.size (.slice (some ⟨w1.heap.size + 1, 0, none⟩) 0 0) []) := by
    have h : GOwn encT 27 ((w2.setCell ⟨w1.heap.size, 2, none⟩ (.slice (some ⟨w1.heap.size + 1, 0, none⟩) 0 0)).alloc (.cells #[] 27)) (w1.heap.size + 1) (.slice (some ⟨(w2.setCell ⟨w1.heap.size, 2, none⟩ (.slice (some ⟨w1.heap.size + 1, 0, none⟩) 0 0)).heap.size, 0, none⟩) 0 0) [] := GOwn.empty (w2.setCell ⟨w1.heap.size, 2, none⟩ (.slice (some ⟨w1.heap.size + 1, 0, none⟩) 0 0)) _ (by rw [hse]; omega)
    rw [hse, hs12] at h
    exact ⟨Lies.of h, (show w1.heap.size + 1 ≤ _ by simp [World.setCell]; omega)⟩
  have hw1 : w.heap.size < w1.heap.size := by omega
  have hww : w.heap.size ≤ w1.heap.size := by omega
  clear hb3 HB2 BA2 BR2 HL2 BO2 hse hs12
  generalize ((w2.setCell ⟨w1.heap.size, 2, none⟩ (.slice (some ⟨w1.heap.size + 1, 0, none⟩) 0 0)).alloc (.cells #[] 27)) = w3 at *
  go_wp2
  go_loopw [6] (fun t wr => ∃ (k : Nat) (F : List Ta) (a1 : Option Addr) (c1 n1 : Nat), k ≤ b.qs.length ∧ t = .int .i64 k ∧ Hid (n1 = F.length) ∧ Hid (txs F = ((txs b.qs).take k).filter (fun t : Tx => !(t.nm.toList == s.toList))) ∧ Hid (LLie wr (w1.heap.size + 1) wr.heap.size (.slice a1 n1 c1) F) ∧ Hid (Bx wr w1.heap.size [.slice c.va c.vs.length c.vc, .slice c.pa c.ps.length c.pc, .slice a1 n1 c1, .int .i64 c.cs, .int .i64 c.nx]) ∧ Hid (Below w1.heap.size w3 wr)) (fun t _ => b.qs.length - (intOf t).toNat)
  case atStart => exact ⟨0, [], _, _, _, Nat.zero_le _, rfl, rfl, rfl, LL3, BO3, Below.refl _ _⟩
  case round =>
    clear LL3 BO3
    obtain ⟨k, F, a1, c1, n1, hk, rfl, HFL, HFT, HL, BOr, HD⟩ := hrel
    by_cases hlt : k < b.qs.length
    · have hlt' : (k : Int) < (b.qs.length : Int) := by omega
      have h0 : (0 : Int) ≤ (k : Int) := by omega
      obtain ⟨zp, zq, hT⟩ := HZQ.out _ (List.getElem_mem hlt)
      obtain ⟨bl, o, hqa, hbl, hc, -⟩ := HRQ.out.cls k hlt
      have HQA : Hid (b.qa = some ⟨bl, o, none⟩) := hqa
      have hfx : TFit b.qs[k].t := HF.out.q.2 _ (List.mem_map.2 ⟨_, List.getElem_mem hlt, rfl⟩)
      have hkt : k < (txs b.qs).length := by rw [txs_len]; exact hlt
      have hat : (txs b.qs)[k] = b.qs[k].t := by simp [txs]
      have HYes : Hid ((b.qs[k].t.nm.toList == s.toList) = false → ((txs b.qs).take (k + 1)).filter (fun t : Tx => !(t.nm.toList == s.toList)) = ((txs b.qs).take k).filter (fun t : Tx => !(t.nm.toList == s.toList)) ++ [b.qs[k].t]) := fun h => by show _ = _; rw [filter_take _ _ k hkt, hat]; simp [h]
      have HNo : Hid ((b.qs[k].t.nm.toList == s.toList) = true → ((txs b.qs).take (k + 1)).filter (fun t : Tx => !(t.nm.toList == s.toList)) = ((txs b.qs).take k).filter (fun t : Tx => !(t.nm.toList == s.toList))) := fun h => by show _ = _; rw [filter_take _ _ k hkt, hat]; simp [h]
      have hln : F.length ≤ 100000000 := by
        have e := congrArg List.length HFT.out
        rw [txs_len] at e
        rw [e]
        exact Nat.le_trans (List.length_filter_le _ _) (Nat.le_trans (List.length_take_le _ _) (by omega))
      obtain ⟨x, hx⟩ : ∃ x, x = b.qs[k] := ⟨_, rfl⟩
      rw [← hx] at hc hfx hT HYes HNo
      clear hx hqa hat hkt
      have HC : Hid (Cls w bl (o + k * 8) x) := hc
      have HBd : Hid (Below w.heap.size w wr.drew) := (HB3.out.trans (HD.out.mono hww)).drew
      obtain ⟨zm, _, _, hR, hW⟩ := hT.ex
      have CT := hide (scopyT x.t x.ra x.wa x.rc x.wc zp zm (Nat.le_trans hfx.1 (by omega)) (Nat.le_trans hfx.2.2.1 (by omega)) wr.drew (hR.own.below HBd.out) (hW.own.below HBd.out))
      clear hc hT hR hW hfx
      have hr := HC.out.low (HB3.out.trans (HD.out.mono hww)) hbl
      have r0 := hr.c0
      have r1 := hr.c1
      have r2 := hr.c2
      have r3 := hr.c3
      have r4 := hr.c4
      have r5 := hr.c5
      have r6 := hr.c6
      have r7 := hr.c7
      have Dd : Hid (Below w1.heap.size w3 wr.drew) := HD.out.drew
      have Qd : Hid (wr.drew.cell? ⟨w.heap.size, 2, none⟩ = some (.slice (some ⟨bl, o, none⟩) b.qs.length b.qc)) := by
        have h := (bx_low BA3.out Dd.out hw1).c2
        rw [HQA.out] at h
        exact h
      have Cd : Hid (Cls wr.drew bl (o + k * 8) x) := HC.out.low (HB3.out.trans (Dd.out.mono hww)) hbl
      have BOd : Hid (Bx wr.drew w1.heap.size [.slice c.va c.vs.length c.vc, .slice c.pa c.ps.length c.pc, .slice a1 n1 c1, .int .i64 c.cs, .int .i64 c.nx]) := BOr.out.below (belowRefl wr).drew
      have x2 : wr.cell? ⟨w.heap.size, 2, none⟩ = some (.slice (some ⟨bl, o, none⟩) b.qs.length b.qc) := by
        have h := (bx_low BA3.out HD.out hw1).c2
        rw [HQA.out] at h
        exact h
      clear hr
      cases hq : (x.t.nm.toList == s.toList)
      · have HE := hide (HYes.out hq)
        clear HYes HNo
        go_wp2
        refine wp_region_held_drew (S := fun w' => w'.cell? ⟨w.heap.size, 2, none⟩ = some (.slice (some ⟨bl, o, none⟩) b.qs.length b.qc) ∧ w'.cell? ⟨bl, o + k * 8, none⟩ = some (.int .i64 x.t.id) ∧ w'.cell? ⟨bl, o + k * 8 + 1, none⟩ = some (.int .i64 x.t.st) ∧ w'.cell? ⟨bl, o + k * 8 + 2, none⟩ = some (.int .i64 x.t.snap) ∧ w'.cell? ⟨bl, o + k * 8 + 3, none⟩ = some (.int .i64 x.t.cs) ∧ w'.cell? ⟨bl, o + k * 8 + 4, none⟩ = some (.slice x.ra x.t.rs.length x.rc) ∧ w'.cell? ⟨bl, o + k * 8 + 5, none⟩ = some (.slice x.wa x.t.ws.length x.wc) ∧ w'.cell? ⟨bl, o + k * 8 + 6, none⟩ = some (.bool x.t.out) ∧ w'.cell? ⟨bl, o + k * 8 + 7, none⟩ = some (.string x.t.nm)) (by kernel_rfl) ⟨Qd.out, Cd.out.c0, Cd.out.c1, Cd.out.c2, Cd.out.c3, Cd.out.c4, Cd.out.c5, Cd.out.c6, Cd.out.c7⟩ (fun hHeld => ?_)
        (refine wpAnyH_take (i := 0) (v := ?_) rfl (by kernel_rfl) (by kernel_rfl) (by kernel_rfl) (fun _ _ _ h => h) (Or.inl ⟨by rfl, ?_⟩) (by assumption) ?_; rotate_left; (focus (intro w hSw; (try dsimp only at hSw); go_simp; (try with_reducible rfl); done)); simp only [Act.put, List.getElem_toArray, List.getElem_cons_zero, List.setIfInBounds_toArray, List.set_cons_zero, List.set_cons_succ])
        (refine wpAnyH_take (i := 2) (v := ?_) rfl (by kernel_rfl) (by kernel_rfl) (by kernel_rfl) (fun _ _ _ h => h) (Or.inl ⟨by rfl, ?_⟩) (by assumption) ?_; rotate_left; (focus (intro w hSw; (try dsimp only at hSw); go_simp; (try with_reducible rfl); done)); simp only [Act.put, List.getElem_toArray, List.getElem_cons_zero, List.getElem_cons_succ, List.setIfInBounds_toArray, List.set_cons_zero, List.set_cons_succ])
        (refine wpAnyH_take (i := 3) (v := ?_) rfl (by kernel_rfl) (by kernel_rfl) (by kernel_rfl) (fun _ _ _ h => h) (Or.inl ⟨by rfl, ?_⟩) (by assumption) ?_; rotate_left; (focus (intro w hSw; (try dsimp only at hSw); go_simp; (try with_reducible rfl); done)); simp only [Act.put, List.getElem_toArray, List.getElem_cons_zero, List.getElem_cons_succ, List.setIfInBounds_toArray, List.set_cons_zero, List.set_cons_succ])
        (refine wpAnyH_take (i := 4) (v := ?_) rfl (by kernel_rfl) (by kernel_rfl) (by kernel_rfl) (fun _ _ _ h => h) (Or.inl ⟨by rfl, ?_⟩) (by assumption) ?_; rotate_left; (focus (intro w hSw; (try dsimp only at hSw); go_simp; (try with_reducible rfl); done)); simp only [Act.put, List.getElem_toArray, List.getElem_cons_zero, List.getElem_cons_succ, List.setIfInBounds_toArray, List.set_cons_zero, List.set_cons_succ])
        (refine wpAnyH_take (i := 5) (v := ?_) rfl (by kernel_rfl) (by kernel_rfl) (by kernel_rfl) (fun _ _ _ h => h) (Or.inl ⟨by rfl, ?_⟩) (by assumption) ?_; rotate_left; (focus (intro w hSw; (try dsimp only at hSw); go_simp; (try with_reducible rfl); done)); simp only [Act.put, List.getElem_toArray, List.getElem_cons_zero, List.getElem_cons_succ, List.setIfInBounds_toArray, List.set_cons_zero, List.set_cons_succ])
        (refine wpAnyH_take (i := 6) (v := ?_) rfl (by kernel_rfl) (by kernel_rfl) (by kernel_rfl) (fun _ _ _ h => h) (Or.inl ⟨by rfl, ?_⟩) (by assumption) ?_; rotate_left; (focus (intro w hSw; (try dsimp only at hSw); go_simp; (try with_reducible rfl); done)); simp only [Act.put, List.getElem_toArray, List.getElem_cons_zero, List.getElem_cons_succ, List.setIfInBounds_toArray, List.set_cons_zero, List.set_cons_succ])
        refine wpAnyH_ready (rs := [1, 7]) (by kernel_rfl) (by simp) ?_
        refine AllReadyH.cons rfl (fun K hK => ?_) (AllReadyH.cons rfl (fun K hK => ?_) AllReadyH.nil)
        · have y2 := BOd.out.c2
          go_simp
          refine hK.out _ _ ⟨Qd.out, Cd.out.c0, Cd.out.c1, Cd.out.c2, Cd.out.c3, Cd.out.c4, Cd.out.c5, Cd.out.c6, Cd.out.c7⟩ (fun hHxd => ?_)
          clear hK K y2
          refine wpAnyH_ready (rs := [7]) (by kernel_rfl) (by simp) ?_
          refine AllReadyH.cons rfl (fun K hK => ?_) AllReadyH.nil
          go_simp
          go_wp2_with fail
          refine CT.out.mono ?_
          rintro e w4 ⟨ra1, rc1, wa1, wc1, rfl, ht, hb4⟩
          have hbu := undrew hb4
          have HT : Hid (TLie w4 wr.heap.size w4.heap.size x.t ra1 rc1 wa1 wc1) := ht
          have HU : Hid (Below wr.heap.size wr w4) := hbu
          have D4 : Hid (Below w1.heap.size w3 w4) := HD.out.trans (HU.out.mono (Nat.le_of_lt BOr.out.lt))
          have Q4 : Hid (w4.cell? ⟨w.heap.size, 2, none⟩ = some (.slice (some ⟨bl, o, none⟩) b.qs.length b.qc)) := by
            have h := (bx_low BA3.out D4.out hw1).c2
            rw [HQA.out] at h
            exact h
          have C4 : Hid (Cls w4 bl (o + k * 8) x) := HC.out.low (HB3.out.trans (D4.out.mono hww)) hbl
          have BO4 : Hid (Bx w4 w1.heap.size [.slice c.va c.vs.length c.vc, .slice c.pa c.ps.length c.pc, .slice a1 n1 c1, .int .i64 c.cs, .int .i64 c.nx]) := BOr.out.below HU.out
          clear hb4 hbu ht
          go_wp2_with fail
          refine hK.out _ _ ⟨Q4.out, C4.out.c0, C4.out.c1, C4.out.c2, C4.out.c3, C4.out.c4, C4.out.c5, C4.out.c6, C4.out.c7⟩ (fun hHeld4 => ?_)
          clear hK K
          refine wpAnyH_ready (rs := [8]) (by kernel_rfl) (by simp) ?_
          refine AllReadyH.cons rfl (fun K hK => ?_) AllReadyH.nil
          go_simp
          have D5 : Hid (Below w1.heap.size w3 (w4.alloc (.cells #[.int .i64 x.t.id, .int .i64 x.t.st, .int .i64 x.t.snap, .int .i64 x.t.cs, .slice ra1 x.t.rs.length rc1, .slice wa1 x.t.ws.length wc1, .bool x.t.out, .string x.t.nm] 27))) := D4.out.alloc (Nat.le_of_lt BO4.out.lt) _
          have Q5 : Hid ((w4.alloc (.cells #[.int .i64 x.t.id, .int .i64 x.t.st, .int .i64 x.t.snap, .int .i64 x.t.cs, .slice ra1 x.t.rs.length rc1, .slice wa1 x.t.ws.length wc1, .bool x.t.out, .string x.t.nm] 27)).cell? ⟨w.heap.size, 2, none⟩ = some (.slice (some ⟨bl, o, none⟩) b.qs.length b.qc)) := by
            have h := (bx_low BA3.out D5.out hw1).c2
            rw [HQA.out] at h
            exact h
          have C5 : Hid (Cls (w4.alloc (.cells #[.int .i64 x.t.id, .int .i64 x.t.st, .int .i64 x.t.snap, .int .i64 x.t.cs, .slice ra1 x.t.rs.length rc1, .slice wa1 x.t.ws.length wc1, .bool x.t.out, .string x.t.nm] 27)) bl (o + k * 8) x) := HC.out.low (HB3.out.trans (D5.out.mono hww)) hbl
          have BO5 : Hid (Bx (w4.alloc (.cells #[.int .i64 x.t.id, .int .i64 x.t.st, .int .i64 x.t.snap, .int .i64 x.t.cs, .slice ra1 x.t.rs.length rc1, .slice wa1 x.t.ws.length wc1, .bool x.t.out, .string x.t.nm] 27)) w1.heap.size [.slice c.va c.vs.length c.vc, .slice c.pa c.ps.length c.pc, .slice a1 n1 c1, .int .i64 c.cs, .int .i64 c.nx]) := BO4.out.alloc _
          refine hK.out _ _ ⟨Q5.out, C5.out.c0, C5.out.c1, C5.out.c2, C5.out.c3, C5.out.c4, C5.out.c5, C5.out.c6, C5.out.c7⟩ (fun hHeld5 => ?_)
          clear hK K
          refine wpAnyH_ready (rs := [9]) (by kernel_rfl) (by simp) ?_
          refine AllReadyH.cons rfl (fun K hK => ?_) AllReadyH.nil
          have HBK : Hid ((w4.alloc (.cells #[.int .i64 x.t.id, .int .i64 x.t.st, .int .i64 x.t.snap, .int .i64 x.t.cs, .slice ra1 x.t.rs.length rc1, .slice wa1 x.t.ws.length wc1, .bool x.t.out, .string x.t.nm] 27)).heap[w4.heap.size]? = some (.cells (encT.enc ⟨x.t, ra1, rc1, wa1, wc1⟩).toArray 27 (0, 0))) := heap_alloc_new w4 _
          have O5 := hide ((HL.out.own.own.below HU.out).alloc (.cells #[.int .i64 x.t.id, .int .i64 x.t.st, .int .i64 x.t.snap, .int .i64 x.t.cs, .slice ra1 x.t.rs.length rc1, .slice wa1 x.t.ws.length wc1, .bool x.t.out, .string x.t.nm] 27))
          have hbb : w1.heap.size + 1 ≤ (w4.alloc (.cells #[.int .i64 x.t.id, .int .i64 x.t.st, .int .i64 x.t.snap, .int .i64 x.t.cs, .slice ra1 x.t.rs.length rc1, .slice wa1 x.t.ws.length wc1, .bool x.t.out, .string x.t.nm] 27)).heap.size := BO5.out.lt
          refine stepAppK (E := encT) 28 27 104 _ Try.underlying28 Try.info27 rfl (by omega) rfl _ _ rfl (v := .slice a1 n1 c1) ⟨x.t, ra1, rc1, wa1, wc1⟩ tone rfl O5.out rfl HBK.out hln hbb ?_
          intro g' cap w6 ho6 hg6 hg7 hlt6
          have LL6 : Hid (LLie w6 (w1.heap.size + 1) w6.heap.size (.slice (some ⟨g', 0, none⟩) (F.length + 1) cap) (F ++ [⟨x.t, ra1, rc1, wa1, wc1⟩])) := LLie.more (y := ⟨x.t, ra1, rc1, wa1, wc1⟩) HL.out HU.out (Nat.le_refl _) HU.out.size HT.out ho6 hg6 (hg7.imp id (fun e => e.trans (World.size_alloc _ _))) rfl
          have hb6 : Below (w1.heap.size + 1) (w4.alloc (.cells #[.int .i64 x.t.id, .int .i64 x.t.st, .int .i64 x.t.snap, .int .i64 x.t.cs, .slice ra1 x.t.rs.length rc1, .slice wa1 x.t.ws.length wc1, .bool x.t.out, .string x.t.nm] 27)) w6 := (Below.refl _ _).grown hg6 hbb (fun j hj => (World.ownsRow.lt O5.out j hj).1)
          have D6 : Hid (Below w1.heap.size w3 w6) := D5.out.trans (hb6.mono (Nat.le_succ _))
          have Q6 : Hid (w6.cell? ⟨w.heap.size, 2, none⟩ = some (.slice (some ⟨bl, o, none⟩) b.qs.length b.qc)) := by
            have h := (bx_low BA3.out D6.out hw1).c2
            rw [HQA.out] at h
            exact h
          have C6 : Hid (Cls w6 bl (o + k * 8) x) := HC.out.low (HB3.out.trans (D6.out.mono hww)) hbl
          have BO6 : Hid (Bx w6 w1.heap.size [.slice c.va c.vs.length c.vc, .slice c.pa c.ps.length c.pc, .slice a1 n1 c1, .int .i64 c.cs, .int .i64 c.nx]) := bx_low BO5.out hb6 (Nat.lt_succ_self _)
          clear ho6 hg6 hg7 hlt6 hb6 O5 HBK hbb
          refine hK.out _ _ ⟨Q6.out, C6.out.c0, C6.out.c1, C6.out.c2, C6.out.c3, C6.out.c4, C6.out.c5, C6.out.c6, C6.out.c7⟩ (fun hHeld6 => ?_)
          clear hK K
          (refine wpAnyH_take (i := 10) (v := ?_) rfl (by kernel_rfl) (by kernel_rfl) (by kernel_rfl) (fun _ _ _ h => h) (Or.inl ⟨by rfl, ?_⟩) (by assumption) ?_; rotate_left; (focus (intro w hSw; (try dsimp only at hSw); go_simp; (try with_reducible rfl); done)); simp only [Act.put, List.getElem_toArray, List.getElem_cons_zero, List.getElem_cons_succ, List.setIfInBounds_toArray, List.set_cons_zero, List.set_cons_succ])
          refine wpAnyH_ready (rs := [11]) (by kernel_rfl) (by simp) ?_
          refine AllReadyH.cons rfl (fun K hK => ?_) AllReadyH.nil
          have y2 := BO6.out.c2
          have fy2 := BO6.out.fz 2
          go_simp
          have D7 : Hid (Below w1.heap.size w3 (w6.setCell ⟨w1.heap.size, 2, none⟩ (.slice (some ⟨g', 0, none⟩) (F.length + 1) cap))) := D6.out.setCell (Nat.le_refl _) _
          have Q7 : Hid ((w6.setCell ⟨w1.heap.size, 2, none⟩ (.slice (some ⟨g', 0, none⟩) (F.length + 1) cap)).cell? ⟨w.heap.size, 2, none⟩ = some (.slice (some ⟨bl, o, none⟩) b.qs.length b.qc)) := by
            have h := (bx_low BA3.out D7.out hw1).c2
            rw [HQA.out] at h
            exact h
          have C7 : Hid (Cls (w6.setCell ⟨w1.heap.size, 2, none⟩ (.slice (some ⟨g', 0, none⟩) (F.length + 1) cap)) bl (o + k * 8) x) := HC.out.low (HB3.out.trans (D7.out.mono hww)) hbl
          have BO7 : Hid (Bx (w6.setCell ⟨w1.heap.size, 2, none⟩ (.slice (some ⟨g', 0, none⟩) (F.length + 1) cap)) w1.heap.size [.slice c.va c.vs.length c.vc, .slice c.pa c.ps.length c.pc, .slice (some ⟨g', 0, none⟩) (F.length + 1) cap, .int .i64 c.cs, .int .i64 c.nx]) := BO6.out.set 2 _
          have LL7 : Hid (LLie (w6.setCell ⟨w1.heap.size, 2, none⟩ (.slice (some ⟨g', 0, none⟩) (F.length + 1) cap)) (w1.heap.size + 1) (w6.setCell ⟨w1.heap.size, 2, none⟩ (.slice (some ⟨g', 0, none⟩) (F.length + 1) cap)).heap.size (.slice (some ⟨g', 0, none⟩) (F.length + 1) cap) (F ++ [⟨x.t, ra1, rc1, wa1, wc1⟩])) := by
            have h := LL6.out.set (a := ⟨w1.heap.size, 2, none⟩) (Nat.lt_succ_self _) (.slice (some ⟨g', 0, none⟩) (F.length + 1) cap)
            have e : (w6.setCell ⟨w1.heap.size, 2, none⟩ (.slice (some ⟨g', 0, none⟩) (F.length + 1) cap)).heap.size = w6.heap.size := by simp [World.setCell]
            rw [e]
            exact h
          have HFL7 : Hid (F.length + 1 = (F ++ [(⟨x.t, ra1, rc1, wa1, wc1⟩ : Ta)]).length) := by show _ = _; simp
          have HFT7 : Hid (txs (F ++ [(⟨x.t, ra1, rc1, wa1, wc1⟩ : Ta)]) = ((txs b.qs).take (k + 1)).filter (fun t : Tx => !(t.nm.toList == s.toList))) := by show _ = _; rw [HE.out, ← HFT.out]; simp [txs]
          refine hK.out _ _ ⟨Q7.out, C7.out.c0, C7.out.c1, C7.out.c2, C7.out.c3, C7.out.c4, C7.out.c5, C7.out.c6, C7.out.c7⟩ (fun hHeld7 => ?_)
          clear hK K
          refine wpAnyH_done (by kernel_rfl) ?_ _
          go_wp2
          go_roundw
          case rel => exact ⟨k + 1, _, _, _, _, by omega, by go_num, HFL7, HFT7, LL7, BO7, D7⟩
          case measure => simp [intOf]; omega
        · go_simp
          go_wp2_with fail
          refine CT.out.mono ?_
          rintro e w4 ⟨ra1, rc1, wa1, wc1, rfl, ht, hb4⟩
          have hbu := undrew hb4
          have HT : Hid (TLie w4 wr.heap.size w4.heap.size x.t ra1 rc1 wa1 wc1) := ht
          have HU : Hid (Below wr.heap.size wr w4) := hbu
          have D4 : Hid (Below w1.heap.size w3 w4) := HD.out.trans (HU.out.mono (Nat.le_of_lt BOr.out.lt))
          have Q4 : Hid (w4.cell? ⟨w.heap.size, 2, none⟩ = some (.slice (some ⟨bl, o, none⟩) b.qs.length b.qc)) := by
            have h := (bx_low BA3.out D4.out hw1).c2
            rw [HQA.out] at h
            exact h
          have C4 : Hid (Cls w4 bl (o + k * 8) x) := HC.out.low (HB3.out.trans (D4.out.mono hww)) hbl
          have BO4 : Hid (Bx w4 w1.heap.size [.slice c.va c.vs.length c.vc, .slice c.pa c.ps.length c.pc, .slice a1 n1 c1, .int .i64 c.cs, .int .i64 c.nx]) := BOr.out.below HU.out
          clear hb4 hbu ht
          go_wp2_with fail
          refine hK.out _ _ ⟨Q4.out, C4.out.c0, C4.out.c1, C4.out.c2, C4.out.c3, C4.out.c4, C4.out.c5, C4.out.c6, C4.out.c7⟩ (fun hHeld4 => ?_)
          clear hK K
          refine wpAnyH_ready (rs := [1, 8]) (by kernel_rfl) (by simp) ?_
          refine AllReadyH.cons rfl (fun K hK => ?_) (AllReadyH.cons rfl (fun K hK => ?_) AllReadyH.nil)
          · have y2 := BO4.out.c2
            go_simp
            refine hK.out _ _ ⟨Q4.out, C4.out.c0, C4.out.c1, C4.out.c2, C4.out.c3, C4.out.c4, C4.out.c5, C4.out.c6, C4.out.c7⟩ (fun hHx4 => ?_)
            clear hK K y2
            refine wpAnyH_ready (rs := [8]) (by kernel_rfl) (by simp) ?_
            refine AllReadyH.cons rfl (fun K hK => ?_) AllReadyH.nil
            go_simp
            have D5 : Hid (Below w1.heap.size w3 (w4.alloc (.cells #[.int .i64 x.t.id, .int .i64 x.t.st, .int .i64 x.t.snap, .int .i64 x.t.cs, .slice ra1 x.t.rs.length rc1, .slice wa1 x.t.ws.length wc1, .bool x.t.out, .string x.t.nm] 27))) := D4.out.alloc (Nat.le_of_lt BO4.out.lt) _
            have Q5 : Hid ((w4.alloc (.cells #[.int .i64 x.t.id, .int .i64 x.t.st, .int .i64 x.t.snap, .int .i64 x.t.cs, .slice ra1 x.t.rs.length rc1, .slice wa1 x.t.ws.length wc1, .bool x.t.out, .string x.t.nm] 27)).cell? ⟨w.heap.size, 2, none⟩ = some (.slice (some ⟨bl, o, none⟩) b.qs.length b.qc)) := by
              have h := (bx_low BA3.out D5.out hw1).c2
              rw [HQA.out] at h
              exact h
            have C5 : Hid (Cls (w4.alloc (.cells #[.int .i64 x.t.id, .int .i64 x.t.st, .int .i64 x.t.snap, .int .i64 x.t.cs, .slice ra1 x.t.rs.length rc1, .slice wa1 x.t.ws.length wc1, .bool x.t.out, .string x.t.nm] 27)) bl (o + k * 8) x) := HC.out.low (HB3.out.trans (D5.out.mono hww)) hbl
            have BO5 : Hid (Bx (w4.alloc (.cells #[.int .i64 x.t.id, .int .i64 x.t.st, .int .i64 x.t.snap, .int .i64 x.t.cs, .slice ra1 x.t.rs.length rc1, .slice wa1 x.t.ws.length wc1, .bool x.t.out, .string x.t.nm] 27)) w1.heap.size [.slice c.va c.vs.length c.vc, .slice c.pa c.ps.length c.pc, .slice a1 n1 c1, .int .i64 c.cs, .int .i64 c.nx]) := BO4.out.alloc _
            refine hK.out _ _ ⟨Q5.out, C5.out.c0, C5.out.c1, C5.out.c2, C5.out.c3, C5.out.c4, C5.out.c5, C5.out.c6, C5.out.c7⟩ (fun hHeld5 => ?_)
            clear hK K
            refine wpAnyH_ready (rs := [9]) (by kernel_rfl) (by simp) ?_
            refine AllReadyH.cons rfl (fun K hK => ?_) AllReadyH.nil
            have HBK : Hid ((w4.alloc (.cells #[.int .i64 x.t.id, .int .i64 x.t.st, .int .i64 x.t.snap, .int .i64 x.t.cs, .slice ra1 x.t.rs.length rc1, .slice wa1 x.t.ws.length wc1, .bool x.t.out, .string x.t.nm] 27)).heap[w4.heap.size]? = some (.cells (encT.enc ⟨x.t, ra1, rc1, wa1, wc1⟩).toArray 27 (0, 0))) := heap_alloc_new w4 _
            have O5 := hide ((HL.out.own.own.below HU.out).alloc (.cells #[.int .i64 x.t.id, .int .i64 x.t.st, .int .i64 x.t.snap, .int .i64 x.t.cs, .slice ra1 x.t.rs.length rc1, .slice wa1 x.t.ws.length wc1, .bool x.t.out, .string x.t.nm] 27))
            have hbb : w1.heap.size + 1 ≤ (w4.alloc (.cells #[.int .i64 x.t.id, .int .i64 x.t.st, .int .i64 x.t.snap, .int .i64 x.t.cs, .slice ra1 x.t.rs.length rc1, .slice wa1 x.t.ws.length wc1, .bool x.t.out, .string x.t.nm] 27)).heap.size := BO5.out.lt
            refine stepAppK (E := encT) 28 27 104 _ Try.underlying28 Try.info27 rfl (by omega) rfl _ _ rfl (v := .slice a1 n1 c1) ⟨x.t, ra1, rc1, wa1, wc1⟩ tone rfl O5.out rfl HBK.out hln hbb ?_
            intro g' cap w6 ho6 hg6 hg7 hlt6
            have LL6 : Hid (LLie w6 (w1.heap.size + 1) w6.heap.size (.slice (some ⟨g', 0, none⟩) (F.length + 1) cap) (F ++ [⟨x.t, ra1, rc1, wa1, wc1⟩])) := LLie.more (y := ⟨x.t, ra1, rc1, wa1, wc1⟩) HL.out HU.out (Nat.le_refl _) HU.out.size HT.out ho6 hg6 (hg7.imp id (fun e => e.trans (World.size_alloc _ _))) rfl
            have hb6 : Below (w1.heap.size + 1) (w4.alloc (.cells #[.int .i64 x.t.id, .int .i64 x.t.st, .int .i64 x.t.snap, .int .i64 x.t.cs, .slice ra1 x.t.rs.length rc1, .slice wa1 x.t.ws.length wc1, .bool x.t.out, .string x.t.nm] 27)) w6 := (Below.refl _ _).grown hg6 hbb (fun j hj => (World.ownsRow.lt O5.out j hj).1)
            have D6 : Hid (Below w1.heap.size w3 w6) := D5.out.trans (hb6.mono (Nat.le_succ _))
            have Q6 : Hid (w6.cell? ⟨w.heap.size, 2, none⟩ = some (.slice (some ⟨bl, o, none⟩) b.qs.length b.qc)) := by
              have h := (bx_low BA3.out D6.out hw1).c2
              rw [HQA.out] at h
              exact h
            have C6 : Hid (Cls w6 bl (o + k * 8) x) := HC.out.low (HB3.out.trans (D6.out.mono hww)) hbl
            have BO6 : Hid (Bx w6 w1.heap.size [.slice c.va c.vs.length c.vc, .slice c.pa c.ps.length c.pc, .slice a1 n1 c1, .int .i64 c.cs, .int .i64 c.nx]) := bx_low BO5.out hb6 (Nat.lt_succ_self _)
            clear ho6 hg6 hg7 hlt6 hb6 O5 HBK hbb
            refine hK.out _ _ ⟨Q6.out, C6.out.c0, C6.out.c1, C6.out.c2, C6.out.c3, C6.out.c4, C6.out.c5, C6.out.c6, C6.out.c7⟩ (fun hHeld6 => ?_)
            clear hK K
            (refine wpAnyH_take (i := 10) (v := ?_) rfl (by kernel_rfl) (by kernel_rfl) (by kernel_rfl) (fun _ _ _ h => h) (Or.inl ⟨by rfl, ?_⟩) (by assumption) ?_; rotate_left; (focus (intro w hSw; (try dsimp only at hSw); go_simp; (try with_reducible rfl); done)); simp only [Act.put, List.getElem_toArray, List.getElem_cons_zero, List.getElem_cons_succ, List.setIfInBounds_toArray, List.set_cons_zero, List.set_cons_succ])
            refine wpAnyH_ready (rs := [11]) (by kernel_rfl) (by simp) ?_
            refine AllReadyH.cons rfl (fun K hK => ?_) AllReadyH.nil
            have y2 := BO6.out.c2
            have fy2 := BO6.out.fz 2
            go_simp
            have D7 : Hid (Below w1.heap.size w3 (w6.setCell ⟨w1.heap.size, 2, none⟩ (.slice (some ⟨g', 0, none⟩) (F.length + 1) cap))) := D6.out.setCell (Nat.le_refl _) _
            have Q7 : Hid ((w6.setCell ⟨w1.heap.size, 2, none⟩ (.slice (some ⟨g', 0, none⟩) (F.length + 1) cap)).cell? ⟨w.heap.size, 2, none⟩ = some (.slice (some ⟨bl, o, none⟩) b.qs.length b.qc)) := by
              have h := (bx_low BA3.out D7.out hw1).c2
              rw [HQA.out] at h
              exact h
            have C7 : Hid (Cls (w6.setCell ⟨w1.heap.size, 2, none⟩ (.slice (some ⟨g', 0, none⟩) (F.length + 1) cap)) bl (o + k * 8) x) := HC.out.low (HB3.out.trans (D7.out.mono hww)) hbl
            have BO7 : Hid (Bx (w6.setCell ⟨w1.heap.size, 2, none⟩ (.slice (some ⟨g', 0, none⟩) (F.length + 1) cap)) w1.heap.size [.slice c.va c.vs.length c.vc, .slice c.pa c.ps.length c.pc, .slice (some ⟨g', 0, none⟩) (F.length + 1) cap, .int .i64 c.cs, .int .i64 c.nx]) := BO6.out.set 2 _
            have LL7 : Hid (LLie (w6.setCell ⟨w1.heap.size, 2, none⟩ (.slice (some ⟨g', 0, none⟩) (F.length + 1) cap)) (w1.heap.size + 1) (w6.setCell ⟨w1.heap.size, 2, none⟩ (.slice (some ⟨g', 0, none⟩) (F.length + 1) cap)).heap.size (.slice (some ⟨g', 0, none⟩) (F.length + 1) cap) (F ++ [⟨x.t, ra1, rc1, wa1, wc1⟩])) := by
              have h := LL6.out.set (a := ⟨w1.heap.size, 2, none⟩) (Nat.lt_succ_self _) (.slice (some ⟨g', 0, none⟩) (F.length + 1) cap)
              have e : (w6.setCell ⟨w1.heap.size, 2, none⟩ (.slice (some ⟨g', 0, none⟩) (F.length + 1) cap)).heap.size = w6.heap.size := by simp [World.setCell]
              rw [e]
              exact h
            have HFL7 : Hid (F.length + 1 = (F ++ [(⟨x.t, ra1, rc1, wa1, wc1⟩ : Ta)]).length) := by show _ = _; simp
            have HFT7 : Hid (txs (F ++ [(⟨x.t, ra1, rc1, wa1, wc1⟩ : Ta)]) = ((txs b.qs).take (k + 1)).filter (fun t : Tx => !(t.nm.toList == s.toList))) := by show _ = _; rw [HE.out, ← HFT.out]; simp [txs]
            refine hK.out _ _ ⟨Q7.out, C7.out.c0, C7.out.c1, C7.out.c2, C7.out.c3, C7.out.c4, C7.out.c5, C7.out.c6, C7.out.c7⟩ (fun hHeld7 => ?_)
            clear hK K
            refine wpAnyH_done (by kernel_rfl) ?_ _
            go_wp2
            go_roundw
            case rel => exact ⟨k + 1, _, _, _, _, by omega, by go_num, HFL7, HFT7, LL7, BO7, D7⟩
            case measure => simp [intOf]; omega
          · go_simp
            have D5 : Hid (Below w1.heap.size w3 (w4.alloc (.cells #[.int .i64 x.t.id, .int .i64 x.t.st, .int .i64 x.t.snap, .int .i64 x.t.cs, .slice ra1 x.t.rs.length rc1, .slice wa1 x.t.ws.length wc1, .bool x.t.out, .string x.t.nm] 27))) := D4.out.alloc (Nat.le_of_lt BO4.out.lt) _
            have Q5 : Hid ((w4.alloc (.cells #[.int .i64 x.t.id, .int .i64 x.t.st, .int .i64 x.t.snap, .int .i64 x.t.cs, .slice ra1 x.t.rs.length rc1, .slice wa1 x.t.ws.length wc1, .bool x.t.out, .string x.t.nm] 27)).cell? ⟨w.heap.size, 2, none⟩ = some (.slice (some ⟨bl, o, none⟩) b.qs.length b.qc)) := by
              have h := (bx_low BA3.out D5.out hw1).c2
              rw [HQA.out] at h
              exact h
            have C5 : Hid (Cls (w4.alloc (.cells #[.int .i64 x.t.id, .int .i64 x.t.st, .int .i64 x.t.snap, .int .i64 x.t.cs, .slice ra1 x.t.rs.length rc1, .slice wa1 x.t.ws.length wc1, .bool x.t.out, .string x.t.nm] 27)) bl (o + k * 8) x) := HC.out.low (HB3.out.trans (D5.out.mono hww)) hbl
            have BO5 : Hid (Bx (w4.alloc (.cells #[.int .i64 x.t.id, .int .i64 x.t.st, .int .i64 x.t.snap, .int .i64 x.t.cs, .slice ra1 x.t.rs.length rc1, .slice wa1 x.t.ws.length wc1, .bool x.t.out, .string x.t.nm] 27)) w1.heap.size [.slice c.va c.vs.length c.vc, .slice c.pa c.ps.length c.pc, .slice a1 n1 c1, .int .i64 c.cs, .int .i64 c.nx]) := BO4.out.alloc _
            refine hK.out _ _ ⟨Q5.out, C5.out.c0, C5.out.c1, C5.out.c2, C5.out.c3, C5.out.c4, C5.out.c5, C5.out.c6, C5.out.c7⟩ (fun hHeld5 => ?_)
            clear hK K
            refine wpAnyH_ready (rs := [1]) (by kernel_rfl) (by simp) ?_
            refine AllReadyH.cons rfl (fun K hK => ?_) AllReadyH.nil
            have y2 := BO5.out.c2
            have y2b := BO4.out.c2
            go_simp
            refine hK.out _ _ ⟨Q5.out, C5.out.c0, C5.out.c1, C5.out.c2, C5.out.c3, C5.out.c4, C5.out.c5, C5.out.c6, C5.out.c7⟩ (fun hHx5 => ?_)
            clear hK K y2 y2b
            refine wpAnyH_ready (rs := [9]) (by kernel_rfl) (by simp) ?_
            refine AllReadyH.cons rfl (fun K hK => ?_) AllReadyH.nil
            have HBK : Hid ((w4.alloc (.cells #[.int .i64 x.t.id, .int .i64 x.t.st, .int .i64 x.t.snap, .int .i64 x.t.cs, .slice ra1 x.t.rs.length rc1, .slice wa1 x.t.ws.length wc1, .bool x.t.out, .string x.t.nm] 27)).heap[w4.heap.size]? = some (.cells (encT.enc ⟨x.t, ra1, rc1, wa1, wc1⟩).toArray 27 (0, 0))) := heap_alloc_new w4 _
            have O5 := hide ((HL.out.own.own.below HU.out).alloc (.cells #[.int .i64 x.t.id, .int .i64 x.t.st, .int .i64 x.t.snap, .int .i64 x.t.cs, .slice ra1 x.t.rs.length rc1, .slice wa1 x.t.ws.length wc1, .bool x.t.out, .string x.t.nm] 27))
            have hbb : w1.heap.size + 1 ≤ (w4.alloc (.cells #[.int .i64 x.t.id, .int .i64 x.t.st, .int .i64 x.t.snap, .int .i64 x.t.cs, .slice ra1 x.t.rs.length rc1, .slice wa1 x.t.ws.length wc1, .bool x.t.out, .string x.t.nm] 27)).heap.size := BO5.out.lt
            refine stepAppK (E := encT) 28 27 104 _ Try.underlying28 Try.info27 rfl (by omega) rfl _ _ rfl (v := .slice a1 n1 c1) ⟨x.t, ra1, rc1, wa1, wc1⟩ tone rfl O5.out rfl HBK.out hln hbb ?_
            intro g' cap w6 ho6 hg6 hg7 hlt6
            have LL6 : Hid (LLie w6 (w1.heap.size + 1) w6.heap.size (.slice (some ⟨g', 0, none⟩) (F.length + 1) cap) (F ++ [⟨x.t, ra1, rc1, wa1, wc1⟩])) := LLie.more (y := ⟨x.t, ra1, rc1, wa1, wc1⟩) HL.out HU.out (Nat.le_refl _) HU.out.size HT.out ho6 hg6 (hg7.imp id (fun e => e.trans (World.size_alloc _ _))) rfl
            have hb6 : Below (w1.heap.size + 1) (w4.alloc (.cells #[.int .i64 x.t.id, .int .i64 x.t.st, .int .i64 x.t.snap, .int .i64 x.t.cs, .slice ra1 x.t.rs.length rc1, .slice wa1 x.t.ws.length wc1, .bool x.t.out, .string x.t.nm] 27)) w6 := (Below.refl _ _).grown hg6 hbb (fun j hj => (World.ownsRow.lt O5.out j hj).1)
            have D6 : Hid (Below w1.heap.size w3 w6) := D5.out.trans (hb6.mono (Nat.le_succ _))
            have Q6 : Hid (w6.cell? ⟨w.heap.size, 2, none⟩ = some (.slice (some ⟨bl, o, none⟩) b.qs.length b.qc)) := by
              have h := (bx_low BA3.out D6.out hw1).c2
              rw [HQA.out] at h
              exact h
            have C6 : Hid (Cls w6 bl (o + k * 8) x) := HC.out.low (HB3.out.trans (D6.out.mono hww)) hbl
            have BO6 : Hid (Bx w6 w1.heap.size [.slice c.va c.vs.length c.vc, .slice c.pa c.ps.length c.pc, .slice a1 n1 c1, .int .i64 c.cs, .int .i64 c.nx]) := bx_low BO5.out hb6 (Nat.lt_succ_self _)
            clear ho6 hg6 hg7 hlt6 hb6 O5 HBK hbb
            refine hK.out _ _ ⟨Q6.out, C6.out.c0, C6.out.c1, C6.out.c2, C6.out.c3, C6.out.c4, C6.out.c5, C6.out.c6, C6.out.c7⟩ (fun hHeld6 => ?_)
            clear hK K
            (refine wpAnyH_take (i := 10) (v := ?_) rfl (by kernel_rfl) (by kernel_rfl) (by kernel_rfl) (fun _ _ _ h => h) (Or.inl ⟨by rfl, ?_⟩) (by assumption) ?_; rotate_left; (focus (intro w hSw; (try dsimp only at hSw); go_simp; (try with_reducible rfl); done)); simp only [Act.put, List.getElem_toArray, List.getElem_cons_zero, List.getElem_cons_succ, List.setIfInBounds_toArray, List.set_cons_zero, List.set_cons_succ])
            refine wpAnyH_ready (rs := [11]) (by kernel_rfl) (by simp) ?_
            refine AllReadyH.cons rfl (fun K hK => ?_) AllReadyH.nil
            have y2 := BO6.out.c2
            have fy2 := BO6.out.fz 2
            go_simp
            have D7 : Hid (Below w1.heap.size w3 (w6.setCell ⟨w1.heap.size, 2, none⟩ (.slice (some ⟨g', 0, none⟩) (F.length + 1) cap))) := D6.out.setCell (Nat.le_refl _) _
            have Q7 : Hid ((w6.setCell ⟨w1.heap.size, 2, none⟩ (.slice (some ⟨g', 0, none⟩) (F.length + 1) cap)).cell? ⟨w.heap.size, 2, none⟩ = some (.slice (some ⟨bl, o, none⟩) b.qs.length b.qc)) := by
              have h := (bx_low BA3.out D7.out hw1).c2
              rw [HQA.out] at h
              exact h
            have C7 : Hid (Cls (w6.setCell ⟨w1.heap.size, 2, none⟩ (.slice (some ⟨g', 0, none⟩) (F.length + 1) cap)) bl (o + k * 8) x) := HC.out.low (HB3.out.trans (D7.out.mono hww)) hbl
            have BO7 : Hid (Bx (w6.setCell ⟨w1.heap.size, 2, none⟩ (.slice (some ⟨g', 0, none⟩) (F.length + 1) cap)) w1.heap.size [.slice c.va c.vs.length c.vc, .slice c.pa c.ps.length c.pc, .slice (some ⟨g', 0, none⟩) (F.length + 1) cap, .int .i64 c.cs, .int .i64 c.nx]) := BO6.out.set 2 _
            have LL7 : Hid (LLie (w6.setCell ⟨w1.heap.size, 2, none⟩ (.slice (some ⟨g', 0, none⟩) (F.length + 1) cap)) (w1.heap.size + 1) (w6.setCell ⟨w1.heap.size, 2, none⟩ (.slice (some ⟨g', 0, none⟩) (F.length + 1) cap)).heap.size (.slice (some ⟨g', 0, none⟩) (F.length + 1) cap) (F ++ [⟨x.t, ra1, rc1, wa1, wc1⟩])) := by
              have h := LL6.out.set (a := ⟨w1.heap.size, 2, none⟩) (Nat.lt_succ_self _) (.slice (some ⟨g', 0, none⟩) (F.length + 1) cap)
              have e : (w6.setCell ⟨w1.heap.size, 2, none⟩ (.slice (some ⟨g', 0, none⟩) (F.length + 1) cap)).heap.size = w6.heap.size := by simp [World.setCell]
              rw [e]
              exact h
            have HFL7 : Hid (F.length + 1 = (F ++ [(⟨x.t, ra1, rc1, wa1, wc1⟩ : Ta)]).length) := by show _ = _; simp
            have HFT7 : Hid (txs (F ++ [(⟨x.t, ra1, rc1, wa1, wc1⟩ : Ta)]) = ((txs b.qs).take (k + 1)).filter (fun t : Tx => !(t.nm.toList == s.toList))) := by show _ = _; rw [HE.out, ← HFT.out]; simp [txs]
            refine hK.out _ _ ⟨Q7.out, C7.out.c0, C7.out.c1, C7.out.c2, C7.out.c3, C7.out.c4, C7.out.c5, C7.out.c6, C7.out.c7⟩ (fun hHeld7 => ?_)
            clear hK K
            refine wpAnyH_done (by kernel_rfl) ?_ _
            go_wp2
            go_roundw
            case rel => exact ⟨k + 1, _, _, _, _, by omega, by go_num, HFL7, HFT7, LL7, BO7, D7⟩
            case measure => simp [intOf]; omega
      · have HE := hide (HNo.out hq)
        clear HYes HNo
        go_wp2
        go_roundw
        case rel => exact ⟨k + 1, F, a1, c1, n1, by omega, by go_num, HFL, by rw [HE.out]; exact HFT, HL, BOr, HD⟩
        case measure => simp [intOf]; omega
    · have hd : ¬ (k : Int) < (b.qs.length : Int) := by omega
      have HE : Hid (txs F = (txs b.qs).filter (fun t : Tx => !(t.nm.toList == s.toList))) := by show _ = _; rw [HFT.out, List.take_of_length_le (by rw [txs_len]; omega)]
      have BAr := hide (bx_low BA3.out HD.out hw1)
      have BRr := hide (bx_low BR3.out HD.out (by omega))
      have HLr := hide (HL3.out.low HD.out (Nat.le_refl _))
      have HBr : Hid (Below w.heap.size w wr) := HB3.out.trans (HD.out.mono hww)
      have x2 := BAr.out.c2
      have o0 := BOr.out.c0
      have fo0 := BOr.out.fz 0
      have z0 := BRr.out.c0
      have fz0 := BRr.out.fz 0
      have o1 := BOr.out.c1
      have fo1 := BOr.out.fz 1
      have z1 := BRr.out.c1
      have fz1 := BRr.out.fz 1
      have o2 := BOr.out.c2
      have fo2 := BOr.out.fz 2
      have z2 := BRr.out.c2
      have fz2 := BRr.out.fz 2
      have o3 := BOr.out.c3
      have fo3 := BOr.out.fz 3
      have z3 := BRr.out.c3
      have fz3 := BRr.out.fz 3
      have o4 := BOr.out.c4
      have fo4 := BOr.out.fz 4
      have z4 := BRr.out.c4
      have fz4 := BRr.out.fz 4
      have HBf : Hid (Below w.heap.size w (((((wr.setCell ⟨w.heap.size + 1, 0, none⟩ (.slice c.va c.vs.length c.vc)).setCell ⟨w.heap.size + 1, 1, none⟩ (.slice c.pa c.ps.length c.pc)).setCell ⟨w.heap.size + 1, 2, none⟩ (.slice a1 n1 c1)).setCell ⟨w.heap.size + 1, 3, none⟩ (.int .i64 c.cs)).setCell ⟨w.heap.size + 1, 4, none⟩ (.int .i64 c.nx))) := (((((HBr.out.setCell (by show _ ≤ _ + 1; omega) _).setCell (by show _ ≤ _ + 1; omega) _).setCell (by show _ ≤ _ + 1; omega) _).setCell (by show _ ≤ _ + 1; omega) _).setCell (by show _ ≤ _ + 1; omega) _)
      have HLf : Hid (BLie (((((wr.setCell ⟨w.heap.size + 1, 0, none⟩ (.slice c.va c.vs.length c.vc)).setCell ⟨w.heap.size + 1, 1, none⟩ (.slice c.pa c.ps.length c.pc)).setCell ⟨w.heap.size + 1, 2, none⟩ (.slice a1 n1 c1)).setCell ⟨w.heap.size + 1, 3, none⟩ (.int .i64 c.cs)).setCell ⟨w.heap.size + 1, 4, none⟩ (.int .i64 c.nx)) w0.heap.size w1.heap.size c) := (((((HLr.out.setO (a := ⟨w.heap.size + 1, 0, none⟩) (by show w.heap.size + 1 < w0.heap.size ∨ w1.heap.size ≤ w.heap.size + 1; omega) _).setO (a := ⟨w.heap.size + 1, 1, none⟩) (by show w.heap.size + 1 < w0.heap.size ∨ w1.heap.size ≤ w.heap.size + 1; omega) _).setO (a := ⟨w.heap.size + 1, 2, none⟩) (by show w.heap.size + 1 < w0.heap.size ∨ w1.heap.size ≤ w.heap.size + 1; omega) _).setO (a := ⟨w.heap.size + 1, 3, none⟩) (by show w.heap.size + 1 < w0.heap.size ∨ w1.heap.size ≤ w.heap.size + 1; omega) _).setO (a := ⟨w.heap.size + 1, 4, none⟩) (by show w.heap.size + 1 < w0.heap.size ∨ w1.heap.size ≤ w.heap.size + 1; omega) _)
      have HZf : Hid ((((((wr.setCell ⟨w.heap.size + 1, 0, none⟩ (.slice c.va c.vs.length c.vc)).setCell ⟨w.heap.size + 1, 1, none⟩ (.slice c.pa c.ps.length c.pc)).setCell ⟨w.heap.size + 1, 2, none⟩ (.slice a1 n1 c1)).setCell ⟨w.heap.size + 1, 3, none⟩ (.int .i64 c.cs)).setCell ⟨w.heap.size + 1, 4, none⟩ (.int .i64 c.nx)).heap.size = wr.heap.size) := by show _ = _; simp [World.setCell]
      have LLf : Hid (LLie (((((wr.setCell ⟨w.heap.size + 1, 0, none⟩ (.slice c.va c.vs.length c.vc)).setCell ⟨w.heap.size + 1, 1, none⟩ (.slice c.pa c.ps.length c.pc)).setCell ⟨w.heap.size + 1, 2, none⟩ (.slice a1 n1 c1)).setCell ⟨w.heap.size + 1, 3, none⟩ (.int .i64 c.cs)).setCell ⟨w.heap.size + 1, 4, none⟩ (.int .i64 c.nx)) (w1.heap.size + 1) wr.heap.size (.slice a1 n1 c1) F) := (((((HL.out.set (a := ⟨w.heap.size + 1, 0, none⟩) (by show w.heap.size + 1 < w1.heap.size + 1; omega) _).set (a := ⟨w.heap.size + 1, 1, none⟩) (by show w.heap.size + 1 < w1.heap.size + 1; omega) _).set (a := ⟨w.heap.size + 1, 2, none⟩) (by show w.heap.size + 1 < w1.heap.size + 1; omega) _).set (a := ⟨w.heap.size + 1, 3, none⟩) (by show w.heap.size + 1 < w1.heap.size + 1; omega) _).set (a := ⟨w.heap.size + 1, 4, none⟩) (by show w.heap.size + 1 < w1.heap.size + 1; omega) _)
      have hbw : w1.heap.size + 1 ≤ wr.heap.size := BOr.out.lt
      have HLr2 : Hid (BLie (((((wr.setCell ⟨w.heap.size + 1, 0, none⟩ (.slice c.va c.vs.length c.vc)).setCell ⟨w.heap.size + 1, 1, none⟩ (.slice c.pa c.ps.length c.pc)).setCell ⟨w.heap.size + 1, 2, none⟩ (.slice a1 n1 c1)).setCell ⟨w.heap.size + 1, 3, none⟩ (.int .i64 c.cs)).setCell ⟨w.heap.size + 1, 4, none⟩ (.int .i64 c.nx)) w.heap.size (((((wr.setCell ⟨w.heap.size + 1, 0, none⟩ (.slice c.va c.vs.length c.vc)).setCell ⟨w.heap.size + 1, 1, none⟩ (.slice c.pa c.ps.length c.pc)).setCell ⟨w.heap.size + 1, 2, none⟩ (.slice a1 n1 c1)).setCell ⟨w.heap.size + 1, 3, none⟩ (.int .i64 c.cs)).setCell ⟨w.heap.size + 1, 4, none⟩ (.int .i64 c.nx)).heap.size ⟨c.vs, c.ps, F, c.cs, c.nx, c.va, c.vc, c.pa, c.pc, a1, c1⟩) := by
        obtain ⟨m1, m2, k1, k2, k3, j1, j2, j3⟩ := HLf.out.ex
        refine ⟨m1, m2, by omega, k2, by rw [HZf.out]; omega, j1.mono (by omega) (Nat.le_refl _), j2, ?_⟩
        show LLie (((((wr.setCell ⟨w.heap.size + 1, 0, none⟩ (.slice c.va c.vs.length c.vc)).setCell ⟨w.heap.size + 1, 1, none⟩ (.slice c.pa c.ps.length c.pc)).setCell ⟨w.heap.size + 1, 2, none⟩ (.slice a1 n1 c1)).setCell ⟨w.heap.size + 1, 3, none⟩ (.int .i64 c.cs)).setCell ⟨w.heap.size + 1, 4, none⟩ (.int .i64 c.nx)) m2 (((((wr.setCell ⟨w.heap.size + 1, 0, none⟩ (.slice c.va c.vs.length c.vc)).setCell ⟨w.heap.size + 1, 1, none⟩ (.slice c.pa c.ps.length c.pc)).setCell ⟨w.heap.size + 1, 2, none⟩ (.slice a1 n1 c1)).setCell ⟨w.heap.size + 1, 3, none⟩ (.int .i64 c.cs)).setCell ⟨w.heap.size + 1, 4, none⟩ (.int .i64 c.nx)).heap.size (.slice a1 F.length c1) F
        rw [← HFL.out]
        exact LLf.out.mono (by omega) (by rw [HZf.out]; exact Nat.le_refl _)
      go_wp2
      refine bodyPost_ret (v := .agg #[.slice c.va c.vs.length c.vc, .slice c.pa c.ps.length c.pc, .slice a1 n1 c1, .int .i64 c.cs, .int .i64 c.nx]) (by simp [results, Try.results34, go_sem, z0, z1, z2, z3, z4]) rfl ⟨⟨c.vs, c.ps, F, c.cs, c.nx, c.va, c.vc, c.pa, c.pc, a1, c1⟩, by show _ = Ending.returned (.agg #[.slice c.va c.vs.length c.vc, .slice c.pa c.ps.length c.pc, .slice a1 F.length c1, .int .i64 c.cs, .int .i64 c.nx]); rw [← HFL.out], ⟨HSM.out.v, HSM.out.p, HE.out, HSM.out.cs, HSM.out.nx⟩, HLr2.out, HBf.out⟩

end Go.Proofs.Ytnefncmkhgkdnaa

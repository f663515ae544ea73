/- ended of the program, of one that is ready and is let through, whatever stands there. -/
import Derived.Test.YtmijppfppigjcaaGreatPd01
import Derived.Test.YtmijppfppigjcaaGreatPd22
import Derived.Test.YtmijppfppigjcaaGreatPd25
import Derived.Test.YtmijppfppigjcaaGreatPd19
import Derived.Laws.EntriesVeiled
import Derived.Deep.RegionHeld3
import Derived.Deep.Cut
import Derived.Deep.CutRange
import Derived.Test.YtmijppfppigjcaaGreatPd06
namespace Go.Proofs.YtmijppfppigjcaaGreat
open Go.RowKit
open KM
open VM
attribute [local go_sem ↓] Go.wp_at_zero Go.wp_at_succ

theorem idx_there : ∀ (l : List ByteArray) (s : ByteArray) (k : Nat), s ∈ l → ∃ i, i < l.length ∧ idxN l s k = ((k + i : Nat) : Int)
 | [], s, k, h => by cases h
 | x :: l, s, k, h => by
  unfold idxN
  by_cases hx : (x.toList == s.toList) = true
  ·rw [if_pos hx]
   exact ⟨0, by simp, rfl⟩
  ·rw [if_neg hx]
   rcases List.mem_cons.1 h with h | h
   ·subst h
    exact absurd (by simp) hx
   ·obtain ⟨i, hi, he⟩ := idx_there l s (k + 1) h
    exact ⟨i + 1, by simp; omega, by rw [he]; congr 1; omega⟩
set_option maxRecDepth 100000 in
set_option maxHeartbeats 4000000 in
theorem iendA (b : Bb) (nm : ByteArray) (i : Nat) (hi : i < b.qs.length) (hat : idxN (nms b.qs) nm 0 = (i : Int)) (hf : BFit b) (w : World) (hp : BRows w b) :
  Calls Tryz.prog 38 #[.agg #[.slice b.va b.vs.length b.vc, .slice b.pa b.ps.length b.pc, .slice b.qa b.qs.length b.qc, .int .i64 b.cs, .int .i64 b.nx], .agg #[.string nm, .bool true]] w fun e w' => ∃ (t : Tx) (d : Bb), e = .returned (.tuple #[.agg #[.slice d.va d.vs.length d.vc, .slice d.pa d.ps.length d.pc, .slice d.qa d.qs.length d.qc, .int .i64 d.cs, .int .i64 d.nx], .bool true]) ∧ TFit t ∧ ThrA b t d ∧ Bo w' w.heap.size w'.heap.size d ∧ Below w.heap.size w w' := by
 have BA : Hid (Bx (((w.alloc (.cells #[.slice b.va b.vs.length b.vc, .slice b.pa b.ps.length b.pc, .slice b.qa b.qs.length b.qc, .int .i64 b.cs, .int .i64 b.nx] 42)).alloc (.cells #[.string nm, .bool true] 99)).alloc (.cells #[.slice none 0 0, .slice none 0 0, .slice none 0 0, .int .i64 0, .int .i64 0] 42)) w.heap.size [.slice b.va b.vs.length b.vc, .slice b.pa b.ps.length b.pc, .slice b.qa b.qs.length b.qc, .int .i64 b.cs, .int .i64 b.nx]) := ((Bx.new w [.slice b.va b.vs.length b.vc, .slice b.pa b.ps.length b.pc, .slice b.qa b.qs.length b.qc, .int .i64 b.cs, .int .i64 b.nx] 42).alloc _).alloc _
 have BN : Hid (Bx (((w.alloc (.cells #[.slice b.va b.vs.length b.vc, .slice b.pa b.ps.length b.pc, .slice b.qa b.qs.length b.qc, .int .i64 b.cs, .int .i64 b.nx] 42)).alloc (.cells #[.string nm, .bool true] 99)).alloc (.cells #[.slice none 0 0, .slice none 0 0, .slice none 0 0, .int .i64 0, .int .i64 0] 42)) (w.heap.size + 1) [.string nm, .bool true]) := by
  have h := Bx.new (w.alloc (.cells #[.slice b.va b.vs.length b.vc, .slice b.pa b.ps.length b.pc, .slice b.qa b.qs.length b.qc, .int .i64 b.cs, .int .i64 b.nx] 42)) [.string nm, .bool true] 99
  rw [World.size_alloc] at h
  exact h.alloc _
 have BR : Hid (Bx (((w.alloc (.cells #[.slice b.va b.vs.length b.vc, .slice b.pa b.ps.length b.pc, .slice b.qa b.qs.length b.qc, .int .i64 b.cs, .int .i64 b.nx] 42)).alloc (.cells #[.string nm, .bool true] 99)).alloc (.cells #[.slice none 0 0, .slice none 0 0, .slice none 0 0, .int .i64 0, .int .i64 0] 42)) (w.heap.size + 1 + 1) [.slice none 0 0, .slice none 0 0, .slice none 0 0, .int .i64 0, .int .i64 0]) := by
  have h := Bx.new ((w.alloc (.cells #[.slice b.va b.vs.length b.vc, .slice b.pa b.ps.length b.pc, .slice b.qa b.qs.length b.qc, .int .i64 b.cs, .int .i64 b.nx] 42)).alloc (.cells #[.string nm, .bool true] 99)) [.slice none 0 0, .slice none 0 0, .slice none 0 0, .int .i64 0, .int .i64 0] 42
  rw [World.size_alloc, World.size_alloc] at h
  exact h
 have HB : Hid (Below w.heap.size w (((w.alloc (.cells #[.slice b.va b.vs.length b.vc, .slice b.pa b.ps.length b.pc, .slice b.qa b.qs.length b.qc, .int .i64 b.cs, .int .i64 b.nx] 42)).alloc (.cells #[.string nm, .bool true] 99)).alloc (.cells #[.slice none 0 0, .slice none 0 0, .slice none 0 0, .int .i64 0, .int .i64 0] 42))) := (((belowRefl w).alloc (Nat.le_refl _) _).alloc (by simp) _).alloc (by simp; omega) _
 have HF : Hid (BFit b) := hf
 have HP : Hid (BRows w b) := hp
 have HAT := hide hat
 have hql := hf.ql
 clear hf hp hat
 go_enter Tryz.func38, Tryz.ntmps38
 go_upto_region 1 with fail
 generalize (((w.alloc (.cells #[.slice b.va b.vs.length b.vc, .slice b.pa b.ps.length b.pc, .slice b.qa b.qs.length b.qc, .int .i64 b.cs, .int .i64 b.nx] 42)).alloc (.cells #[.string nm, .bool true] 99)).alloc (.cells #[.slice none 0 0, .slice none 0 0, .slice none 0 0, .int .i64 0, .int .i64 0] 42)) = w0 at *
 have a0 := BA.out.c0
 have a1 := BA.out.c1
 have a2 := BA.out.c2
 have a3 := BA.out.c3
 have a4 := BA.out.c4
 have c0 := BN.out.c0
 go_wp2_with fail
 refine (ireadyat b nm (by omega) _ (HP.out.below HB.out)).mono ?_
 rintro e w1 ⟨rfl, hb1⟩
 rw [HAT.out]
 replace BA : Hid (Bx w1 w.heap.size [.slice b.va b.vs.length b.vc, .slice b.pa b.ps.length b.pc, .slice b.qa b.qs.length b.qc, .int .i64 b.cs, .int .i64 b.nx]) := BA.out.below hb1
 replace BN : Hid (Bx w1 (w.heap.size + 1) [.string nm, .bool true]) := BN.out.below hb1
 replace BR : Hid (Bx w1 (w.heap.size + 1 + 1) [.slice none 0 0, .slice none 0 0, .slice none 0 0, .int .i64 0, .int .i64 0]) := BR.out.below hb1
 replace HB : Hid (Below w.heap.size w w1) := HB.out.trans (hb1.mono HB.out.size)
 clear hb1 c0 a0 a1 a2 a3 a4
 have hi2 : (i : Int) < (b.qs.length : Int) := by omega
 have hi0 : (0 : Int) ≤ (i : Int) := by omega
 have hi3 : ¬ (i : Int) < 0 := by omega
 have c1 := BN.out.c1
 go_upto_region 5 with fail
 clear c1
 obtain ⟨bl, ol, hqa, hbl0, hcl, hrw⟩ := HP.out.q.cls i hi
 have HRW := hide hrw
 have HFX : Hid (TFit b.qs[i].t) := HF.out.q.2 _ (List.mem_map.2 ⟨_, List.getElem_mem hi, rfl⟩)
 obtain ⟨x, hx⟩ : ∃ x, x = b.qs[i] := ⟨_, rfl⟩
 rw [← hx] at HRW HFX hcl
 have HC : Hid (Cls w bl (ol + i * 8) x) := hcl
 have HQA : Hid (b.qa = some ⟨bl, ol, none⟩) := hqa
 clear hcl hrw hx hqa
 have HS : Hid (∀ W, Below w.heap.size w W → Bx W w.heap.size [.slice b.va b.vs.length b.vc, .slice b.pa b.ps.length b.pc, .slice b.qa b.qs.length b.qc, .int .i64 b.cs, .int .i64 b.nx] → W.cell? ⟨w.heap.size, 0, none⟩ = some (.slice b.va b.vs.length b.vc) ∧ W.cell? ⟨w.heap.size, 1, none⟩ = some (.slice b.pa b.ps.length b.pc) ∧ W.cell? ⟨w.heap.size, 2, none⟩ = some (.slice (some ⟨bl, ol, none⟩) b.qs.length b.qc) ∧ W.cell? ⟨w.heap.size, 3, none⟩ = some (.int .i64 b.cs) ∧ W.cell? ⟨w.heap.size, 4, none⟩ = some (.int .i64 b.nx) ∧ W.cell? ⟨bl, ol + i * 8, none⟩ = some (.int .i64 x.t.id) ∧ W.cell? ⟨bl, ol + i * 8 + 1, none⟩ = some (.int .i64 x.t.st) ∧ W.cell? ⟨bl, ol + i * 8 + 2, none⟩ = some (.int .i64 x.t.snap) ∧ W.cell? ⟨bl, ol + i * 8 + 3, none⟩ = some (.int .i64 x.t.cs) ∧ W.cell? ⟨bl, ol + i * 8 + 4, none⟩ = some (.slice x.ra x.t.rs.length x.rc) ∧ W.cell? ⟨bl, ol + i * 8 + 5, none⟩ = some (.slice x.wa x.t.ws.length x.wc) ∧ W.cell? ⟨bl, ol + i * 8 + 6, none⟩ = some (.bool x.t.out) ∧ W.cell? ⟨bl, ol + i * 8 + 7, none⟩ = some (.string x.t.nm)) := fun W h hb => by
  rw [HQA.out] at hb
  have hc := HC.out.low h hbl0
  exact ⟨hb.c0, hb.c1, hb.c2, hb.c3, hb.c4, hc.c0, hc.c1, hc.c2, hc.c3, hc.c4, hc.c5, hc.c6, hc.c7⟩
 have CTH : Hid (Calls Tryz.prog 66 #[.agg #[.slice b.va b.vs.length b.vc, .slice b.pa b.ps.length b.pc, .slice (some ⟨bl, ol, none⟩) b.qs.length b.qc, .int .i64 b.cs, .int .i64 b.nx], .agg #[.int .i64 x.t.id, .int .i64 x.t.st, .int .i64 x.t.snap, .int .i64 x.t.cs, .slice x.ra x.t.rs.length x.rc, .slice x.wa x.t.ws.length x.wc, .bool x.t.out, .string x.t.nm]] w1.drew fun e w' => ∃ d : Bb, e = .returned (.agg #[.slice d.va d.vs.length d.vc, .slice d.pa d.ps.length d.pc, .slice d.qa d.qs.length d.qc, .int .i64 d.cs, .int .i64 d.nx]) ∧ ThrA b x.t d ∧ Bo w' w1.drew.heap.size w'.heap.size d ∧ Below w1.drew.heap.size w1.drew w') := by
  have h := ithroughA b x.t x.ra x.wa x.rc x.wc HF.out HFX.out w1.drew (HP.out.below HB.out.drew) (HRW.out.below HB.out.drew)
  rw [HQA.out] at h
  exact h
 go_wp2
 refine wp_region_held_drew (S := fun w' => w'.cell? ⟨w.heap.size, 0, none⟩ = some (.slice b.va b.vs.length b.vc) ∧ w'.cell? ⟨w.heap.size, 1, none⟩ = some (.slice b.pa b.ps.length b.pc) ∧ w'.cell? ⟨w.heap.size, 2, none⟩ = some (.slice (some ⟨bl, ol, none⟩) b.qs.length b.qc) ∧ w'.cell? ⟨w.heap.size, 3, none⟩ = some (.int .i64 b.cs) ∧ w'.cell? ⟨w.heap.size, 4, none⟩ = some (.int .i64 b.nx) ∧ w'.cell? ⟨bl, ol + i * 8, none⟩ = some (.int .i64 x.t.id) ∧ w'.cell? ⟨bl, ol + i * 8 + 1, none⟩ = some (.int .i64 x.t.st) ∧ w'.cell? ⟨bl, ol + i * 8 + 2, none⟩ = some (.int .i64 x.t.snap) ∧ w'.cell? ⟨bl, ol + i * 8 + 3, none⟩ = some (.int .i64 x.t.cs) ∧ w'.cell? ⟨bl, ol + i * 8 + 4, none⟩ = some (.slice x.ra x.t.rs.length x.rc) ∧ w'.cell? ⟨bl, ol + i * 8 + 5, none⟩ = some (.slice x.wa x.t.ws.length x.wc) ∧ w'.cell? ⟨bl, ol + i * 8 + 6, none⟩ = some (.bool x.t.out) ∧ w'.cell? ⟨bl, ol + i * 8 + 7, none⟩ = some (.string x.t.nm)) (by kernel_rfl) (HS.out _ HB.out.drew BA.out.drew) (fun hHeld => ?_)
 (refine ti 0 ?_; simp only [Act.put, tA, tB, tD, tE, tF])
 (refine ti 1 ?_; simp only [Act.put, tA, tB, tC, tD, tE, tF])
 (refine ti 2 ?_; simp only [Act.put, tA, tB, tC, tD, tE, tF])
 (refine ti 3 ?_; simp only [Act.put, tA, tB, tC, tD, tE, tF])
 (refine ti 4 ?_; simp only [Act.put, tA, tB, tC, tD, tE, tF])
 (refine ti 5 ?_; simp only [Act.put, tA, tB, tC, tD, tE, tF])
 refine wpAnyH_ready (rs := [6]) (by kernel_rfl) (by simp) ?_
 refine AllReadyH.cons rfl (fun K hK => ?_) AllReadyH.nil
 go_simp
 go_wp2_with fail
 refine (CTH.out).mono ?_
 rintro e w2 ⟨d, rfl, hth, hd, hb2⟩
 have hbu := undrew hb2
 have hz2 : w.heap.size + 1 + 1 < w1.drew.heap.size := BR.out.lt
 have HTH := hide hth
 have HD := hide hd
 replace BA : Hid (Bx w2 w.heap.size [.slice b.va b.vs.length b.vc, .slice b.pa b.ps.length b.pc, .slice b.qa b.qs.length b.qc, .int .i64 b.cs, .int .i64 b.nx]) := BA.out.below hbu
 replace BR : Hid (Bx w2 (w.heap.size + 1 + 1) [.slice none 0 0, .slice none 0 0, .slice none 0 0, .int .i64 0, .int .i64 0]) := BR.out.below hbu
 replace HB : Hid (Below w.heap.size w w2) := HB.out.trans (hbu.mono HB.out.size)
 go_wp2_with fail
 refine hK.out _ _ (HS.out _ HB.out BA.out) (fun hHeld2 => ?_)
 clear hK K hb2 hbu hth hd
 have z0 := BR.out.c0
 have zf0 := BR.out.fz 0
 have z1 := BR.out.c1
 have zf1 := BR.out.fz 1
 have z2 := BR.out.c2
 have zf2 := BR.out.fz 2
 have z3 := BR.out.c3
 have zf3 := BR.out.fz 3
 have z4 := BR.out.c4
 have zf4 := BR.out.fz 4
 refine wpAnyH_ready (rs := [7]) (by kernel_rfl) (by simp) ?_
 refine AllReadyH.cons rfl (fun K hK => ?_) AllReadyH.nil
 go_simp
 have hk : Kn [w.heap.size + 1 + 1] w2 (((((w2.setCell ⟨w.heap.size + 1 + 1, 0, none⟩ (.slice d.va d.vs.length d.vc)).setCell ⟨w.heap.size + 1 + 1, 1, none⟩ (.slice d.pa d.ps.length d.pc)).setCell ⟨w.heap.size + 1 + 1, 2, none⟩ (.slice d.qa d.qs.length d.qc)).setCell ⟨w.heap.size + 1 + 1, 3, none⟩ (.int .i64 d.cs)).setCell ⟨w.heap.size + 1 + 1, 4, none⟩ (.int .i64 d.nx)) := kn_s5 _ _ _ _ _ _ _
 have BAf : Hid (Bx (((((w2.setCell ⟨w.heap.size + 1 + 1, 0, none⟩ (.slice d.va d.vs.length d.vc)).setCell ⟨w.heap.size + 1 + 1, 1, none⟩ (.slice d.pa d.ps.length d.pc)).setCell ⟨w.heap.size + 1 + 1, 2, none⟩ (.slice d.qa d.qs.length d.qc)).setCell ⟨w.heap.size + 1 + 1, 3, none⟩ (.int .i64 d.cs)).setCell ⟨w.heap.size + 1 + 1, 4, none⟩ (.int .i64 d.nx)) w.heap.size [.slice b.va b.vs.length b.vc, .slice b.pa b.ps.length b.pc, .slice b.qa b.qs.length b.qc, .int .i64 b.cs, .int .i64 b.nx]) := BA.out.kn hk (by intro hm; simp only [List.mem_cons, List.not_mem_nil, or_false] at hm; omega)
 have HBf : Hid (Below w.heap.size w (((((w2.setCell ⟨w.heap.size + 1 + 1, 0, none⟩ (.slice d.va d.vs.length d.vc)).setCell ⟨w.heap.size + 1 + 1, 1, none⟩ (.slice d.pa d.ps.length d.pc)).setCell ⟨w.heap.size + 1 + 1, 2, none⟩ (.slice d.qa d.qs.length d.qc)).setCell ⟨w.heap.size + 1 + 1, 3, none⟩ (.int .i64 d.cs)).setCell ⟨w.heap.size + 1 + 1, 4, none⟩ (.int .i64 d.nx))) := HB.out.trans (hk.below HB.out.size (by intro x hx; simp only [List.mem_cons, List.not_mem_nil, or_false] at hx; omega))
 refine hK.out _ _ (HS.out _ HBf.out BAf.out) (fun hHeldz => ?_)
 clear hK K
 (refine ti 8 ?_; simp only [Act.put, tA, tB, tC, tD, tE, tF])
 refine wpAnyH_done (by kernel_rfl) ?_ _
 have HDf : Hid (Bo (((((w2.setCell ⟨w.heap.size + 1 + 1, 0, none⟩ (.slice d.va d.vs.length d.vc)).setCell ⟨w.heap.size + 1 + 1, 1, none⟩ (.slice d.pa d.ps.length d.pc)).setCell ⟨w.heap.size + 1 + 1, 2, none⟩ (.slice d.qa d.qs.length d.qc)).setCell ⟨w.heap.size + 1 + 1, 3, none⟩ (.int .i64 d.cs)).setCell ⟨w.heap.size + 1 + 1, 4, none⟩ (.int .i64 d.nx)) w.heap.size (((((w2.setCell ⟨w.heap.size + 1 + 1, 0, none⟩ (.slice d.va d.vs.length d.vc)).setCell ⟨w.heap.size + 1 + 1, 1, none⟩ (.slice d.pa d.ps.length d.pc)).setCell ⟨w.heap.size + 1 + 1, 2, none⟩ (.slice d.qa d.qs.length d.qc)).setCell ⟨w.heap.size + 1 + 1, 3, none⟩ (.int .i64 d.cs)).setCell ⟨w.heap.size + 1 + 1, 4, none⟩ (.int .i64 d.nx)).heap.size d) := (HD.out.kn hk (by intro x hx; simp only [List.mem_cons, List.not_mem_nil, or_false] at hx; omega)).mono (by omega) hk.size
 clear hk HB
 go_wp2
 refine bodyPost_ret (v := .tuple #[.agg #[.slice d.va d.vs.length d.vc, .slice d.pa d.ps.length d.pc, .slice d.qa d.qs.length d.qc, .int .i64 d.cs, .int .i64 d.nx], .bool true]) (by simp [results, Tryz.results38, go_sem, z0, z1, z2, z3, z4]) rfl ⟨x.t, d, rfl, HFX.out, HTH.out, HDf.out, HBf.out⟩

end Go.Proofs.YtmijppfppigjcaaGreat

namespace Go.Proofs.YtmijppfppigjcaaGreat
open Go.RowKit
open KM
attribute [local go_sem ↓] Go.wp_at_zero Go.wp_at_succ

structure En where
 b : Bb
 os : List Ta
 oa : Option Addr
 oc : Nat
structure EnRows (w : World) (e : En) : Prop where
 b : BRows w e.b
 o : TRows w e.oa e.os
theorem EnRows.below {w w' : World} {e : En} (h : EnRows w e) (hb : Below w.heap.size w w') : EnRows w' e := ⟨h.b.below hb, h.o.below hb⟩
structure EnArg (w : World) (e : En) : Prop where
 b : BArg w e.b
 o : LArg w e.oa e.os
theorem EnArg.below {w w' : World} {e : En} (h : EnArg w e) (hb : Below w.heap.size w w') : EnArg w' e := ⟨h.b.below hb, h.o.below hb⟩
theorem EnArg.rows {w : World} {e : En} (h : EnArg w e) : EnRows w e := ⟨h.b.rows, h.o.rows⟩
structure EnFit (e : En) : Prop where
 b : BFit e.b
 o : LFit (txs e.os)
theorem EnFit.ol {e : En} (h : EnFit e) : e.os.length ≤ 1048576 := by have := h.o.1; rwa [txs_len] at this
structure EnSame (e c : En) : Prop where
 b : BSame e.b c.b
 o : txs c.os = txs e.os
theorem EnSame.ol {e c : En} (h : EnSame e c) : c.os.length = e.os.length := by rw [← txs_len, h.o, txs_len]
theorem EnSame.fit {e c : En} (h : EnSame e c) (hf : EnFit e) : EnFit c := ⟨h.b.fit hf.b, by rw [h.o]; exact hf.o⟩
theorem EnSame.trans {e c d : En} (h : EnSame e c) (k : EnSame c d) : EnSame e d := ⟨h.b.trans k.b, k.o.trans h.o⟩
theorem EnSame.symm {e c : En} (h : EnSame e c) : EnSame c e := ⟨h.b.symm, h.o.symm⟩
structure EnLie (w : World) (lo hi : Nat) (c : En) : Prop where
 ex : ∃ m, lo ≤ m ∧ m ≤ hi ∧ BLie w lo m c.b ∧ LLie w m hi (.slice c.oa c.os.length c.oc) c.os
theorem EnLie.rows {w : World} {lo hi : Nat} {c : En} (h : EnLie w lo hi c) : EnRows w c := by
 obtain ⟨m, _, _, h1, h2⟩ := h.ex
 exact ⟨h1.rows, h2.rows⟩
theorem EnLie.below {w w' : World} {lo hi : Nat} {c : En} (h : EnLie w lo hi c) (hb : Below w.heap.size w w') : EnLie w' lo hi c := by
 obtain ⟨m, a, b, h1, h2⟩ := h.ex
 exact ⟨m, a, b, h1.below hb, h2.below hb⟩
theorem EnLie.set {w : World} {lo hi : Nat} {c : En} (h : EnLie w lo hi c) {a : Addr} (ha : a.block < lo) (u : Value) : EnLie (w.setCell a u) lo hi c := by
 obtain ⟨m, k1, k2, h1, h2⟩ := h.ex
 exact ⟨m, k1, k2, h1.set ha u, h2.set (by omega) u⟩
theorem EnLie.mono {w : World} {lo hi lo' hi' : Nat} {c : En} (h : EnLie w lo hi c) (k : lo' ≤ lo) (k' : hi ≤ hi') : EnLie w lo' hi' c := by
 obtain ⟨m, k1, k2, h1, h2⟩ := h.ex
 exact ⟨m, by omega, by omega, h1.mono k (Nat.le_refl _), h2.mono (Nat.le_refl _) k'⟩
theorem EnLie.zn {w w' : World} {lo hi l h : Nat} {c : En} (k : EnLie w lo hi c) (hz : Zn l h w w') (hne : hi ≤ l ∨ h ≤ lo) : EnLie w' lo hi c := by
 obtain ⟨m, k1, k2, h1, h2⟩ := k.ex
 exact ⟨m, k1, k2, h1.zn hz (by omega), h2.zn hz (by omega)⟩

set_option maxRecDepth 100000 in
set_option maxHeartbeats 2000000 in
theorem szE (e : En) (L : Int) (h0 : 0 ≤ L) (h1 : L ≤ 1048576) (w : World) (hp : EnArg w e) :
  Calls Tryz.prog 23 #[.agg #[.slice e.b.va e.b.vs.length e.b.vc, .slice e.b.pa e.b.ps.length e.b.pc, .slice e.b.qa e.b.qs.length e.b.qc, .int .i64 e.b.cs, .int .i64 e.b.nx, .slice e.oa e.os.length e.oc], .int .i64 L] w fun ex w' => Below w.heap.size w w' ∧ ∃ q : Int, ex = .returned (.int .i64 q) ∧ q ≤ 1048576 ∧ (0 ≤ q → EnFit e) := by
 have HP : Hid (EnArg w e) := hp
 clear hp
 have BX0 : Hid (Bx (w.alloc (.cells #[.slice e.b.va e.b.vs.length e.b.vc, .slice e.b.pa e.b.ps.length e.b.pc, .slice e.b.qa e.b.qs.length e.b.qc, .int .i64 e.b.cs, .int .i64 e.b.nx, .slice e.oa e.os.length e.oc] 27)) w.heap.size [.slice e.b.va e.b.vs.length e.b.vc, .slice e.b.pa e.b.ps.length e.b.pc, .slice e.b.qa e.b.qs.length e.b.qc, .int .i64 e.b.cs, .int .i64 e.b.nx, .slice e.oa e.os.length e.oc]) := Bx.new w [.slice e.b.va e.b.vs.length e.b.vc, .slice e.b.pa e.b.ps.length e.b.pc, .slice e.b.qa e.b.qs.length e.b.qc, .int .i64 e.b.cs, .int .i64 e.b.nx, .slice e.oa e.os.length e.oc] 27
 have HB0 : Hid (Below w.heap.size w (w.alloc (.cells #[.slice e.b.va e.b.vs.length e.b.vc, .slice e.b.pa e.b.ps.length e.b.pc, .slice e.b.qa e.b.qs.length e.b.qc, .int .i64 e.b.cs, .int .i64 e.b.nx, .slice e.oa e.os.length e.oc] 27))) := (belowRefl w).alloc (Nat.le_refl _) _
 go_enter Tryz.func23, Tryz.ntmps23
 go_wp2_with fail
 refine (szB e.b L h0 h1 _ (HP.out.b.below HB0.out)).mono ?_
 rintro ex w1 ⟨hb1, r0, rfl, hu0, hr0⟩
 have HR0 : Hid (0 ≤ r0 → BFit e.b) := hr0
 have HB1 : Hid (Below w.heap.size w w1) := HB0.out.trans (hb1.mono HB0.out.size)
 have BX1 : Hid (Bx w1 w.heap.size [.slice e.b.va e.b.vs.length e.b.vc, .slice e.b.pa e.b.ps.length e.b.pc, .slice e.b.qa e.b.qs.length e.b.qc, .int .i64 e.b.cs, .int .i64 e.b.nx, .slice e.oa e.os.length e.oc]) := BX0.out.below hb1
 clear hb1 hr0 BX0
 by_cases hn0 : r0 < 0
 ·go_wp2
  go_ret
  exact ⟨HB1.out, -1, rfl, by omega, fun h => by omega⟩
 have x5 := BX1.out.c5
 go_wp2_with fail
 refine (szL e.os e.oa e.oc r0 (by omega) hu0 _ (HP.out.o.below HB1.out)).mono ?_
 rintro ex w2 ⟨hb2, r1, rfl, hu1, hr1⟩
 have HR1 : Hid (0 ≤ r1 → LFit (txs e.os)) := hr1
 have HB2 : Hid (Below w.heap.size w w2) := HB1.out.trans (hb2.mono HB1.out.size)
 clear hb2 hr1 x5
 by_cases hn3 : r1 < 0
 ·go_wp2
  go_ret
  exact ⟨HB2.out, -1, rfl, by omega, fun h => by omega⟩
 have HT : Hid (EnFit e) := ⟨HR0.out (by omega), HR1.out (by omega)⟩
 go_wp2
 go_ret
 exact ⟨HB2.out, _, rfl, hu1, fun _ => HT.out⟩

set_option maxRecDepth 100000 in
set_option maxHeartbeats 2000000 in
theorem eqE0 (e c : En) (hs : EnSame e c) (hf : EnFit e) (w : World) (hp : EnRows w e) (hq : EnRows w c) :
  Calls Tryz.prog 42 #[.agg #[.slice e.b.va e.b.vs.length e.b.vc, .slice e.b.pa e.b.ps.length e.b.pc, .slice e.b.qa e.b.qs.length e.b.qc, .int .i64 e.b.cs, .int .i64 e.b.nx, .slice e.oa e.os.length e.oc], .agg #[.slice c.b.va e.b.vs.length c.b.vc, .slice c.b.pa e.b.ps.length c.b.pc, .slice c.b.qa e.b.qs.length c.b.qc, .int .i64 e.b.cs, .int .i64 e.b.nx, .slice c.oa e.os.length c.oc]] w fun ex w' => ex = .returned (.bool true) ∧ Below w.heap.size w w' := by
 have HP : Hid (EnRows w e) := hp
 have HQ : Hid (EnRows w c) := hq
 have HS : Hid (EnSame e c) := hs
 have HF : Hid (EnFit e) := hf
 clear hp hq hs hf
 have BA0 : Hid (Bx ((w.alloc (.cells #[.slice e.b.va e.b.vs.length e.b.vc, .slice e.b.pa e.b.ps.length e.b.pc, .slice e.b.qa e.b.qs.length e.b.qc, .int .i64 e.b.cs, .int .i64 e.b.nx, .slice e.oa e.os.length e.oc] 44)).alloc (.cells #[.slice c.b.va e.b.vs.length c.b.vc, .slice c.b.pa e.b.ps.length c.b.pc, .slice c.b.qa e.b.qs.length c.b.qc, .int .i64 e.b.cs, .int .i64 e.b.nx, .slice c.oa e.os.length c.oc] 44)) w.heap.size [.slice e.b.va e.b.vs.length e.b.vc, .slice e.b.pa e.b.ps.length e.b.pc, .slice e.b.qa e.b.qs.length e.b.qc, .int .i64 e.b.cs, .int .i64 e.b.nx, .slice e.oa e.os.length e.oc]) := (Bx.new w [.slice e.b.va e.b.vs.length e.b.vc, .slice e.b.pa e.b.ps.length e.b.pc, .slice e.b.qa e.b.qs.length e.b.qc, .int .i64 e.b.cs, .int .i64 e.b.nx, .slice e.oa e.os.length e.oc] 44).alloc _
 have BB0 : Hid (Bx ((w.alloc (.cells #[.slice e.b.va e.b.vs.length e.b.vc, .slice e.b.pa e.b.ps.length e.b.pc, .slice e.b.qa e.b.qs.length e.b.qc, .int .i64 e.b.cs, .int .i64 e.b.nx, .slice e.oa e.os.length e.oc] 44)).alloc (.cells #[.slice c.b.va e.b.vs.length c.b.vc, .slice c.b.pa e.b.ps.length c.b.pc, .slice c.b.qa e.b.qs.length c.b.qc, .int .i64 e.b.cs, .int .i64 e.b.nx, .slice c.oa e.os.length c.oc] 44)) (w.heap.size + 1) [.slice c.b.va e.b.vs.length c.b.vc, .slice c.b.pa e.b.ps.length c.b.pc, .slice c.b.qa e.b.qs.length c.b.qc, .int .i64 e.b.cs, .int .i64 e.b.nx, .slice c.oa e.os.length c.oc]) := by
  have h := Bx.new (w.alloc (.cells #[.slice e.b.va e.b.vs.length e.b.vc, .slice e.b.pa e.b.ps.length e.b.pc, .slice e.b.qa e.b.qs.length e.b.qc, .int .i64 e.b.cs, .int .i64 e.b.nx, .slice e.oa e.os.length e.oc] 44)) [.slice c.b.va e.b.vs.length c.b.vc, .slice c.b.pa e.b.ps.length c.b.pc, .slice c.b.qa e.b.qs.length c.b.qc, .int .i64 e.b.cs, .int .i64 e.b.nx, .slice c.oa e.os.length c.oc] 44
  rw [World.size_alloc] at h
  exact h
 have HB0 : Hid (Below w.heap.size w ((w.alloc (.cells #[.slice e.b.va e.b.vs.length e.b.vc, .slice e.b.pa e.b.ps.length e.b.pc, .slice e.b.qa e.b.qs.length e.b.qc, .int .i64 e.b.cs, .int .i64 e.b.nx, .slice e.oa e.os.length e.oc] 44)).alloc (.cells #[.slice c.b.va e.b.vs.length c.b.vc, .slice c.b.pa e.b.ps.length c.b.pc, .slice c.b.qa e.b.qs.length c.b.qc, .int .i64 e.b.cs, .int .i64 e.b.nx, .slice c.oa e.os.length c.oc] 44))) := ((belowRefl w).alloc (Nat.le_refl _) _).alloc (by simp) _
 have CB : Hid (∀ W : World, Below w.heap.size w W → Calls Tryz.prog 73 #[.agg #[.slice e.b.va e.b.vs.length e.b.vc, .slice e.b.pa e.b.ps.length e.b.pc, .slice e.b.qa e.b.qs.length e.b.qc, .int .i64 e.b.cs, .int .i64 e.b.nx], .agg #[.slice c.b.va e.b.vs.length c.b.vc, .slice c.b.pa e.b.ps.length c.b.pc, .slice c.b.qa e.b.qs.length c.b.qc, .int .i64 e.b.cs, .int .i64 e.b.nx]] W fun ex w' => ex = .returned (.bool true) ∧ Below W.heap.size W w') := fun W h => eqB0 e.b c.b HS.out.b HF.out.b W (HP.out.b.below h) (HQ.out.b.below h)
 have CO : Hid (∀ W : World, Below w.heap.size w W → Calls Tryz.prog 20 #[.slice e.oa e.os.length e.oc, .slice c.oa e.os.length c.oc] W fun ex w' => ex = .returned (.bool true) ∧ Below W.heap.size W w') := fun W h => eqL e.os c.os e.oa c.oa e.oc c.oc e.os.length rfl HS.out.ol.symm (Nat.le_trans HF.out.ol (by omega)) HS.out.o.symm HF.out.o W (HP.out.o.below h) (HQ.out.o.below h)
 clear HP HQ HS HF
 go_enter Tryz.func42, Tryz.ntmps42
 go_wp2_with fail
 refine (CB.out _ HB0.out).mono ?_
 rintro ex w1 ⟨rfl, hb1⟩
 have BA1 : Hid (Bx w1 w.heap.size [.slice e.b.va e.b.vs.length e.b.vc, .slice e.b.pa e.b.ps.length e.b.pc, .slice e.b.qa e.b.qs.length e.b.qc, .int .i64 e.b.cs, .int .i64 e.b.nx, .slice e.oa e.os.length e.oc]) := BA0.out.below hb1
 have BB1 : Hid (Bx w1 (w.heap.size + 1) [.slice c.b.va e.b.vs.length c.b.vc, .slice c.b.pa e.b.ps.length c.b.pc, .slice c.b.qa e.b.qs.length c.b.qc, .int .i64 e.b.cs, .int .i64 e.b.nx, .slice c.oa e.os.length c.oc]) := BB0.out.below hb1
 have HB1 : Hid (Below w.heap.size w w1) := HB0.out.trans (hb1.mono HB0.out.size)
 clear hb1 BA0 BB0 HB0
 have x5 := BA1.out.c5
 have y5 := BB1.out.c5
 go_wp2_with fail
 refine (CO.out _ HB1.out).mono ?_
 rintro ex w2 ⟨rfl, hb2⟩
 have HB2 : Hid (Below w.heap.size w w2) := HB1.out.trans (hb2.mono HB1.out.size)
 clear hb2
 go_wp2
 go_ret
 exact ⟨rfl, HB2.out⟩

end Go.Proofs.YtmijppfppigjcaaGreat

namespace Go.Proofs.YtmijppfppigjcaaGreat
open Go.RowKit
open KM
attribute [local go_sem ↓] Go.wp_at_zero Go.wp_at_succ

set_option maxRecDepth 100000 in
set_option maxHeartbeats 4000000 in
theorem toE (e : En) (hf : EnFit e) (w : World) (hp : EnRows w e) :
  Calls Tryz.prog 32 #[.agg #[.slice e.b.va e.b.vs.length e.b.vc, .slice e.b.pa e.b.ps.length e.b.pc, .slice e.b.qa e.b.qs.length e.b.qc, .int .i64 e.b.cs, .int .i64 e.b.nx, .slice e.oa e.os.length e.oc]] w fun ex w' => ∃ c : En, ex = .returned (.agg #[.slice c.b.va c.b.vs.length c.b.vc, .slice c.b.pa c.b.ps.length c.b.pc, .slice c.b.qa c.b.qs.length c.b.qc, .int .i64 c.b.cs, .int .i64 c.b.nx, .slice c.oa c.os.length c.oc]) ∧ EnSame e c ∧ EnLie w' w.heap.size w'.heap.size c ∧ Below w.heap.size w w' := by
 have HP : Hid (EnRows w e) := hp
 have HF : Hid (EnFit e) := hf
 clear hp hf
 have BA0 : Hid (Bx (((w.alloc (.cells #[.slice e.b.va e.b.vs.length e.b.vc, .slice e.b.pa e.b.ps.length e.b.pc, .slice e.b.qa e.b.qs.length e.b.qc, .int .i64 e.b.cs, .int .i64 e.b.nx, .slice e.oa e.os.length e.oc] 27)).alloc (.cells #[.slice none 0 0, .slice none 0 0, .slice none 0 0, .int .i64 0, .int .i64 0, .slice none 0 0] 44)).alloc (.cells #[.slice none 0 0, .slice none 0 0, .slice none 0 0, .int .i64 0, .int .i64 0, .slice none 0 0] 44)) w.heap.size [.slice e.b.va e.b.vs.length e.b.vc, .slice e.b.pa e.b.ps.length e.b.pc, .slice e.b.qa e.b.qs.length e.b.qc, .int .i64 e.b.cs, .int .i64 e.b.nx, .slice e.oa e.os.length e.oc]) := ((Bx.new w [.slice e.b.va e.b.vs.length e.b.vc, .slice e.b.pa e.b.ps.length e.b.pc, .slice e.b.qa e.b.qs.length e.b.qc, .int .i64 e.b.cs, .int .i64 e.b.nx, .slice e.oa e.os.length e.oc] 27).alloc _).alloc _
 have BR0 : Hid (Bx (((w.alloc (.cells #[.slice e.b.va e.b.vs.length e.b.vc, .slice e.b.pa e.b.ps.length e.b.pc, .slice e.b.qa e.b.qs.length e.b.qc, .int .i64 e.b.cs, .int .i64 e.b.nx, .slice e.oa e.os.length e.oc] 27)).alloc (.cells #[.slice none 0 0, .slice none 0 0, .slice none 0 0, .int .i64 0, .int .i64 0, .slice none 0 0] 44)).alloc (.cells #[.slice none 0 0, .slice none 0 0, .slice none 0 0, .int .i64 0, .int .i64 0, .slice none 0 0] 44)) (w.heap.size + 1) [.slice none 0 0, .slice none 0 0, .slice none 0 0, .int .i64 0, .int .i64 0, .slice none 0 0]) := by
  have h := (Bx.new (w.alloc (.cells #[.slice e.b.va e.b.vs.length e.b.vc, .slice e.b.pa e.b.ps.length e.b.pc, .slice e.b.qa e.b.qs.length e.b.qc, .int .i64 e.b.cs, .int .i64 e.b.nx, .slice e.oa e.os.length e.oc] 27)) [.slice none 0 0, .slice none 0 0, .slice none 0 0, .int .i64 0, .int .i64 0, .slice none 0 0] 44).alloc (.cells #[.slice none 0 0, .slice none 0 0, .slice none 0 0, .int .i64 0, .int .i64 0, .slice none 0 0] 44)
  rw [World.size_alloc] at h
  exact h
 have BO0 : Hid (Bx (((w.alloc (.cells #[.slice e.b.va e.b.vs.length e.b.vc, .slice e.b.pa e.b.ps.length e.b.pc, .slice e.b.qa e.b.qs.length e.b.qc, .int .i64 e.b.cs, .int .i64 e.b.nx, .slice e.oa e.os.length e.oc] 27)).alloc (.cells #[.slice none 0 0, .slice none 0 0, .slice none 0 0, .int .i64 0, .int .i64 0, .slice none 0 0] 44)).alloc (.cells #[.slice none 0 0, .slice none 0 0, .slice none 0 0, .int .i64 0, .int .i64 0, .slice none 0 0] 44)) (w.heap.size + 1 + 1) [.slice none 0 0, .slice none 0 0, .slice none 0 0, .int .i64 0, .int .i64 0, .slice none 0 0]) := by
  have h := Bx.new ((w.alloc (.cells #[.slice e.b.va e.b.vs.length e.b.vc, .slice e.b.pa e.b.ps.length e.b.pc, .slice e.b.qa e.b.qs.length e.b.qc, .int .i64 e.b.cs, .int .i64 e.b.nx, .slice e.oa e.os.length e.oc] 27)).alloc (.cells #[.slice none 0 0, .slice none 0 0, .slice none 0 0, .int .i64 0, .int .i64 0, .slice none 0 0] 44)) [.slice none 0 0, .slice none 0 0, .slice none 0 0, .int .i64 0, .int .i64 0, .slice none 0 0] 44
  rw [World.size_alloc, World.size_alloc] at h
  exact h
 have HB0 : Hid (Below w.heap.size w (((w.alloc (.cells #[.slice e.b.va e.b.vs.length e.b.vc, .slice e.b.pa e.b.ps.length e.b.pc, .slice e.b.qa e.b.qs.length e.b.qc, .int .i64 e.b.cs, .int .i64 e.b.nx, .slice e.oa e.os.length e.oc] 27)).alloc (.cells #[.slice none 0 0, .slice none 0 0, .slice none 0 0, .int .i64 0, .int .i64 0, .slice none 0 0] 44)).alloc (.cells #[.slice none 0 0, .slice none 0 0, .slice none 0 0, .int .i64 0, .int .i64 0, .slice none 0 0] 44))) := (((belowRefl w).alloc (Nat.le_refl _) _).alloc (by simp) _).alloc (by simp; omega) _
 have S0 : Hid ((((w.alloc (.cells #[.slice e.b.va e.b.vs.length e.b.vc, .slice e.b.pa e.b.ps.length e.b.pc, .slice e.b.qa e.b.qs.length e.b.qc, .int .i64 e.b.cs, .int .i64 e.b.nx, .slice e.oa e.os.length e.oc] 27)).alloc (.cells #[.slice none 0 0, .slice none 0 0, .slice none 0 0, .int .i64 0, .int .i64 0, .slice none 0 0] 44)).alloc (.cells #[.slice none 0 0, .slice none 0 0, .slice none 0 0, .int .i64 0, .int .i64 0, .slice none 0 0] 44)).heap.size = w.heap.size + 1 + 1 + 1) := by show _ = _; simp
 have HSZ : Hid (w.heap.size + 1 + 1 + 1 ≤ (((w.alloc (.cells #[.slice e.b.va e.b.vs.length e.b.vc, .slice e.b.pa e.b.ps.length e.b.pc, .slice e.b.qa e.b.qs.length e.b.qc, .int .i64 e.b.cs, .int .i64 e.b.nx, .slice e.oa e.os.length e.oc] 27)).alloc (.cells #[.slice none 0 0, .slice none 0 0, .slice none 0 0, .int .i64 0, .int .i64 0, .slice none 0 0] 44)).alloc (.cells #[.slice none 0 0, .slice none 0 0, .slice none 0 0, .int .i64 0, .int .i64 0, .slice none 0 0] 44)).heap.size) := by show _ ≤ _; rw [S0.out]; exact Nat.le_refl _
 have CB : Hid (∀ W : World, Below w.heap.size w W → Calls Tryz.prog 57 #[.agg #[.slice e.b.va e.b.vs.length e.b.vc, .slice e.b.pa e.b.ps.length e.b.pc, .slice e.b.qa e.b.qs.length e.b.qc, .int .i64 e.b.cs, .int .i64 e.b.nx]] W fun ex w' => ∃ c : Bb, ex = .returned (.agg #[.slice c.va c.vs.length c.vc, .slice c.pa c.ps.length c.pc, .slice c.qa c.qs.length c.qc, .int .i64 c.cs, .int .i64 c.nx]) ∧ BSame e.b c ∧ BLie w' W.heap.size w'.heap.size c ∧ Below W.heap.size W w') := fun W h => toB e.b HF.out.b W (HP.out.b.below h)
 have CO : Hid (∀ W : World, Below w.heap.size w W → Calls Tryz.prog 15 #[.slice e.oa e.os.length e.oc] W fun ex w' => ∃ (ys : List Ta) (a1 : Option Addr) (c1 : Nat), ex = .returned (.slice a1 e.os.length c1) ∧ txs ys = txs e.os ∧ ys.length = e.os.length ∧ LLie w' W.heap.size w'.heap.size (.slice a1 ys.length c1) ys ∧ Below W.heap.size W w') := fun W h => toL2 e.os e.oa e.oc (Nat.le_trans HF.out.ol (by omega)) HF.out.o W (HP.out.o.below h)
 clear HP HF S0
 go_enter Tryz.func32, Tryz.ntmps32
 go_upto_region 2 with fail
 generalize (((w.alloc (.cells #[.slice e.b.va e.b.vs.length e.b.vc, .slice e.b.pa e.b.ps.length e.b.pc, .slice e.b.qa e.b.qs.length e.b.qc, .int .i64 e.b.cs, .int .i64 e.b.nx, .slice e.oa e.os.length e.oc] 27)).alloc (.cells #[.slice none 0 0, .slice none 0 0, .slice none 0 0, .int .i64 0, .int .i64 0, .slice none 0 0] 44)).alloc (.cells #[.slice none 0 0, .slice none 0 0, .slice none 0 0, .int .i64 0, .int .i64 0, .slice none 0 0] 44)) = w0 at *
 have x0 := BA0.out.c0
 have fx0 := BA0.out.fz 0
 have x1 := BA0.out.c1
 have fx1 := BA0.out.fz 1
 have x2 := BA0.out.c2
 have fx2 := BA0.out.fz 2
 have x3 := BA0.out.c3
 have fx3 := BA0.out.fz 3
 have x4 := BA0.out.c4
 have fx4 := BA0.out.fz 4
 go_wp2_with fail
 refine (CB.out _ HB0.out).mono ?_
 rintro ex w1 ⟨c, rfl, hsm, ho, hb⟩
 have BA1 : Hid (Bx w1 w.heap.size [.slice e.b.va e.b.vs.length e.b.vc, .slice e.b.pa e.b.ps.length e.b.pc, .slice e.b.qa e.b.qs.length e.b.qc, .int .i64 e.b.cs, .int .i64 e.b.nx, .slice e.oa e.os.length e.oc]) := BA0.out.below hb
 have BR1 : Hid (Bx w1 (w.heap.size + 1) [.slice none 0 0, .slice none 0 0, .slice none 0 0, .int .i64 0, .int .i64 0, .slice none 0 0]) := BR0.out.below hb
 have BO1 : Hid (Bx w1 (w.heap.size + 1 + 1) [.slice none 0 0, .slice none 0 0, .slice none 0 0, .int .i64 0, .int .i64 0, .slice none 0 0]) := BO0.out.below hb
 have HB1 : Hid (Below w.heap.size w w1) := HB0.out.trans (hb.mono HB0.out.size)
 have Y1 : Hid (w0.heap.size ≤ w1.heap.size) := hb.size
 have R1 : Hid (BLie w1 w0.heap.size w1.heap.size c) := ho
 have SM := hide hsm
 clear ho hb hsm BA0 BR0 BO0 HB0
 clear x0 fx0 x1 fx1 x2 fx2 x3 fx3 x4 fx4
 have o0 := BO1.out.c0
 have fo0 := BO1.out.fz 0
 have o1 := BO1.out.c1
 have fo1 := BO1.out.fz 1
 have o2 := BO1.out.c2
 have fo2 := BO1.out.fz 2
 have o3 := BO1.out.c3
 have fo3 := BO1.out.fz 3
 have o4 := BO1.out.c4
 have fo4 := BO1.out.fz 4
 go_upto_region 3 with fail
 clear o0 fo0 o1 fo1 o2 fo2 o3 fo3 o4 fo4
 replace BA1 : Hid (Bx (((((w1.setCell ⟨w.heap.size + 1 + 1, 0, none⟩ (.slice c.va c.vs.length c.vc)).setCell ⟨w.heap.size + 1 + 1, 1, none⟩ (.slice c.pa c.ps.length c.pc)).setCell ⟨w.heap.size + 1 + 1, 2, none⟩ (.slice c.qa c.qs.length c.qc)).setCell ⟨w.heap.size + 1 + 1, 3, none⟩ (.int .i64 c.cs)).setCell ⟨w.heap.size + 1 + 1, 4, none⟩ (.int .i64 c.nx)) w.heap.size [.slice e.b.va e.b.vs.length e.b.vc, .slice e.b.pa e.b.ps.length e.b.pc, .slice e.b.qa e.b.qs.length e.b.qc, .int .i64 e.b.cs, .int .i64 e.b.nx, .slice e.oa e.os.length e.oc]) := ((((BA1.out.setO (p := ⟨w.heap.size + 1 + 1, 0, none⟩) (by show w.heap.size + 1 + 1 ≠ w.heap.size; omega) _).setO (p := ⟨w.heap.size + 1 + 1, 1, none⟩) (by show w.heap.size + 1 + 1 ≠ w.heap.size; omega) _).setO (p := ⟨w.heap.size + 1 + 1, 2, none⟩) (by show w.heap.size + 1 + 1 ≠ w.heap.size; omega) _).setO (p := ⟨w.heap.size + 1 + 1, 3, none⟩) (by show w.heap.size + 1 + 1 ≠ w.heap.size; omega) _).setO (p := ⟨w.heap.size + 1 + 1, 4, none⟩) (by show w.heap.size + 1 + 1 ≠ w.heap.size; omega) _
 replace BR1 : Hid (Bx (((((w1.setCell ⟨w.heap.size + 1 + 1, 0, none⟩ (.slice c.va c.vs.length c.vc)).setCell ⟨w.heap.size + 1 + 1, 1, none⟩ (.slice c.pa c.ps.length c.pc)).setCell ⟨w.heap.size + 1 + 1, 2, none⟩ (.slice c.qa c.qs.length c.qc)).setCell ⟨w.heap.size + 1 + 1, 3, none⟩ (.int .i64 c.cs)).setCell ⟨w.heap.size + 1 + 1, 4, none⟩ (.int .i64 c.nx)) (w.heap.size + 1) [.slice none 0 0, .slice none 0 0, .slice none 0 0, .int .i64 0, .int .i64 0, .slice none 0 0]) := ((((BR1.out.setO (p := ⟨w.heap.size + 1 + 1, 0, none⟩) (by show w.heap.size + 1 + 1 ≠ w.heap.size + 1; omega) _).setO (p := ⟨w.heap.size + 1 + 1, 1, none⟩) (by show w.heap.size + 1 + 1 ≠ w.heap.size + 1; omega) _).setO (p := ⟨w.heap.size + 1 + 1, 2, none⟩) (by show w.heap.size + 1 + 1 ≠ w.heap.size + 1; omega) _).setO (p := ⟨w.heap.size + 1 + 1, 3, none⟩) (by show w.heap.size + 1 + 1 ≠ w.heap.size + 1; omega) _).setO (p := ⟨w.heap.size + 1 + 1, 4, none⟩) (by show w.heap.size + 1 + 1 ≠ w.heap.size + 1; omega) _
 replace BO1 : Hid (Bx (((((w1.setCell ⟨w.heap.size + 1 + 1, 0, none⟩ (.slice c.va c.vs.length c.vc)).setCell ⟨w.heap.size + 1 + 1, 1, none⟩ (.slice c.pa c.ps.length c.pc)).setCell ⟨w.heap.size + 1 + 1, 2, none⟩ (.slice c.qa c.qs.length c.qc)).setCell ⟨w.heap.size + 1 + 1, 3, none⟩ (.int .i64 c.cs)).setCell ⟨w.heap.size + 1 + 1, 4, none⟩ (.int .i64 c.nx)) (w.heap.size + 1 + 1) [.slice c.va c.vs.length c.vc, .slice c.pa c.ps.length c.pc, .slice c.qa c.qs.length c.qc, .int .i64 c.cs, .int .i64 c.nx, .slice none 0 0]) := ((((BO1.out.set 0 _).set 1 _).set 2 _).set 3 _).set 4 _
 replace HB1 : Hid (Below w.heap.size w (((((w1.setCell ⟨w.heap.size + 1 + 1, 0, none⟩ (.slice c.va c.vs.length c.vc)).setCell ⟨w.heap.size + 1 + 1, 1, none⟩ (.slice c.pa c.ps.length c.pc)).setCell ⟨w.heap.size + 1 + 1, 2, none⟩ (.slice c.qa c.qs.length c.qc)).setCell ⟨w.heap.size + 1 + 1, 3, none⟩ (.int .i64 c.cs)).setCell ⟨w.heap.size + 1 + 1, 4, none⟩ (.int .i64 c.nx))) := ((((HB1.out.setCell (p := ⟨w.heap.size + 1 + 1, 0, none⟩) (by show _ ≤ _ + 1 + 1; omega) _).setCell (p := ⟨w.heap.size + 1 + 1, 1, none⟩) (by show _ ≤ _ + 1 + 1; omega) _).setCell (p := ⟨w.heap.size + 1 + 1, 2, none⟩) (by show _ ≤ _ + 1 + 1; omega) _).setCell (p := ⟨w.heap.size + 1 + 1, 3, none⟩) (by show _ ≤ _ + 1 + 1; omega) _).setCell (p := ⟨w.heap.size + 1 + 1, 4, none⟩) (by show _ ≤ _ + 1 + 1; omega) _
 replace R1 : Hid (BLie (((((w1.setCell ⟨w.heap.size + 1 + 1, 0, none⟩ (.slice c.va c.vs.length c.vc)).setCell ⟨w.heap.size + 1 + 1, 1, none⟩ (.slice c.pa c.ps.length c.pc)).setCell ⟨w.heap.size + 1 + 1, 2, none⟩ (.slice c.qa c.qs.length c.qc)).setCell ⟨w.heap.size + 1 + 1, 3, none⟩ (.int .i64 c.cs)).setCell ⟨w.heap.size + 1 + 1, 4, none⟩ (.int .i64 c.nx)) w0.heap.size w1.heap.size c) := ((((R1.out.set (a := ⟨w.heap.size + 1 + 1, 0, none⟩) (by have := HSZ.out; show w.heap.size + 1 + 1 < _; omega) _).set (a := ⟨w.heap.size + 1 + 1, 1, none⟩) (by have := HSZ.out; show w.heap.size + 1 + 1 < _; omega) _).set (a := ⟨w.heap.size + 1 + 1, 2, none⟩) (by have := HSZ.out; show w.heap.size + 1 + 1 < _; omega) _).set (a := ⟨w.heap.size + 1 + 1, 3, none⟩) (by have := HSZ.out; show w.heap.size + 1 + 1 < _; omega) _).set (a := ⟨w.heap.size + 1 + 1, 4, none⟩) (by have := HSZ.out; show w.heap.size + 1 + 1 < _; omega) _
 have YGv1 : Hid (w1.heap.size ≤ (((((w1.setCell ⟨w.heap.size + 1 + 1, 0, none⟩ (.slice c.va c.vs.length c.vc)).setCell ⟨w.heap.size + 1 + 1, 1, none⟩ (.slice c.pa c.ps.length c.pc)).setCell ⟨w.heap.size + 1 + 1, 2, none⟩ (.slice c.qa c.qs.length c.qc)).setCell ⟨w.heap.size + 1 + 1, 3, none⟩ (.int .i64 c.cs)).setCell ⟨w.heap.size + 1 + 1, 4, none⟩ (.int .i64 c.nx)).heap.size) := by show _ ≤ _; simp [World.setCell]
 generalize (((((w1.setCell ⟨w.heap.size + 1 + 1, 0, none⟩ (.slice c.va c.vs.length c.vc)).setCell ⟨w.heap.size + 1 + 1, 1, none⟩ (.slice c.pa c.ps.length c.pc)).setCell ⟨w.heap.size + 1 + 1, 2, none⟩ (.slice c.qa c.qs.length c.qc)).setCell ⟨w.heap.size + 1 + 1, 3, none⟩ (.int .i64 c.cs)).setCell ⟨w.heap.size + 1 + 1, 4, none⟩ (.int .i64 c.nx)) = v1 at *
 have LZ1 : Hid (w.heap.size + 1 + 1 + 1 ≤ v1.heap.size) := by show _ ≤ _; have := HSZ.out; have := Y1.out; have := YGv1.out; omega
 have x5 := BA1.out.c5
 have fx5 := BA1.out.fz 5
 go_wp2_with fail
 refine (CO.out _ HB1.out).mono ?_
 rintro ex w2 ⟨ys, oa1, oc1, rfl, ht, hl, ho, hb⟩
 have BA2 : Hid (Bx w2 w.heap.size [.slice e.b.va e.b.vs.length e.b.vc, .slice e.b.pa e.b.ps.length e.b.pc, .slice e.b.qa e.b.qs.length e.b.qc, .int .i64 e.b.cs, .int .i64 e.b.nx, .slice e.oa e.os.length e.oc]) := BA1.out.below hb
 have BR2 : Hid (Bx w2 (w.heap.size + 1) [.slice none 0 0, .slice none 0 0, .slice none 0 0, .int .i64 0, .int .i64 0, .slice none 0 0]) := BR1.out.below hb
 have BO2 : Hid (Bx w2 (w.heap.size + 1 + 1) [.slice c.va c.vs.length c.vc, .slice c.pa c.ps.length c.pc, .slice c.qa c.qs.length c.qc, .int .i64 c.cs, .int .i64 c.nx, .slice none 0 0]) := BO1.out.below hb
 have HB2 : Hid (Below w.heap.size w w2) := HB1.out.trans (hb.mono HB1.out.size)
 have Y2 : Hid (v1.heap.size ≤ w2.heap.size) := hb.size
 replace R1 : Hid (BLie w2 w0.heap.size w1.heap.size c) := R1.out.below hb
 have R2 : Hid (LLie w2 v1.heap.size w2.heap.size (.slice oa1 ys.length oc1) ys) := ho
 have HT := hide ht
 have HL := hide hl
 clear ho hb ht hl BA1 BR1 BO1 HB1
 clear x5 fx5
 have o5 := BO2.out.c5
 have fo5 := BO2.out.fz 5
 go_upto_region 4 with fail
 clear o5 fo5
 replace BA2 : Hid (Bx (w2.setCell ⟨w.heap.size + 1 + 1, 5, none⟩ (.slice oa1 e.os.length oc1)) w.heap.size [.slice e.b.va e.b.vs.length e.b.vc, .slice e.b.pa e.b.ps.length e.b.pc, .slice e.b.qa e.b.qs.length e.b.qc, .int .i64 e.b.cs, .int .i64 e.b.nx, .slice e.oa e.os.length e.oc]) := BA2.out.setO (p := ⟨w.heap.size + 1 + 1, 5, none⟩) (by show w.heap.size + 1 + 1 ≠ w.heap.size; omega) _
 replace BR2 : Hid (Bx (w2.setCell ⟨w.heap.size + 1 + 1, 5, none⟩ (.slice oa1 e.os.length oc1)) (w.heap.size + 1) [.slice none 0 0, .slice none 0 0, .slice none 0 0, .int .i64 0, .int .i64 0, .slice none 0 0]) := BR2.out.setO (p := ⟨w.heap.size + 1 + 1, 5, none⟩) (by show w.heap.size + 1 + 1 ≠ w.heap.size + 1; omega) _
 replace BO2 : Hid (Bx (w2.setCell ⟨w.heap.size + 1 + 1, 5, none⟩ (.slice oa1 e.os.length oc1)) (w.heap.size + 1 + 1) [.slice c.va c.vs.length c.vc, .slice c.pa c.ps.length c.pc, .slice c.qa c.qs.length c.qc, .int .i64 c.cs, .int .i64 c.nx, .slice oa1 e.os.length oc1]) := BO2.out.set 5 _
 replace HB2 : Hid (Below w.heap.size w (w2.setCell ⟨w.heap.size + 1 + 1, 5, none⟩ (.slice oa1 e.os.length oc1))) := HB2.out.setCell (p := ⟨w.heap.size + 1 + 1, 5, none⟩) (by show _ ≤ _ + 1 + 1; omega) _
 replace R1 : Hid (BLie (w2.setCell ⟨w.heap.size + 1 + 1, 5, none⟩ (.slice oa1 e.os.length oc1)) w0.heap.size w1.heap.size c) := R1.out.set (a := ⟨w.heap.size + 1 + 1, 5, none⟩) (by have := HSZ.out; show w.heap.size + 1 + 1 < _; omega) _
 replace R2 : Hid (LLie (w2.setCell ⟨w.heap.size + 1 + 1, 5, none⟩ (.slice oa1 e.os.length oc1)) v1.heap.size w2.heap.size (.slice oa1 ys.length oc1) ys) := R2.out.set (a := ⟨w.heap.size + 1 + 1, 5, none⟩) (by have := LZ1.out; show w.heap.size + 1 + 1 < _; omega) _
 have YGv2 : Hid (w2.heap.size ≤ (w2.setCell ⟨w.heap.size + 1 + 1, 5, none⟩ (.slice oa1 e.os.length oc1)).heap.size) := by show _ ≤ _; simp [World.setCell]
 generalize (w2.setCell ⟨w.heap.size + 1 + 1, 5, none⟩ (.slice oa1 e.os.length oc1)) = v2 at *
 have HE : Hid (EnLie v2 (w.heap.size + 1 + 1 + 1) v2.heap.size ⟨c, ys, oa1, oc1⟩) := ⟨v1.heap.size, LZ1.out, by have := Y2.out; have := YGv2.out; omega, R1.out.mono HSZ.out (by have := YGv1.out; omega), R2.out.mono (Nat.le_refl _) YGv2.out⟩
 have HSM : Hid (EnSame e ⟨c, ys, oa1, oc1⟩) := ⟨SM.out, HT.out⟩
 clear R1 R2 SM HT
 have o0 := BO2.out.c0
 have fo0 := BO2.out.fz 0
 have o1 := BO2.out.c1
 have fo1 := BO2.out.fz 1
 have o2 := BO2.out.c2
 have fo2 := BO2.out.fz 2
 have o3 := BO2.out.c3
 have fo3 := BO2.out.fz 3
 have o4 := BO2.out.c4
 have fo4 := BO2.out.fz 4
 have o5 := BO2.out.c5
 have fo5 := BO2.out.fz 5
 have q0 := BR2.out.c0
 have fq0 := BR2.out.fz 0
 have q1 := BR2.out.c1
 have fq1 := BR2.out.fz 1
 have q2 := BR2.out.c2
 have fq2 := BR2.out.fz 2
 have q3 := BR2.out.c3
 have fq3 := BR2.out.fz 3
 have q4 := BR2.out.c4
 have fq4 := BR2.out.fz 4
 have q5 := BR2.out.c5
 have fq5 := BR2.out.fz 5
 go_wp2
 refine bodyPost_ret (v := .agg #[.slice c.va c.vs.length c.vc, .slice c.pa c.ps.length c.pc, .slice c.qa c.qs.length c.qc, .int .i64 c.cs, .int .i64 c.nx, .slice oa1 e.os.length oc1]) (by simp [results, Tryz.results32, go_sem, q0, q1, q2, q3, q4, q5]) rfl ⟨⟨c, ys, oa1, oc1⟩, by rw [← HL.out], HSM.out, ?_, ?_⟩
 ·exact (((((((HE.out.set (a := ⟨w.heap.size + 1, 0, none⟩) (by show _ + 1 < _; omega) _).set (a := ⟨w.heap.size + 1, 1, none⟩) (by show _ + 1 < _; omega) _).set (a := ⟨w.heap.size + 1, 2, none⟩) (by show _ + 1 < _; omega) _).set (a := ⟨w.heap.size + 1, 3, none⟩) (by show _ + 1 < _; omega) _).set (a := ⟨w.heap.size + 1, 4, none⟩) (by show _ + 1 < _; omega) _).set (a := ⟨w.heap.size + 1, 5, none⟩) (by show _ + 1 < _; omega) _).mono (by omega) (by simp [World.setCell]))
 ·exact (((((HB2.out.setCell (p := ⟨w.heap.size + 1, 0, none⟩) (by show _ ≤ _ + 1; omega) _).setCell (p := ⟨w.heap.size + 1, 1, none⟩) (by show _ ≤ _ + 1; omega) _).setCell (p := ⟨w.heap.size + 1, 2, none⟩) (by show _ ≤ _ + 1; omega) _).setCell (p := ⟨w.heap.size + 1, 3, none⟩) (by show _ ≤ _ + 1; omega) _).setCell (p := ⟨w.heap.size + 1, 4, none⟩) (by show _ ≤ _ + 1; omega) _).setCell (p := ⟨w.heap.size + 1, 5, none⟩) (by show _ ≤ _ + 1; omega) _

end Go.Proofs.YtmijppfppigjcaaGreat

/- What stays: BaseOk of the document. -/
import Derived.Test.YtpnnncfbodfnhaaGreatDoorPr01
import Derived.Test.YtpnnncfbodfnhaaGreatDoorPr13
import Derived.Deep.RegionHeld3
import Derived.Deep.Cut
import Derived.Deep.CutRange
import Derived.Laws.EntriesVeiled
namespace Go.Proofs.YtpnnncfbodfnhaaGreatDoor
open Go.RowKit
open KM
attribute [local go_sem ↓] Go.wp_at_zero Go.wp_at_succ

set_option maxRecDepth 100000 in
set_option maxHeartbeats 8000000 in
theorem sbase5 (b : Bb) (hf : BFit b) (w : World) (hp : BRows w b) :
  Calls Tryz.prog 51 #[.agg #[.slice b.va b.vs.length b.vc, .slice b.pa b.ps.length b.pc, .slice b.qa b.qs.length b.qc, .int .i64 b.cs, .int .i64 b.nx]] w fun e w' => e = .returned (.bool (sbB b)) ∧ Below w.heap.size w w' := by
 have BA0 : Hid (Bx (w.alloc (.cells #[.slice b.va b.vs.length b.vc, .slice b.pa b.ps.length b.pc, .slice b.qa b.qs.length b.qc, .int .i64 b.cs, .int .i64 b.nx] 42)) w.heap.size [.slice b.va b.vs.length b.vc, .slice b.pa b.ps.length b.pc, .slice b.qa b.qs.length b.qc, .int .i64 b.cs, .int .i64 b.nx]) := Bx.new w [.slice b.va b.vs.length b.vc, .slice b.pa b.ps.length b.pc, .slice b.qa b.qs.length b.qc, .int .i64 b.cs, .int .i64 b.nx] 42
 have HB0 : Hid (Below w.heap.size w (w.alloc (.cells #[.slice b.va b.vs.length b.vc, .slice b.pa b.ps.length b.pc, .slice b.qa b.qs.length b.qc, .int .i64 b.cs, .int .i64 b.nx] 42))) := (belowRefl w).alloc (Nat.le_refl _) _
 have HP : Hid (BRows w b) := hp
 have HF : Hid (BFit b) := hf
 have hvl : b.vs.length ≤ 1048576 := hf.vl
 clear hp hf
 have CV := hide (svers b.vs b.va b.vc (Nat.le_trans HF.out.vl (by omega)) HF.out.vf (w.alloc (.cells #[.slice b.va b.vs.length b.vc, .slice b.pa b.ps.length b.pc, .slice b.qa b.qs.length b.qc, .int .i64 b.cs, .int .i64 b.nx] 42)) (HP.out.v.below HB0.out))
 go_enter Tryz.func51, Tryz.ntmps51
 go_upto_region 1 with fail
 generalize (w.alloc (.cells #[.slice b.va b.vs.length b.vc, .slice b.pa b.ps.length b.pc, .slice b.qa b.qs.length b.qc, .int .i64 b.cs, .int .i64 b.nx] 42)) = w0 at *
 have y0 := BA0.out.c0
 cases hv : versB b.vs
 ·rw [hv] at CV
  have HR : Hid (false = sbB b) := sb_no fun g => by rw [g.1] at hv; cases hv
  clear hv
  go_wp2_with fail
  refine CV.out.mono ?_
  rintro e w1 ⟨rfl, hb⟩
  have HB1 : Hid (Below w.heap.size w w1) := HB0.out.trans (hb.mono HB0.out.size)
  go_wp2
  go_ret
  exact ⟨ret_bool HR.out, HB1.out⟩
 rw [hv] at CV
 have HV : Hid (versB b.vs = true) := hv
 clear hv
 go_wp2_with fail
 refine CV.out.mono ?_
 rintro e w1 ⟨rfl, hb⟩
 have HB1 : Hid (Below w.heap.size w w1) := HB0.out.trans (hb.mono HB0.out.size)
 have BA1 : Hid (Bx w1 w.heap.size [.slice b.va b.vs.length b.vc, .slice b.pa b.ps.length b.pc, .slice b.qa b.qs.length b.qc, .int .i64 b.cs, .int .i64 b.nx]) := BA0.out.below hb
 clear hb HB0 BA0 y0 CV
 have y1 := BA1.out.c1
 by_cases hpl : b.ps.length ≤ 12
 case neg =>
  have hpl' : (12 : Int) < (b.ps.length : Int) := by omega
  have HR : Hid (false = sbB b) := sb_no fun g => hpl g.2.1
  go_wp2
  go_ret
  exact ⟨ret_bool HR.out, HB1.out⟩
 have hpl' : ¬ (12 : Int) < (b.ps.length : Int) := by omega
 have y2 := BA1.out.c2
 by_cases hql : b.qs.length ≤ 3
 case neg =>
  have hql' : (3 : Int) < (b.qs.length : Int) := by omega
  have HR : Hid (false = sbB b) := sb_no fun g => hql g.2.2.1
  go_wp2
  go_ret
  exact ⟨ret_bool HR.out, HB1.out⟩
 have hql' : ¬ (3 : Int) < (b.qs.length : Int) := by omega
 have y3 := BA1.out.c3
 by_cases hcs : 0 ≤ b.cs ∧ b.cs ≤ 9999
 case neg =>
  have HR : Hid (false = sbB b) := sb_no fun g => hcs g.2.2.2.1
  go_wp2_with fail
  refine (in57 b.cs 0 9999 false (decide_eq_false hcs) _).mono ?_
  rintro e w2 ⟨rfl, rfl⟩
  go_wp2
  go_ret
  exact ⟨ret_bool HR.out, HB1.out⟩
 go_wp2_with fail
 refine (in57 b.cs 0 9999 true (decide_eq_true hcs) _).mono ?_
 rintro e w1 ⟨rfl, rfl⟩
 have y4 := BA1.out.c4
 by_cases hnx : 1 ≤ b.nx ∧ b.nx ≤ 9999
 case neg =>
  have HR : Hid (false = sbB b) := sb_no fun g => hnx g.2.2.2.2.1
  go_wp2_with fail
  refine (in57 b.nx 1 9999 false (decide_eq_false hnx) _).mono ?_
  rintro e w2 ⟨rfl, rfl⟩
  go_wp2
  go_ret
  exact ⟨ret_bool HR.out, HB1.out⟩
 go_wp2_with fail
 refine (in57 b.nx 1 9999 true (decide_eq_true hnx) _).mono ?_
 rintro e w1 ⟨rfl, rfl⟩
 clear y1 y2 y3 y4
 go_wp2
 go_loopw [3] (fun t wr => ∃ k : Nat, k ≤ b.vs.length ∧ t = .int .i64 k ∧ Hid (∀ j (h : j < b.vs.length), j < k → b.vs[j].2.2.2 ≤ b.cs) ∧ Hid (Below w.heap.size w wr) ∧ Hid (Bx wr w.heap.size [.slice b.va b.vs.length b.vc, .slice b.pa b.ps.length b.pc, .slice b.qa b.qs.length b.qc, .int .i64 b.cs, .int .i64 b.nx])) (fun t _ => b.vs.length - (intOf t).toNat)
 case atStart => exact ⟨0, Nat.zero_le _, rfl, (fun j h hlt => by omega), HB1, BA1⟩
 case round =>
  clear HB1 BA1
  obtain ⟨k, hk, rfl, HG, HB, BA⟩ := hrel
  have x0 := BA.out.c0
  by_cases hlt : k < b.vs.length
  ·have hlt' : (k : Int) < (b.vs.length : Int) := by omega
   have h0 : (0 : Int) ≤ (k : Int) := by omega
   obtain ⟨b0, o, hadr, hbl, hc9⟩ := (HP.out.v.below HB.out) (by omega)
   have r3 := (vat hc9 k hlt).2.2.2
   have x3 := BA.out.c3
   rw [hadr] at x0
   cases hq : decide (b.cs < b.vs[k].2.2.2)
   ·have HG2 : Hid (∀ j (h : j < b.vs.length), j < k + 1 → b.vs[j].2.2.2 ≤ b.cs) := fun j h hj => by
     by_cases e : j = k
     ·subst e; simpa using hq
     ·exact HG.out j h (by omega)
    have BA2 : Hid (Bx wr w.heap.size [.slice b.va b.vs.length b.vc, .slice b.pa b.ps.length b.pc, .slice b.qa b.qs.length b.qc, .int .i64 b.cs, .int .i64 b.nx]) := BA
    clear HG hc9 hbl
    go_wp2
    go_quiet (fail)
    go_wp2
    go_roundw
    case rel => exact ⟨k + 1, by omega, by go_num, HG2, below_drewN HB.out _, BA2.out.below (below_drewN (belowRefl wr) _)⟩
    case measure => simp [intOf]; omega
   ·have HR : Hid (false = sbB b) := sb_no fun g => by have h9 := g.2.2.2.2.2.1 k hlt; have h8 : b.cs < b.vs[k].2.2.2 := (by simpa using hq); omega
    clear HG hc9 hbl
    go_wp2
    go_quiet (fail)
    go_wp2
    go_ret
    exact ⟨ret_bool HR.out, below_drewN HB.out _⟩
  ·have hd : ¬ (k : Int) < (b.vs.length : Int) := by omega
   have HGV : Hid (∀ j (h : j < b.vs.length), b.vs[j].2.2.2 ≤ b.cs) := fun j h => HG.out j h (by omega)
   clear HG hlt hk
   go_upto_region 9 with fail
   have hba : Below wr.heap.size wr (wr.alloc (.cells #[] 3)) := (belowRefl wr).alloc (Nat.le_refl _) _
   have HBE : Hid (Below w.heap.size w (wr.alloc (.cells #[] 3))) := HB.out.trans (hba.mono HB.out.size)
   have BAE : Hid (Bx (wr.alloc (.cells #[] 3)) w.heap.size [.slice b.va b.vs.length b.vc, .slice b.pa b.ps.length b.pc, .slice b.qa b.qs.length b.qc, .int .i64 b.cs, .int .i64 b.nx]) := BA.out.below hba
   have HOE : Hid (GOwn encI 3 (wr.alloc (.cells #[] 3)) (w.heap.size + 1) (.slice (some ⟨wr.heap.size, 0, none⟩) 0 0) []) := GOwn.empty wr (w.heap.size + 1) BA.out.lt
   clear hba HB BA x0 hd
   generalize wr.alloc (.cells #[] 3) = we at *
   generalize wr.heap.size = ge at *
   clear wr
   go_wp2
   go_loopw [4, 5] (fun v t wr => ∃ k : Nat, k ≤ b.ps.length ∧ t = .int .i64 k ∧ Hid (pstK b.ps b.cs k) ∧ Hid (GOwn encI 3 wr (w.heap.size + 1) v (((b.ps.take k).map fun x : Ta => x.t.id))) ∧ Hid (Below w.heap.size w wr) ∧ Hid (Bx wr w.heap.size [.slice b.va b.vs.length b.vc, .slice b.pa b.ps.length b.pc, .slice b.qa b.qs.length b.qc, .int .i64 b.cs, .int .i64 b.nx])) (fun _ t _ => b.ps.length - (intOf t).toNat)
   case atStart => exact ⟨0, Nat.zero_le _, rfl, (fun j h hlt => by omega), HOE, HBE, BAE⟩
   case round =>
    clear HOE HBE BAE
    obtain ⟨k, hk, rfl, HG, HO, HB, BA⟩ := hrel
    by_cases hlt : k < b.ps.length
    ·have hlt' : (k : Int) < (b.ps.length : Int) := by omega
     have h0 : (0 : Int) ≤ (k : Int) := by omega
     obtain ⟨b0, o, hadr, hbl, hc, hrow⟩ := (HP.out.p.below HB.out).cls k hlt
     have hfx : TFit b.ps[k].t := HF.out.p.2 _ (List.mem_map.2 ⟨_, List.getElem_mem hlt, rfl⟩)
     have HNX : Hid ((((b.ps.take (k + 1)).map fun x : Ta => x.t.id)) = (((b.ps.take k).map fun x : Ta => x.t.id)) ++ [b.ps[k].t.id]) := by
      show _ = _
      rw [List.take_add_one, List.getElem?_eq_getElem hlt, List.map_append]
      simp
     have HLn : Hid ((((b.ps.take k).map fun x : Ta => x.t.id)).length ≤ 100000000) := by
      show _ ≤ _
      simp only [List.length_map, List.length_take]
      have := HF.out.pl; have := HF.out.ql
      omega
     by_cases hk0 : 0 < k
     ·obtain ⟨p, hp⟩ : ∃ p, p = k - 1 := ⟨_, rfl⟩
      have hpk : p < b.ps.length := by omega
      obtain ⟨b9, o9, hadr9, hbl9, hc9, -⟩ := (HP.out.p.below HB.out).cls p hpk
      rw [hadr] at hadr9
      cases hadr9
      have e1 : IntKind.i64.wrap ((k : Int) - 1) = (p : Int) := by rw [IntKind.wrap_i64]; omega
      have hpn : (p : Int) < (b.ps.length : Int) := by omega
      have hp0 : (0 : Int) ≤ (p : Int) := by omega
      have hkd : decide ((0 : Int) < (k : Int)) = true := decide_eq_true (by omega)
      have hkd' : (0 : Int) < (k : Int) := by omega
      have HGd : Hid (((txnB b.ps[k].t = true ∧ b.ps[k].t.st = 3 ∧ b.ps[k].t.cs ≤ b.cs) ∧ ∀ (_ : 0 < k), b.ps[p].t.cs < b.ps[k].t.cs) → pstK b.ps b.cs (k + 1)) := fun h => pst_more HG.out hlt (by have e : k - 1 = p := hp.symm; simpa only [e] using h)
      have HNo : Hid (¬ ((txnB b.ps[k].t = true ∧ b.ps[k].t.st = 3 ∧ b.ps[k].t.cs ≤ b.cs) ∧ ∀ (_ : 0 < k), b.ps[p].t.cs < b.ps[k].t.cs) → false = sbB b) := fun h => sb_no fun g => h (by have h9 := g.2.2.2.2.2.2.1 k hlt; have e : k - 1 = p := hp.symm; simpa only [e] using h9)
      obtain ⟨y, hy⟩ : ∃ y, y = b.ps[p] := ⟨_, rfl⟩
      rw [← hy] at hc9 HGd HNo
      clear hy
      obtain ⟨x, hx⟩ : ∃ x, x = b.ps[k] := ⟨_, rfl⟩
      rw [← hx] at hc HNX hfx hrow HGd HNo
      clear hx HG
      have r0 := hc.c0
      have r1 := hc.c1
      have r2 := hc.c2
      have r3 := hc.c3
      have r4 := hc.c4
      have r5 := hc.c5
      have r6 := hc.c6
      have r7 := hc.c7
      clear hc
      obtain ⟨F, hF⟩ : ∃ F, F = (((b.ps.take k).map fun x : Ta => x.t.id)) := ⟨_, rfl⟩
      rw [← hF] at HO HNX HLn
      clear hF
      have hln := HLn.out
      have BAx := BA.out
      rw [hadr] at BAx
      have HADR := hide hadr
      clear hadr
      have HB1 : Hid (Below w.heap.size w (wr.alloc (.cells #[.int .i64 x.t.id, .int .i64 x.t.st, .int .i64 x.t.snap, .int .i64 x.t.cs, .slice x.ra x.t.rs.length x.rc, .slice x.wa x.t.ws.length x.wc, .bool x.t.out, .string x.t.nm] 38))) := HB.out.alloc HB.out.size _
      have BX1 : Hid (Bx (wr.alloc (.cells #[.int .i64 x.t.id, .int .i64 x.t.st, .int .i64 x.t.snap, .int .i64 x.t.cs, .slice x.ra x.t.rs.length x.rc, .slice x.wa x.t.ws.length x.wc, .bool x.t.out, .string x.t.nm] 38)) wr.heap.size [.int .i64 x.t.id, .int .i64 x.t.st, .int .i64 x.t.snap, .int .i64 x.t.cs, .slice x.ra x.t.rs.length x.rc, .slice x.wa x.t.ws.length x.wc, .bool x.t.out, .string x.t.nm]) := Bx.new wr [.int .i64 x.t.id, .int .i64 x.t.st, .int .i64 x.t.snap, .int .i64 x.t.cs, .slice x.ra x.t.rs.length x.rc, .slice x.wa x.t.ws.length x.wc, .bool x.t.out, .string x.t.nm] 38
      have BA1 : Hid (Bx (wr.alloc (.cells #[.int .i64 x.t.id, .int .i64 x.t.st, .int .i64 x.t.snap, .int .i64 x.t.cs, .slice x.ra x.t.rs.length x.rc, .slice x.wa x.t.ws.length x.wc, .bool x.t.out, .string x.t.nm] 38)) w.heap.size [.slice b.va b.vs.length b.vc, .slice (some ⟨b0, o, none⟩) b.ps.length b.pc, .slice b.qa b.qs.length b.qc, .int .i64 b.cs, .int .i64 b.nx]) := BAx.alloc _
      have O1 := hide (HO.out.alloc (.cells #[.int .i64 x.t.id, .int .i64 x.t.st, .int .i64 x.t.snap, .int .i64 x.t.cs, .slice x.ra x.t.rs.length x.rc, .slice x.wa x.t.ws.length x.wc, .bool x.t.out, .string x.t.nm] 38))
      have HC0 := hide (stxn x.t x.ra x.wa x.rc x.wc hfx (wr.alloc (.cells #[.int .i64 x.t.id, .int .i64 x.t.st, .int .i64 x.t.snap, .int .i64 x.t.cs, .slice x.ra x.t.rs.length x.rc, .slice x.wa x.t.ws.length x.wc, .bool x.t.out, .string x.t.nm] 38)).drew ((hrow.below ((belowRefl wr).alloc (Nat.le_refl _) _)).drewT))
      have PC1 : Hid ((wr.alloc (.cells #[.int .i64 x.t.id, .int .i64 x.t.st, .int .i64 x.t.snap, .int .i64 x.t.cs, .slice x.ra x.t.rs.length x.rc, .slice x.wa x.t.ws.length x.wc, .bool x.t.out, .string x.t.nm] 38)).cell? ⟨b0, o + p * 8 + 3, none⟩ = some (.int .i64 y.t.cs)) := (((belowRefl wr).alloc (Nat.le_refl _) _).cell (p := ⟨b0, o + p * 8 + 3, none⟩) hbl).trans hc9.c3
      have hbl1 : b0 < (wr.alloc (.cells #[.int .i64 x.t.id, .int .i64 x.t.st, .int .i64 x.t.snap, .int .i64 x.t.cs, .slice x.ra x.t.rs.length x.rc, .slice x.wa x.t.ws.length x.wc, .bool x.t.out, .string x.t.nm] 38)).heap.size := by simp; omega
      clear hc9 hp hpk hbl9
      have xl := BAx.c1
      clear hfx hrow BA BAx
      go_upto_region 13 with fail
      clear r0 r1 r2 r3 r4 r5 r6 r7 xl HO HB
      have HC := HC0
      clear HC0
      cases ht : txnB x.t
      ·rw [ht] at HC
       go_wp2
       refine wp_region_held_drew (S := fun w' => w'.cell? ⟨w.heap.size, 0, none⟩ = some (.slice b.va b.vs.length b.vc) ∧ w'.cell? ⟨w.heap.size, 1, none⟩ = some (.slice (some ⟨b0, o, none⟩) b.ps.length b.pc) ∧ w'.cell? ⟨w.heap.size, 2, none⟩ = some (.slice b.qa b.qs.length b.qc) ∧ w'.cell? ⟨w.heap.size, 3, none⟩ = some (.int .i64 b.cs) ∧ w'.cell? ⟨w.heap.size, 4, none⟩ = some (.int .i64 b.nx) ∧ w'.cell? ⟨wr.heap.size, 0, none⟩ = some (.int .i64 x.t.id) ∧ w'.cell? ⟨wr.heap.size, 1, none⟩ = some (.int .i64 x.t.st) ∧ w'.cell? ⟨wr.heap.size, 2, none⟩ = some (.int .i64 x.t.snap) ∧ w'.cell? ⟨wr.heap.size, 3, none⟩ = some (.int .i64 x.t.cs) ∧ w'.cell? ⟨wr.heap.size, 4, none⟩ = some (.slice x.ra x.t.rs.length x.rc) ∧ w'.cell? ⟨wr.heap.size, 5, none⟩ = some (.slice x.wa x.t.ws.length x.wc) ∧ w'.cell? ⟨wr.heap.size, 6, none⟩ = some (.bool x.t.out) ∧ w'.cell? ⟨wr.heap.size, 7, none⟩ = some (.string x.t.nm) ∧ w'.cell? ⟨b0, o + p * 8 + 3, none⟩ = some (.int .i64 y.t.cs)) (by kernel_rfl) ⟨BA1.out.c0, BA1.out.c1, BA1.out.c2, BA1.out.c3, BA1.out.c4, BX1.out.c0, BX1.out.c1, BX1.out.c2, BX1.out.c3, BX1.out.c4, BX1.out.c5, BX1.out.c6, BX1.out.c7, PC1.out⟩ (fun hHeld => ?_)
       (refine ti 0 ?_; simp only [Act.put, tA, tB, tD, tE, tF])
       refine wpAnyH_ready (rs := [1]) (by kernel_rfl) (by simp) ?_
       refine AllReadyH.cons rfl (fun K hK => ?_) AllReadyH.nil
       go_simp
       go_wp2_with fail
       refine (HC.out).mono ?_
       rintro e w2 ⟨rfl, hb9⟩
       have hb := undrew hb9
       have HB2 : Hid (Below w.heap.size w w2) := HB1.out.trans (hb.mono HB1.out.size)
       have BA2 : Hid (Bx w2 w.heap.size [.slice b.va b.vs.length b.vc, .slice (some ⟨b0, o, none⟩) b.ps.length b.pc, .slice b.qa b.qs.length b.qc, .int .i64 b.cs, .int .i64 b.nx]) := BA1.out.below hb
       have BX2 : Hid (Bx w2 wr.heap.size [.int .i64 x.t.id, .int .i64 x.t.st, .int .i64 x.t.snap, .int .i64 x.t.cs, .slice x.ra x.t.rs.length x.rc, .slice x.wa x.t.ws.length x.wc, .bool x.t.out, .string x.t.nm]) := BX1.out.below hb
       have O2 := hide (O1.out.below hb)
       have PC2 : Hid (w2.cell? ⟨b0, o + p * 8 + 3, none⟩ = some (.int .i64 y.t.cs)) := (hb.cell (p := ⟨b0, o + p * 8 + 3, none⟩) hbl1).trans PC1.out
       clear hb hb9
       go_wp2_with fail
       refine hK.out _ _ ⟨BA2.out.c0, BA2.out.c1, BA2.out.c2, BA2.out.c3, BA2.out.c4, BX2.out.c0, BX2.out.c1, BX2.out.c2, BX2.out.c3, BX2.out.c4, BX2.out.c5, BX2.out.c6, BX2.out.c7, PC2.out⟩ (fun hHeld2 => ?_)
       clear hK K
       (refine ti 2 ?_; simp only [Act.put, tA, tB, tC, tD, tE, tF])
       (refine ti 3 ?_; simp only [Act.put, tA, tB, tC, tD, tE, tF])
       (refine tu 4 ?_; simp only [Act.put, tA, tB, tC, tD, tE, tF])
       (refine tu 5 ?_; simp only [Act.put, tA, tB, tC, tD, tE, tF])
       (refine tu 6 ?_; simp only [Act.put, tA, tB, tC, tD, tE, tF])
       (refine ti 7 ?_; simp only [Act.put, tA, tB, tC, tD, tE, tF])
       (refine ti 8 ?_; simp only [Act.put, tA, tB, tC, tD, tE, tF])
       (refine tu 9 ?_; simp only [Act.put, tA, tB, tC, tD, tE, tF])
       (refine tu 10 ?_; simp only [Act.put, tA, tB, tC, tD, tE, tF])
       (refine tu 11 ?_; simp only [Act.put, tA, tB, tC, tD, tE, tF])
       (refine tu 12 ?_; simp only [Act.put, tA, tB, tC, tD, tE, tF])
       (refine tu 13 ?_; simp only [Act.put, tA, tB, tC, tD, tE, tF])
       (refine ti 14 ?_; simp only [Act.put, tA, tB, tC, tD, tE, tF])
       (refine ti 15 ?_; simp only [Act.put, tA, tB, tC, tD, tE, tF])
       (refine tu 16 ?_; simp only [Act.put, tA, tB, tC, tD, tE, tF])
       (refine tu 17 ?_; simp only [Act.put, tA, tB, tC, tD, tE, tF])
       (refine tu 18 ?_; simp only [Act.put, tA, tB, tC, tD, tE, tF])
       (refine tu 19 ?_; simp only [Act.put, tA, tB, tC, tD, tE, tF])
       (refine tu 20 ?_; simp only [Act.put, tA, tB, tC, tD, tE, tF])
       (refine tu 21 ?_; simp only [Act.put, tA, tB, tC, tD, tE, tF])
       (refine tu 22 ?_; simp only [Act.put, tA, tB, tC, tD, tE, tF])
       (refine tu 23 ?_; simp only [Act.put, tA, tB, tC, tD, tE, tF])
       (refine tu 24 ?_; simp only [Act.put, tA, tB, tC, tD, tE, tF])
       (refine tu 25 ?_; simp only [Act.put, tA, tB, tC, tD, tE, tF])
       (refine tu 26 ?_; simp only [Act.put, tA, tB, tC, tD, tE, tF])
       (refine tu 27 ?_; simp only [Act.put, tA, tB, tC, tD, tE, tF])
       (refine tu 28 ?_; simp only [Act.put, tA, tB, tC, tD, tE, tF])
       (refine tu 29 ?_; simp only [Act.put, tA, tB, tC, tD, tE, tF])
       (refine ti 30 ?_; simp only [Act.put, tA, tB, tC, tD, tE, tF])
       refine wpAnyH_done (by kernel_rfl) ?_ _
       have HR : Hid (false = sbB b) := HNo.out (fun h => by rw [h.1.1] at ht; cases ht)
       go_wp2
       go_ret
       exact ⟨ret_bool HR.out, HB2.out⟩
      ·rw [ht] at HC
       go_wp2
       refine wp_region_held_drew (S := fun w' => w'.cell? ⟨w.heap.size, 0, none⟩ = some (.slice b.va b.vs.length b.vc) ∧ w'.cell? ⟨w.heap.size, 1, none⟩ = some (.slice (some ⟨b0, o, none⟩) b.ps.length b.pc) ∧ w'.cell? ⟨w.heap.size, 2, none⟩ = some (.slice b.qa b.qs.length b.qc) ∧ w'.cell? ⟨w.heap.size, 3, none⟩ = some (.int .i64 b.cs) ∧ w'.cell? ⟨w.heap.size, 4, none⟩ = some (.int .i64 b.nx) ∧ w'.cell? ⟨wr.heap.size, 0, none⟩ = some (.int .i64 x.t.id) ∧ w'.cell? ⟨wr.heap.size, 1, none⟩ = some (.int .i64 x.t.st) ∧ w'.cell? ⟨wr.heap.size, 2, none⟩ = some (.int .i64 x.t.snap) ∧ w'.cell? ⟨wr.heap.size, 3, none⟩ = some (.int .i64 x.t.cs) ∧ w'.cell? ⟨wr.heap.size, 4, none⟩ = some (.slice x.ra x.t.rs.length x.rc) ∧ w'.cell? ⟨wr.heap.size, 5, none⟩ = some (.slice x.wa x.t.ws.length x.wc) ∧ w'.cell? ⟨wr.heap.size, 6, none⟩ = some (.bool x.t.out) ∧ w'.cell? ⟨wr.heap.size, 7, none⟩ = some (.string x.t.nm) ∧ w'.cell? ⟨b0, o + p * 8 + 3, none⟩ = some (.int .i64 y.t.cs)) (by kernel_rfl) ⟨BA1.out.c0, BA1.out.c1, BA1.out.c2, BA1.out.c3, BA1.out.c4, BX1.out.c0, BX1.out.c1, BX1.out.c2, BX1.out.c3, BX1.out.c4, BX1.out.c5, BX1.out.c6, BX1.out.c7, PC1.out⟩ (fun hHeld => ?_)
       (refine ti 0 ?_; simp only [Act.put, tA, tB, tD, tE, tF])
       refine wpAnyH_ready (rs := [1]) (by kernel_rfl) (by simp) ?_
       refine AllReadyH.cons rfl (fun K hK => ?_) AllReadyH.nil
       go_simp
       go_wp2_with fail
       refine (HC.out).mono ?_
       rintro e w2 ⟨rfl, hb9⟩
       have hb := undrew hb9
       have HB2 : Hid (Below w.heap.size w w2) := HB1.out.trans (hb.mono HB1.out.size)
       have BA2 : Hid (Bx w2 w.heap.size [.slice b.va b.vs.length b.vc, .slice (some ⟨b0, o, none⟩) b.ps.length b.pc, .slice b.qa b.qs.length b.qc, .int .i64 b.cs, .int .i64 b.nx]) := BA1.out.below hb
       have BX2 : Hid (Bx w2 wr.heap.size [.int .i64 x.t.id, .int .i64 x.t.st, .int .i64 x.t.snap, .int .i64 x.t.cs, .slice x.ra x.t.rs.length x.rc, .slice x.wa x.t.ws.length x.wc, .bool x.t.out, .string x.t.nm]) := BX1.out.below hb
       have O2 := hide (O1.out.below hb)
       have PC2 : Hid (w2.cell? ⟨b0, o + p * 8 + 3, none⟩ = some (.int .i64 y.t.cs)) := (hb.cell (p := ⟨b0, o + p * 8 + 3, none⟩) hbl1).trans PC1.out
       clear hb hb9
       go_wp2_with fail
       refine hK.out _ _ ⟨BA2.out.c0, BA2.out.c1, BA2.out.c2, BA2.out.c3, BA2.out.c4, BX2.out.c0, BX2.out.c1, BX2.out.c2, BX2.out.c3, BX2.out.c4, BX2.out.c5, BX2.out.c6, BX2.out.c7, PC2.out⟩ (fun hHeld2 => ?_)
       clear hK K
       (refine ti 2 ?_; simp only [Act.put, tA, tB, tC, tD, tE, tF])
       (refine ti 3 ?_; simp only [Act.put, tA, tB, tC, tD, tE, tF])
       (refine ti 4 ?_; simp only [Act.put, tA, tB, tC, tD, tE, tF])
       (refine ti 5 ?_; simp only [Act.put, tA, tB, tC, tD, tE, tF])
       cases h6 : (x.t.st != 3)
       ·(refine ti 6 ?_; simp only [Act.put, tA, tB, tC, tD, tE, tF])
        (refine ti 7 ?_; simp only [Act.put, tA, tB, tC, tD, tE, tF])
        (refine ti 8 ?_; simp only [Act.put, tA, tB, tC, tD, tE, tF])
        (refine ti 9 ?_; simp only [Act.put, tA, tB, tC, tD, tE, tF])
        (refine ti 10 ?_; simp only [Act.put, tA, tB, tC, tD, tE, tF])
        (refine ti 11 ?_; simp only [Act.put, tA, tB, tC, tD, tE, tF])
        (refine ti 12 ?_; simp only [Act.put, tA, tB, tC, tD, tE, tF])
        cases h13 : decide (b.cs < x.t.cs)
        ·(refine ti 13 ?_; simp only [Act.put, tA, tB, tC, tD, tE, tF])
         (refine ti 14 ?_; simp only [Act.put, tA, tB, tC, tD, tE, tF])
         (refine ti 15 ?_; simp only [Act.put, tA, tB, tC, tD, tE, tF])
         (refine ti 16 ?_; simp only [Act.put, tA, tB, tC, tD, tE, tF])
         (refine ti 17 ?_; simp only [Act.put, tA, tB, tC, tD, tE, tF])
         (refine ti 18 ?_; simp only [Act.put, tA, tB, tC, tD, tE, tF])
         (refine ti 19 ?_; simp only [Act.put, tA, tB, tC, tD, tE, tF])
         (refine ti 20 ?_; simp only [Act.put, tA, tB, tC, tD, tE, tF])
         (refine ti 21 ?_; simp only [Act.put, tA, tB, tC, tD, tE, tF])
         (refine ti 22 ?_; simp only [Act.put, tA, tB, tC, tD, tE, tF])
         (refine ti 23 ?_; simp only [Act.put, tA, tB, tC, tD, tE, tF])
         (refine ti 24 ?_; simp only [Act.put, tA, tB, tC, tD, tE, tF])
         (refine ti 25 ?_; simp only [Act.put, tA, tB, tC, tD, tE, tF])
         (refine ti 26 ?_; simp only [Act.put, tA, tB, tC, tD, tE, tF])
         (refine ti 27 ?_; simp only [Act.put, tA, tB, tC, tD, tE, tF])
         cases h28 : decide (x.t.cs ≤ y.t.cs)
         ·(refine ti 28 ?_; simp only [Act.put, tA, tB, tC, tD, tE, tF])
          (refine ti 29 ?_; simp only [Act.put, tA, tB, tC, tD, tE, tF])
          (refine ti 30 ?_; simp only [Act.put, tA, tB, tC, tD, tE, tF])
          refine wpAnyH_done (by kernel_rfl) ?_ _
          have hgd := HGd.out ⟨⟨ht, by simpa using h6, by simpa using h13⟩, fun _ => by simpa using h28⟩
          clear HGd HNo
          clear ht h6 h13
          have x0 := BX2.out.c0
          have hsz2 := BA2.out.lt
          have HBK : Hid ((w2.alloc (.cells #[.int .i64 x.t.id] 3)).heap[w2.heap.size]? = some (.cells (encI.enc x.t.id).toArray 3 (0, 0))) := heap_alloc_new w2 _
          have O2a := hide (O2.out.alloc (.cells #[.int .i64 x.t.id] 3))
          go_wp2_with (at_builtin; refine wpAppK (E := encI) 158 3 8 _ Tryz.underlying158 Tryz.info3 rfl (by omega) rfl _ _ rfl x.t.id oneI rfl O2a.out rfl HBK.out hln (by simp; omega) ?_)
          intro g' cap w3 ho3 hg3 hg4 hlt3
          have hb3 : Below (w.heap.size + 1) w2 w3 := ((Below.refl _ _).alloc (Nat.succ_le_of_lt hsz2) _).trans ((Below.refl _ _).grown hg3 (by simp; omega) (fun j hj => (World.ownsRow.lt O2a.out j hj).1))
          have O3 : Hid (GOwn encI 3 w3 (w.heap.size + 1) (.slice (some ⟨g', 0, none⟩) (F.length + 1) cap) (F ++ [x.t.id])) := ho3
          have HB3 : Hid (Below w.heap.size w w3) := HB2.out.trans (hb3.mono (Nat.le_succ _))
          have BA3 := hide (bx_low BA2.out hb3 (Nat.lt_succ_self _))
          have HGD := hide hgd
          clear ho3 hb3 hg3 hg4 hlt3 O2a O2 HBK x0 hgd
          go_wp2
          go_roundw
          case rel => exact ⟨k + 1, by omega, by go_num, HGD, by rw [HNX.out]; exact O3, HB3, by rw [HADR.out]; exact BA3⟩
          case measure => simp [intOf]; omega
         ·(refine ti 28 ?_; simp only [Act.put, tA, tB, tC, tD, tE, tF])
          (refine ti 29 ?_; simp only [Act.put, tA, tB, tC, tD, tE, tF])
          (refine ti 30 ?_; simp only [Act.put, tA, tB, tC, tD, tE, tF])
          refine wpAnyH_done (by kernel_rfl) ?_ _
          have HR : Hid (false = sbB b) := HNo.out (fun h => by have h9 := h.2 hk0; have h8 : x.t.cs ≤ y.t.cs := (by simpa using h28); omega)
          go_wp2
          go_ret
          exact ⟨ret_bool HR.out, HB2.out⟩
        ·(refine ti 13 ?_; simp only [Act.put, tA, tB, tC, tD, tE, tF])
         (refine ti 14 ?_; simp only [Act.put, tA, tB, tC, tD, tE, tF])
         (refine ti 15 ?_; simp only [Act.put, tA, tB, tC, tD, tE, tF])
         (refine tu 16 ?_; simp only [Act.put, tA, tB, tC, tD, tE, tF])
         (refine tu 17 ?_; simp only [Act.put, tA, tB, tC, tD, tE, tF])
         (refine tu 18 ?_; simp only [Act.put, tA, tB, tC, tD, tE, tF])
         (refine tu 19 ?_; simp only [Act.put, tA, tB, tC, tD, tE, tF])
         (refine tu 20 ?_; simp only [Act.put, tA, tB, tC, tD, tE, tF])
         (refine tu 21 ?_; simp only [Act.put, tA, tB, tC, tD, tE, tF])
         (refine tu 22 ?_; simp only [Act.put, tA, tB, tC, tD, tE, tF])
         (refine tu 23 ?_; simp only [Act.put, tA, tB, tC, tD, tE, tF])
         (refine tu 24 ?_; simp only [Act.put, tA, tB, tC, tD, tE, tF])
         (refine tu 25 ?_; simp only [Act.put, tA, tB, tC, tD, tE, tF])
         (refine tu 26 ?_; simp only [Act.put, tA, tB, tC, tD, tE, tF])
         (refine tu 27 ?_; simp only [Act.put, tA, tB, tC, tD, tE, tF])
         (refine tu 28 ?_; simp only [Act.put, tA, tB, tC, tD, tE, tF])
         (refine tu 29 ?_; simp only [Act.put, tA, tB, tC, tD, tE, tF])
         (refine ti 30 ?_; simp only [Act.put, tA, tB, tC, tD, tE, tF])
         refine wpAnyH_done (by kernel_rfl) ?_ _
         have HR : Hid (false = sbB b) := HNo.out (fun h => by have h9 := h.1.2.2; have h8 : b.cs < x.t.cs := (by simpa using h13); omega)
         go_wp2
         go_ret
         exact ⟨ret_bool HR.out, HB2.out⟩
       ·(refine ti 6 ?_; simp only [Act.put, tA, tB, tC, tD, tE, tF])
        (refine ti 7 ?_; simp only [Act.put, tA, tB, tC, tD, tE, tF])
        (refine ti 8 ?_; simp only [Act.put, tA, tB, tC, tD, tE, tF])
        (refine tu 9 ?_; simp only [Act.put, tA, tB, tC, tD, tE, tF])
        (refine tu 10 ?_; simp only [Act.put, tA, tB, tC, tD, tE, tF])
        (refine tu 11 ?_; simp only [Act.put, tA, tB, tC, tD, tE, tF])
        (refine tu 12 ?_; simp only [Act.put, tA, tB, tC, tD, tE, tF])
        (refine tu 13 ?_; simp only [Act.put, tA, tB, tC, tD, tE, tF])
        (refine ti 14 ?_; simp only [Act.put, tA, tB, tC, tD, tE, tF])
        (refine ti 15 ?_; simp only [Act.put, tA, tB, tC, tD, tE, tF])
        (refine tu 16 ?_; simp only [Act.put, tA, tB, tC, tD, tE, tF])
        (refine tu 17 ?_; simp only [Act.put, tA, tB, tC, tD, tE, tF])
        (refine tu 18 ?_; simp only [Act.put, tA, tB, tC, tD, tE, tF])
        (refine tu 19 ?_; simp only [Act.put, tA, tB, tC, tD, tE, tF])
        (refine tu 20 ?_; simp only [Act.put, tA, tB, tC, tD, tE, tF])
        (refine tu 21 ?_; simp only [Act.put, tA, tB, tC, tD, tE, tF])
        (refine tu 22 ?_; simp only [Act.put, tA, tB, tC, tD, tE, tF])
        (refine tu 23 ?_; simp only [Act.put, tA, tB, tC, tD, tE, tF])
        (refine tu 24 ?_; simp only [Act.put, tA, tB, tC, tD, tE, tF])
        (refine tu 25 ?_; simp only [Act.put, tA, tB, tC, tD, tE, tF])
        (refine tu 26 ?_; simp only [Act.put, tA, tB, tC, tD, tE, tF])
        (refine tu 27 ?_; simp only [Act.put, tA, tB, tC, tD, tE, tF])
        (refine tu 28 ?_; simp only [Act.put, tA, tB, tC, tD, tE, tF])
        (refine tu 29 ?_; simp only [Act.put, tA, tB, tC, tD, tE, tF])
        (refine ti 30 ?_; simp only [Act.put, tA, tB, tC, tD, tE, tF])
        refine wpAnyH_done (by kernel_rfl) ?_ _
        have HR : Hid (false = sbB b) := HNo.out (fun h => by rw [h.1.2.1] at h6; simp at h6)
        go_wp2
        go_ret
        exact ⟨ret_bool HR.out, HB2.out⟩
     ·have hkd : decide ((0 : Int) < (k : Int)) = false := decide_eq_false (by omega)
      have hkd' : ¬ (0 : Int) < (k : Int) := by omega
      have HGd : Hid ((txnB b.ps[k].t = true ∧ b.ps[k].t.st = 3 ∧ b.ps[k].t.cs ≤ b.cs) ∧ (0 < k → False) → pstK b.ps b.cs (k + 1)) := fun h => pst_more HG.out hlt ⟨h.1, fun h0 => absurd h0 hk0⟩
      have HNo : Hid (¬ ((txnB b.ps[k].t = true ∧ b.ps[k].t.st = 3 ∧ b.ps[k].t.cs ≤ b.cs) ∧ (0 < k → False)) → false = sbB b) := fun h => sb_no fun g => h ⟨(g.2.2.2.2.2.2.1 k hlt).1, fun h0 => absurd h0 hk0⟩
      obtain ⟨x, hx⟩ : ∃ x, x = b.ps[k] := ⟨_, rfl⟩
      rw [← hx] at hc HNX hfx hrow HGd HNo
      clear hx HG
      have r0 := hc.c0
      have r1 := hc.c1
      have r2 := hc.c2
      have r3 := hc.c3
      have r4 := hc.c4
      have r5 := hc.c5
      have r6 := hc.c6
      have r7 := hc.c7
      clear hc
      obtain ⟨F, hF⟩ : ∃ F, F = (((b.ps.take k).map fun x : Ta => x.t.id)) := ⟨_, rfl⟩
      rw [← hF] at HO HNX HLn
      clear hF
      have hln := HLn.out
      have BAx := BA.out
      rw [hadr] at BAx
      have HADR := hide hadr
      clear hadr
      have HB1 : Hid (Below w.heap.size w (wr.alloc (.cells #[.int .i64 x.t.id, .int .i64 x.t.st, .int .i64 x.t.snap, .int .i64 x.t.cs, .slice x.ra x.t.rs.length x.rc, .slice x.wa x.t.ws.length x.wc, .bool x.t.out, .string x.t.nm] 38))) := HB.out.alloc HB.out.size _
      have BX1 : Hid (Bx (wr.alloc (.cells #[.int .i64 x.t.id, .int .i64 x.t.st, .int .i64 x.t.snap, .int .i64 x.t.cs, .slice x.ra x.t.rs.length x.rc, .slice x.wa x.t.ws.length x.wc, .bool x.t.out, .string x.t.nm] 38)) wr.heap.size [.int .i64 x.t.id, .int .i64 x.t.st, .int .i64 x.t.snap, .int .i64 x.t.cs, .slice x.ra x.t.rs.length x.rc, .slice x.wa x.t.ws.length x.wc, .bool x.t.out, .string x.t.nm]) := Bx.new wr [.int .i64 x.t.id, .int .i64 x.t.st, .int .i64 x.t.snap, .int .i64 x.t.cs, .slice x.ra x.t.rs.length x.rc, .slice x.wa x.t.ws.length x.wc, .bool x.t.out, .string x.t.nm] 38
      have BA1 : Hid (Bx (wr.alloc (.cells #[.int .i64 x.t.id, .int .i64 x.t.st, .int .i64 x.t.snap, .int .i64 x.t.cs, .slice x.ra x.t.rs.length x.rc, .slice x.wa x.t.ws.length x.wc, .bool x.t.out, .string x.t.nm] 38)) w.heap.size [.slice b.va b.vs.length b.vc, .slice (some ⟨b0, o, none⟩) b.ps.length b.pc, .slice b.qa b.qs.length b.qc, .int .i64 b.cs, .int .i64 b.nx]) := BAx.alloc _
      have O1 := hide (HO.out.alloc (.cells #[.int .i64 x.t.id, .int .i64 x.t.st, .int .i64 x.t.snap, .int .i64 x.t.cs, .slice x.ra x.t.rs.length x.rc, .slice x.wa x.t.ws.length x.wc, .bool x.t.out, .string x.t.nm] 38))
      have HC0 := hide (stxn x.t x.ra x.wa x.rc x.wc hfx (wr.alloc (.cells #[.int .i64 x.t.id, .int .i64 x.t.st, .int .i64 x.t.snap, .int .i64 x.t.cs, .slice x.ra x.t.rs.length x.rc, .slice x.wa x.t.ws.length x.wc, .bool x.t.out, .string x.t.nm] 38)).drew ((hrow.below ((belowRefl wr).alloc (Nat.le_refl _) _)).drewT))
      have xl := BAx.c1
      clear hfx hrow BA BAx
      go_upto_region 13 with fail
      clear r0 r1 r2 r3 r4 r5 r6 r7 xl HO HB
      have HC := HC0
      clear HC0
      cases ht : txnB x.t
      ·rw [ht] at HC
       go_wp2
       refine wp_region_held_drew (S := fun w' => w'.cell? ⟨w.heap.size, 0, none⟩ = some (.slice b.va b.vs.length b.vc) ∧ w'.cell? ⟨w.heap.size, 1, none⟩ = some (.slice (some ⟨b0, o, none⟩) b.ps.length b.pc) ∧ w'.cell? ⟨w.heap.size, 2, none⟩ = some (.slice b.qa b.qs.length b.qc) ∧ w'.cell? ⟨w.heap.size, 3, none⟩ = some (.int .i64 b.cs) ∧ w'.cell? ⟨w.heap.size, 4, none⟩ = some (.int .i64 b.nx) ∧ w'.cell? ⟨wr.heap.size, 0, none⟩ = some (.int .i64 x.t.id) ∧ w'.cell? ⟨wr.heap.size, 1, none⟩ = some (.int .i64 x.t.st) ∧ w'.cell? ⟨wr.heap.size, 2, none⟩ = some (.int .i64 x.t.snap) ∧ w'.cell? ⟨wr.heap.size, 3, none⟩ = some (.int .i64 x.t.cs) ∧ w'.cell? ⟨wr.heap.size, 4, none⟩ = some (.slice x.ra x.t.rs.length x.rc) ∧ w'.cell? ⟨wr.heap.size, 5, none⟩ = some (.slice x.wa x.t.ws.length x.wc) ∧ w'.cell? ⟨wr.heap.size, 6, none⟩ = some (.bool x.t.out) ∧ w'.cell? ⟨wr.heap.size, 7, none⟩ = some (.string x.t.nm)) (by kernel_rfl) ⟨BA1.out.c0, BA1.out.c1, BA1.out.c2, BA1.out.c3, BA1.out.c4, BX1.out.c0, BX1.out.c1, BX1.out.c2, BX1.out.c3, BX1.out.c4, BX1.out.c5, BX1.out.c6, BX1.out.c7⟩ (fun hHeld => ?_)
       (refine ti 0 ?_; simp only [Act.put, tA, tB, tD, tE, tF])
       refine wpAnyH_ready (rs := [1]) (by kernel_rfl) (by simp) ?_
       refine AllReadyH.cons rfl (fun K hK => ?_) AllReadyH.nil
       go_simp
       go_wp2_with fail
       refine (HC.out).mono ?_
       rintro e w2 ⟨rfl, hb9⟩
       have hb := undrew hb9
       have HB2 : Hid (Below w.heap.size w w2) := HB1.out.trans (hb.mono HB1.out.size)
       have BA2 : Hid (Bx w2 w.heap.size [.slice b.va b.vs.length b.vc, .slice (some ⟨b0, o, none⟩) b.ps.length b.pc, .slice b.qa b.qs.length b.qc, .int .i64 b.cs, .int .i64 b.nx]) := BA1.out.below hb
       have BX2 : Hid (Bx w2 wr.heap.size [.int .i64 x.t.id, .int .i64 x.t.st, .int .i64 x.t.snap, .int .i64 x.t.cs, .slice x.ra x.t.rs.length x.rc, .slice x.wa x.t.ws.length x.wc, .bool x.t.out, .string x.t.nm]) := BX1.out.below hb
       have O2 := hide (O1.out.below hb)
       clear hb hb9
       go_wp2_with fail
       refine hK.out _ _ ⟨BA2.out.c0, BA2.out.c1, BA2.out.c2, BA2.out.c3, BA2.out.c4, BX2.out.c0, BX2.out.c1, BX2.out.c2, BX2.out.c3, BX2.out.c4, BX2.out.c5, BX2.out.c6, BX2.out.c7⟩ (fun hHeld2 => ?_)
       clear hK K
       (refine ti 2 ?_; simp only [Act.put, tA, tB, tC, tD, tE, tF])
       (refine ti 3 ?_; simp only [Act.put, tA, tB, tC, tD, tE, tF])
       (refine tu 4 ?_; simp only [Act.put, tA, tB, tC, tD, tE, tF])
       (refine tu 5 ?_; simp only [Act.put, tA, tB, tC, tD, tE, tF])
       (refine tu 6 ?_; simp only [Act.put, tA, tB, tC, tD, tE, tF])
       (refine ti 7 ?_; simp only [Act.put, tA, tB, tC, tD, tE, tF])
       (refine ti 8 ?_; simp only [Act.put, tA, tB, tC, tD, tE, tF])
       (refine tu 9 ?_; simp only [Act.put, tA, tB, tC, tD, tE, tF])
       (refine tu 10 ?_; simp only [Act.put, tA, tB, tC, tD, tE, tF])
       (refine tu 11 ?_; simp only [Act.put, tA, tB, tC, tD, tE, tF])
       (refine tu 12 ?_; simp only [Act.put, tA, tB, tC, tD, tE, tF])
       (refine tu 13 ?_; simp only [Act.put, tA, tB, tC, tD, tE, tF])
       (refine ti 14 ?_; simp only [Act.put, tA, tB, tC, tD, tE, tF])
       (refine ti 15 ?_; simp only [Act.put, tA, tB, tC, tD, tE, tF])
       (refine tu 16 ?_; simp only [Act.put, tA, tB, tC, tD, tE, tF])
       (refine tu 17 ?_; simp only [Act.put, tA, tB, tC, tD, tE, tF])
       (refine tu 18 ?_; simp only [Act.put, tA, tB, tC, tD, tE, tF])
       (refine tu 19 ?_; simp only [Act.put, tA, tB, tC, tD, tE, tF])
       (refine tu 20 ?_; simp only [Act.put, tA, tB, tC, tD, tE, tF])
       (refine tu 21 ?_; simp only [Act.put, tA, tB, tC, tD, tE, tF])
       (refine tu 22 ?_; simp only [Act.put, tA, tB, tC, tD, tE, tF])
       (refine tu 23 ?_; simp only [Act.put, tA, tB, tC, tD, tE, tF])
       (refine tu 24 ?_; simp only [Act.put, tA, tB, tC, tD, tE, tF])
       (refine tu 25 ?_; simp only [Act.put, tA, tB, tC, tD, tE, tF])
       (refine tu 26 ?_; simp only [Act.put, tA, tB, tC, tD, tE, tF])
       (refine tu 27 ?_; simp only [Act.put, tA, tB, tC, tD, tE, tF])
       (refine tu 28 ?_; simp only [Act.put, tA, tB, tC, tD, tE, tF])
       (refine tu 29 ?_; simp only [Act.put, tA, tB, tC, tD, tE, tF])
       (refine ti 30 ?_; simp only [Act.put, tA, tB, tC, tD, tE, tF])
       refine wpAnyH_done (by kernel_rfl) ?_ _
       have HR : Hid (false = sbB b) := HNo.out (fun h => by rw [h.1.1] at ht; cases ht)
       go_wp2
       go_ret
       exact ⟨ret_bool HR.out, HB2.out⟩
      ·rw [ht] at HC
       go_wp2
       refine wp_region_held_drew (S := fun w' => w'.cell? ⟨w.heap.size, 0, none⟩ = some (.slice b.va b.vs.length b.vc) ∧ w'.cell? ⟨w.heap.size, 1, none⟩ = some (.slice (some ⟨b0, o, none⟩) b.ps.length b.pc) ∧ w'.cell? ⟨w.heap.size, 2, none⟩ = some (.slice b.qa b.qs.length b.qc) ∧ w'.cell? ⟨w.heap.size, 3, none⟩ = some (.int .i64 b.cs) ∧ w'.cell? ⟨w.heap.size, 4, none⟩ = some (.int .i64 b.nx) ∧ w'.cell? ⟨wr.heap.size, 0, none⟩ = some (.int .i64 x.t.id) ∧ w'.cell? ⟨wr.heap.size, 1, none⟩ = some (.int .i64 x.t.st) ∧ w'.cell? ⟨wr.heap.size, 2, none⟩ = some (.int .i64 x.t.snap) ∧ w'.cell? ⟨wr.heap.size, 3, none⟩ = some (.int .i64 x.t.cs) ∧ w'.cell? ⟨wr.heap.size, 4, none⟩ = some (.slice x.ra x.t.rs.length x.rc) ∧ w'.cell? ⟨wr.heap.size, 5, none⟩ = some (.slice x.wa x.t.ws.length x.wc) ∧ w'.cell? ⟨wr.heap.size, 6, none⟩ = some (.bool x.t.out) ∧ w'.cell? ⟨wr.heap.size, 7, none⟩ = some (.string x.t.nm)) (by kernel_rfl) ⟨BA1.out.c0, BA1.out.c1, BA1.out.c2, BA1.out.c3, BA1.out.c4, BX1.out.c0, BX1.out.c1, BX1.out.c2, BX1.out.c3, BX1.out.c4, BX1.out.c5, BX1.out.c6, BX1.out.c7⟩ (fun hHeld => ?_)
       (refine ti 0 ?_; simp only [Act.put, tA, tB, tD, tE, tF])
       refine wpAnyH_ready (rs := [1]) (by kernel_rfl) (by simp) ?_
       refine AllReadyH.cons rfl (fun K hK => ?_) AllReadyH.nil
       go_simp
       go_wp2_with fail
       refine (HC.out).mono ?_
       rintro e w2 ⟨rfl, hb9⟩
       have hb := undrew hb9
       have HB2 : Hid (Below w.heap.size w w2) := HB1.out.trans (hb.mono HB1.out.size)
       have BA2 : Hid (Bx w2 w.heap.size [.slice b.va b.vs.length b.vc, .slice (some ⟨b0, o, none⟩) b.ps.length b.pc, .slice b.qa b.qs.length b.qc, .int .i64 b.cs, .int .i64 b.nx]) := BA1.out.below hb
       have BX2 : Hid (Bx w2 wr.heap.size [.int .i64 x.t.id, .int .i64 x.t.st, .int .i64 x.t.snap, .int .i64 x.t.cs, .slice x.ra x.t.rs.length x.rc, .slice x.wa x.t.ws.length x.wc, .bool x.t.out, .string x.t.nm]) := BX1.out.below hb
       have O2 := hide (O1.out.below hb)
       clear hb hb9
       go_wp2_with fail
       refine hK.out _ _ ⟨BA2.out.c0, BA2.out.c1, BA2.out.c2, BA2.out.c3, BA2.out.c4, BX2.out.c0, BX2.out.c1, BX2.out.c2, BX2.out.c3, BX2.out.c4, BX2.out.c5, BX2.out.c6, BX2.out.c7⟩ (fun hHeld2 => ?_)
       clear hK K
       (refine ti 2 ?_; simp only [Act.put, tA, tB, tC, tD, tE, tF])
       (refine ti 3 ?_; simp only [Act.put, tA, tB, tC, tD, tE, tF])
       (refine ti 4 ?_; simp only [Act.put, tA, tB, tC, tD, tE, tF])
       (refine ti 5 ?_; simp only [Act.put, tA, tB, tC, tD, tE, tF])
       cases h6 : (x.t.st != 3)
       ·(refine ti 6 ?_; simp only [Act.put, tA, tB, tC, tD, tE, tF])
        (refine ti 7 ?_; simp only [Act.put, tA, tB, tC, tD, tE, tF])
        (refine ti 8 ?_; simp only [Act.put, tA, tB, tC, tD, tE, tF])
        (refine ti 9 ?_; simp only [Act.put, tA, tB, tC, tD, tE, tF])
        (refine ti 10 ?_; simp only [Act.put, tA, tB, tC, tD, tE, tF])
        (refine ti 11 ?_; simp only [Act.put, tA, tB, tC, tD, tE, tF])
        (refine ti 12 ?_; simp only [Act.put, tA, tB, tC, tD, tE, tF])
        cases h13 : decide (b.cs < x.t.cs)
        ·(refine ti 13 ?_; simp only [Act.put, tA, tB, tC, tD, tE, tF])
         (refine ti 14 ?_; simp only [Act.put, tA, tB, tC, tD, tE, tF])
         (refine ti 15 ?_; simp only [Act.put, tA, tB, tC, tD, tE, tF])
         (refine ti 16 ?_; simp only [Act.put, tA, tB, tC, tD, tE, tF])
         (refine ti 17 ?_; simp only [Act.put, tA, tB, tC, tD, tE, tF])
         (refine ti 18 ?_; simp only [Act.put, tA, tB, tC, tD, tE, tF])
         (refine tu 19 ?_; simp only [Act.put, tA, tB, tC, tD, tE, tF])
         (refine tu 20 ?_; simp only [Act.put, tA, tB, tC, tD, tE, tF])
         (refine tu 21 ?_; simp only [Act.put, tA, tB, tC, tD, tE, tF])
         (refine tu 22 ?_; simp only [Act.put, tA, tB, tC, tD, tE, tF])
         (refine tu 23 ?_; simp only [Act.put, tA, tB, tC, tD, tE, tF])
         (refine tu 24 ?_; simp only [Act.put, tA, tB, tC, tD, tE, tF])
         (refine tu 25 ?_; simp only [Act.put, tA, tB, tC, tD, tE, tF])
         (refine tu 26 ?_; simp only [Act.put, tA, tB, tC, tD, tE, tF])
         (refine tu 27 ?_; simp only [Act.put, tA, tB, tC, tD, tE, tF])
         (refine tu 28 ?_; simp only [Act.put, tA, tB, tC, tD, tE, tF])
         (refine ti 29 ?_; simp only [Act.put, tA, tB, tC, tD, tE, tF])
         (refine ti 30 ?_; simp only [Act.put, tA, tB, tC, tD, tE, tF])
         refine wpAnyH_done (by kernel_rfl) ?_ _
         have hgd := HGd.out ⟨⟨ht, by simpa using h6, by simpa using h13⟩, fun h0 => by omega⟩
         clear HGd HNo
         clear ht h6 h13
         have x0 := BX2.out.c0
         have hsz2 := BA2.out.lt
         have HBK : Hid ((w2.alloc (.cells #[.int .i64 x.t.id] 3)).heap[w2.heap.size]? = some (.cells (encI.enc x.t.id).toArray 3 (0, 0))) := heap_alloc_new w2 _
         have O2a := hide (O2.out.alloc (.cells #[.int .i64 x.t.id] 3))
         go_wp2_with (at_builtin; refine wpAppK (E := encI) 158 3 8 _ Tryz.underlying158 Tryz.info3 rfl (by omega) rfl _ _ rfl x.t.id oneI rfl O2a.out rfl HBK.out hln (by simp; omega) ?_)
         intro g' cap w3 ho3 hg3 hg4 hlt3
         have hb3 : Below (w.heap.size + 1) w2 w3 := ((Below.refl _ _).alloc (Nat.succ_le_of_lt hsz2) _).trans ((Below.refl _ _).grown hg3 (by simp; omega) (fun j hj => (World.ownsRow.lt O2a.out j hj).1))
         have O3 : Hid (GOwn encI 3 w3 (w.heap.size + 1) (.slice (some ⟨g', 0, none⟩) (F.length + 1) cap) (F ++ [x.t.id])) := ho3
         have HB3 : Hid (Below w.heap.size w w3) := HB2.out.trans (hb3.mono (Nat.le_succ _))
         have BA3 := hide (bx_low BA2.out hb3 (Nat.lt_succ_self _))
         have HGD := hide hgd
         clear ho3 hb3 hg3 hg4 hlt3 O2a O2 HBK x0 hgd
         go_wp2
         go_roundw
         case rel => exact ⟨k + 1, by omega, by go_num, HGD, by rw [HNX.out]; exact O3, HB3, by rw [HADR.out]; exact BA3⟩
         case measure => simp [intOf]; omega
        ·(refine ti 13 ?_; simp only [Act.put, tA, tB, tC, tD, tE, tF])
         (refine ti 14 ?_; simp only [Act.put, tA, tB, tC, tD, tE, tF])
         (refine ti 15 ?_; simp only [Act.put, tA, tB, tC, tD, tE, tF])
         (refine tu 16 ?_; simp only [Act.put, tA, tB, tC, tD, tE, tF])
         (refine tu 17 ?_; simp only [Act.put, tA, tB, tC, tD, tE, tF])
         (refine tu 18 ?_; simp only [Act.put, tA, tB, tC, tD, tE, tF])
         (refine tu 19 ?_; simp only [Act.put, tA, tB, tC, tD, tE, tF])
         (refine tu 20 ?_; simp only [Act.put, tA, tB, tC, tD, tE, tF])
         (refine tu 21 ?_; simp only [Act.put, tA, tB, tC, tD, tE, tF])
         (refine tu 22 ?_; simp only [Act.put, tA, tB, tC, tD, tE, tF])
         (refine tu 23 ?_; simp only [Act.put, tA, tB, tC, tD, tE, tF])
         (refine tu 24 ?_; simp only [Act.put, tA, tB, tC, tD, tE, tF])
         (refine tu 25 ?_; simp only [Act.put, tA, tB, tC, tD, tE, tF])
         (refine tu 26 ?_; simp only [Act.put, tA, tB, tC, tD, tE, tF])
         (refine tu 27 ?_; simp only [Act.put, tA, tB, tC, tD, tE, tF])
         (refine tu 28 ?_; simp only [Act.put, tA, tB, tC, tD, tE, tF])
         (refine tu 29 ?_; simp only [Act.put, tA, tB, tC, tD, tE, tF])
         (refine ti 30 ?_; simp only [Act.put, tA, tB, tC, tD, tE, tF])
         refine wpAnyH_done (by kernel_rfl) ?_ _
         have HR : Hid (false = sbB b) := HNo.out (fun h => by have h9 := h.1.2.2; have h8 : b.cs < x.t.cs := (by simpa using h13); omega)
         go_wp2
         go_ret
         exact ⟨ret_bool HR.out, HB2.out⟩
       ·(refine ti 6 ?_; simp only [Act.put, tA, tB, tC, tD, tE, tF])
        (refine ti 7 ?_; simp only [Act.put, tA, tB, tC, tD, tE, tF])
        (refine ti 8 ?_; simp only [Act.put, tA, tB, tC, tD, tE, tF])
        (refine tu 9 ?_; simp only [Act.put, tA, tB, tC, tD, tE, tF])
        (refine tu 10 ?_; simp only [Act.put, tA, tB, tC, tD, tE, tF])
        (refine tu 11 ?_; simp only [Act.put, tA, tB, tC, tD, tE, tF])
        (refine tu 12 ?_; simp only [Act.put, tA, tB, tC, tD, tE, tF])
        (refine tu 13 ?_; simp only [Act.put, tA, tB, tC, tD, tE, tF])
        (refine ti 14 ?_; simp only [Act.put, tA, tB, tC, tD, tE, tF])
        (refine ti 15 ?_; simp only [Act.put, tA, tB, tC, tD, tE, tF])
        (refine tu 16 ?_; simp only [Act.put, tA, tB, tC, tD, tE, tF])
        (refine tu 17 ?_; simp only [Act.put, tA, tB, tC, tD, tE, tF])
        (refine tu 18 ?_; simp only [Act.put, tA, tB, tC, tD, tE, tF])
        (refine tu 19 ?_; simp only [Act.put, tA, tB, tC, tD, tE, tF])
        (refine tu 20 ?_; simp only [Act.put, tA, tB, tC, tD, tE, tF])
        (refine tu 21 ?_; simp only [Act.put, tA, tB, tC, tD, tE, tF])
        (refine tu 22 ?_; simp only [Act.put, tA, tB, tC, tD, tE, tF])
        (refine tu 23 ?_; simp only [Act.put, tA, tB, tC, tD, tE, tF])
        (refine tu 24 ?_; simp only [Act.put, tA, tB, tC, tD, tE, tF])
        (refine tu 25 ?_; simp only [Act.put, tA, tB, tC, tD, tE, tF])
        (refine tu 26 ?_; simp only [Act.put, tA, tB, tC, tD, tE, tF])
        (refine tu 27 ?_; simp only [Act.put, tA, tB, tC, tD, tE, tF])
        (refine tu 28 ?_; simp only [Act.put, tA, tB, tC, tD, tE, tF])
        (refine tu 29 ?_; simp only [Act.put, tA, tB, tC, tD, tE, tF])
        (refine ti 30 ?_; simp only [Act.put, tA, tB, tC, tD, tE, tF])
        refine wpAnyH_done (by kernel_rfl) ?_ _
        have HR : Hid (false = sbB b) := HNo.out (fun h => by rw [h.1.2.1] at h6; simp at h6)
        go_wp2
        go_ret
        exact ⟨ret_bool HR.out, HB2.out⟩
    ·have hd : ¬ (k : Int) < (b.ps.length : Int) := by omega
     have HE : Hid (b.ps.take k = b.ps) := List.take_of_length_le (by omega)
     rw [HE.out] at HO
     have HGps : Hid (pstG b.ps b.cs) := pst_all HG.out (by omega)
     have xl := BA.out.c1
     clear HG HE hlt hk
     go_wp2
     go_loopw [4, 7] (fun v t wr => ∃ k : Nat, k ≤ b.qs.length ∧ t = .int .i64 k ∧ Hid (rdyK b.qs b.cs k) ∧ Hid (GOwn encI 3 wr (w.heap.size + 1) v ((b.ps.map fun x : Ta => x.t.id) ++ ((b.qs.take k).map fun x : Ta => x.t.id))) ∧ Hid (Below w.heap.size w wr) ∧ Hid (Bx wr w.heap.size [.slice b.va b.vs.length b.vc, .slice b.pa b.ps.length b.pc, .slice b.qa b.qs.length b.qc, .int .i64 b.cs, .int .i64 b.nx])) (fun _ t _ => b.qs.length - (intOf t).toNat)
     case atStart => exact ⟨0, Nat.zero_le _, rfl, (fun j h hlt => by omega), by have h := HO.out; show GOwn _ _ _ _ _ _; rw [List.take_zero, List.map_nil, List.append_nil]; exact h, HB, BA⟩
     case round =>
      clear HO HB BA xl
      obtain ⟨k, hk, rfl, HG, HO, HB, BA⟩ := hrel
      by_cases hlt : k < b.qs.length
      ·have hlt' : (k : Int) < (b.qs.length : Int) := by omega
       have h0 : (0 : Int) ≤ (k : Int) := by omega
       obtain ⟨b0, o, hadr, hbl, hc, hrow⟩ := (HP.out.q.below HB.out).cls k hlt
       have hfx : TFit b.qs[k].t := HF.out.q.2 _ (List.mem_map.2 ⟨_, List.getElem_mem hlt, rfl⟩)
       have HNX : Hid (((b.ps.map fun x : Ta => x.t.id) ++ ((b.qs.take (k + 1)).map fun x : Ta => x.t.id)) = ((b.ps.map fun x : Ta => x.t.id) ++ ((b.qs.take k).map fun x : Ta => x.t.id)) ++ [b.qs[k].t.id]) := by
        show _ = _
        rw [List.take_add_one, List.getElem?_eq_getElem hlt, List.map_append]
        simp
       have HLn : Hid (((b.ps.map fun x : Ta => x.t.id) ++ ((b.qs.take k).map fun x : Ta => x.t.id)).length ≤ 100000000) := by
        show _ ≤ _
        simp only [List.length_append, List.length_map, List.length_take]
        have := HF.out.pl; have := HF.out.ql
        omega
       by_cases hk0 : 0 < k
       ·obtain ⟨p, hp⟩ : ∃ p, p = k - 1 := ⟨_, rfl⟩
        have hpk : p < b.qs.length := by omega
        obtain ⟨b9, o9, hadr9, hbl9, hc9, -⟩ := (HP.out.q.below HB.out).cls p hpk
        rw [hadr] at hadr9
        cases hadr9
        have e1 : IntKind.i64.wrap ((k : Int) - 1) = (p : Int) := by rw [IntKind.wrap_i64]; omega
        have hpn : (p : Int) < (b.qs.length : Int) := by omega
        have hp0 : (0 : Int) ≤ (p : Int) := by omega
        have hkd : decide ((0 : Int) < (k : Int)) = true := decide_eq_true (by omega)
        have hkd' : (0 : Int) < (k : Int) := by omega
        have HGd : Hid (((txnB b.qs[k].t = true ∧ b.qs[k].t.st = 2 ∧ b.qs[k].t.snap ≤ b.cs) ∧ ∀ (_ : 0 < k), Op.bytesLess b.qs[p].t.nm.toList b.qs[k].t.nm.toList = true) → rdyK b.qs b.cs (k + 1)) := fun h => rdy_more HG.out hlt (by have e : k - 1 = p := hp.symm; simpa only [e] using h)
        have HNo : Hid (¬ ((txnB b.qs[k].t = true ∧ b.qs[k].t.st = 2 ∧ b.qs[k].t.snap ≤ b.cs) ∧ ∀ (_ : 0 < k), Op.bytesLess b.qs[p].t.nm.toList b.qs[k].t.nm.toList = true) → false = sbB b) := fun h => sb_no fun g => h (by have h9 := g.2.2.2.2.2.2.2.1 k hlt; have e : k - 1 = p := hp.symm; simpa only [e] using h9)
        obtain ⟨y, hy⟩ : ∃ y, y = b.qs[p] := ⟨_, rfl⟩
        rw [← hy] at hc9 HGd HNo
        clear hy
        obtain ⟨x, hx⟩ : ∃ x, x = b.qs[k] := ⟨_, rfl⟩
        rw [← hx] at hc HNX hfx hrow HGd HNo
        clear hx HG
        have r0 := hc.c0
        have r1 := hc.c1
        have r2 := hc.c2
        have r3 := hc.c3
        have r4 := hc.c4
        have r5 := hc.c5
        have r6 := hc.c6
        have r7 := hc.c7
        clear hc
        obtain ⟨F, hF⟩ : ∃ F, F = ((b.ps.map fun x : Ta => x.t.id) ++ ((b.qs.take k).map fun x : Ta => x.t.id)) := ⟨_, rfl⟩
        rw [← hF] at HO HNX HLn
        clear hF
        have hln := HLn.out
        have BAx := BA.out
        rw [hadr] at BAx
        have HADR := hide hadr
        clear hadr
        have HB1 : Hid (Below w.heap.size w (wr.alloc (.cells #[.int .i64 x.t.id, .int .i64 x.t.st, .int .i64 x.t.snap, .int .i64 x.t.cs, .slice x.ra x.t.rs.length x.rc, .slice x.wa x.t.ws.length x.wc, .bool x.t.out, .string x.t.nm] 38))) := HB.out.alloc HB.out.size _
        have BX1 : Hid (Bx (wr.alloc (.cells #[.int .i64 x.t.id, .int .i64 x.t.st, .int .i64 x.t.snap, .int .i64 x.t.cs, .slice x.ra x.t.rs.length x.rc, .slice x.wa x.t.ws.length x.wc, .bool x.t.out, .string x.t.nm] 38)) wr.heap.size [.int .i64 x.t.id, .int .i64 x.t.st, .int .i64 x.t.snap, .int .i64 x.t.cs, .slice x.ra x.t.rs.length x.rc, .slice x.wa x.t.ws.length x.wc, .bool x.t.out, .string x.t.nm]) := Bx.new wr [.int .i64 x.t.id, .int .i64 x.t.st, .int .i64 x.t.snap, .int .i64 x.t.cs, .slice x.ra x.t.rs.length x.rc, .slice x.wa x.t.ws.length x.wc, .bool x.t.out, .string x.t.nm] 38
        have BA1 : Hid (Bx (wr.alloc (.cells #[.int .i64 x.t.id, .int .i64 x.t.st, .int .i64 x.t.snap, .int .i64 x.t.cs, .slice x.ra x.t.rs.length x.rc, .slice x.wa x.t.ws.length x.wc, .bool x.t.out, .string x.t.nm] 38)) w.heap.size [.slice b.va b.vs.length b.vc, .slice b.pa b.ps.length b.pc, .slice (some ⟨b0, o, none⟩) b.qs.length b.qc, .int .i64 b.cs, .int .i64 b.nx]) := BAx.alloc _
        have O1 := hide (HO.out.alloc (.cells #[.int .i64 x.t.id, .int .i64 x.t.st, .int .i64 x.t.snap, .int .i64 x.t.cs, .slice x.ra x.t.rs.length x.rc, .slice x.wa x.t.ws.length x.wc, .bool x.t.out, .string x.t.nm] 38))
        have HC0 := hide (stxn x.t x.ra x.wa x.rc x.wc hfx (wr.alloc (.cells #[.int .i64 x.t.id, .int .i64 x.t.st, .int .i64 x.t.snap, .int .i64 x.t.cs, .slice x.ra x.t.rs.length x.rc, .slice x.wa x.t.ws.length x.wc, .bool x.t.out, .string x.t.nm] 38)).drew ((hrow.below ((belowRefl wr).alloc (Nat.le_refl _) _)).drewT))
        have PC1 : Hid ((wr.alloc (.cells #[.int .i64 x.t.id, .int .i64 x.t.st, .int .i64 x.t.snap, .int .i64 x.t.cs, .slice x.ra x.t.rs.length x.rc, .slice x.wa x.t.ws.length x.wc, .bool x.t.out, .string x.t.nm] 38)).cell? ⟨b0, o + p * 8 + 7, none⟩ = some (.string y.t.nm)) := (((belowRefl wr).alloc (Nat.le_refl _) _).cell (p := ⟨b0, o + p * 8 + 7, none⟩) hbl).trans hc9.c7
        have hbl1 : b0 < (wr.alloc (.cells #[.int .i64 x.t.id, .int .i64 x.t.st, .int .i64 x.t.snap, .int .i64 x.t.cs, .slice x.ra x.t.rs.length x.rc, .slice x.wa x.t.ws.length x.wc, .bool x.t.out, .string x.t.nm] 38)).heap.size := by simp; omega
        clear hc9 hp hpk hbl9
        have xl := BAx.c2
        clear hfx hrow BA BAx
        go_upto_region 20 with fail
        clear r0 r1 r2 r3 r4 r5 r6 r7 xl HO HB
        have HC := HC0
        clear HC0
        cases ht : txnB x.t
        ·rw [ht] at HC
         go_wp2
         refine wp_region_held_drew (S := fun w' => w'.cell? ⟨w.heap.size, 0, none⟩ = some (.slice b.va b.vs.length b.vc) ∧ w'.cell? ⟨w.heap.size, 1, none⟩ = some (.slice b.pa b.ps.length b.pc) ∧ w'.cell? ⟨w.heap.size, 2, none⟩ = some (.slice (some ⟨b0, o, none⟩) b.qs.length b.qc) ∧ w'.cell? ⟨w.heap.size, 3, none⟩ = some (.int .i64 b.cs) ∧ w'.cell? ⟨w.heap.size, 4, none⟩ = some (.int .i64 b.nx) ∧ w'.cell? ⟨wr.heap.size, 0, none⟩ = some (.int .i64 x.t.id) ∧ w'.cell? ⟨wr.heap.size, 1, none⟩ = some (.int .i64 x.t.st) ∧ w'.cell? ⟨wr.heap.size, 2, none⟩ = some (.int .i64 x.t.snap) ∧ w'.cell? ⟨wr.heap.size, 3, none⟩ = some (.int .i64 x.t.cs) ∧ w'.cell? ⟨wr.heap.size, 4, none⟩ = some (.slice x.ra x.t.rs.length x.rc) ∧ w'.cell? ⟨wr.heap.size, 5, none⟩ = some (.slice x.wa x.t.ws.length x.wc) ∧ w'.cell? ⟨wr.heap.size, 6, none⟩ = some (.bool x.t.out) ∧ w'.cell? ⟨wr.heap.size, 7, none⟩ = some (.string x.t.nm) ∧ w'.cell? ⟨b0, o + p * 8 + 7, none⟩ = some (.string y.t.nm)) (by kernel_rfl) ⟨BA1.out.c0, BA1.out.c1, BA1.out.c2, BA1.out.c3, BA1.out.c4, BX1.out.c0, BX1.out.c1, BX1.out.c2, BX1.out.c3, BX1.out.c4, BX1.out.c5, BX1.out.c6, BX1.out.c7, PC1.out⟩ (fun hHeld => ?_)
         (refine ti 0 ?_; simp only [Act.put, tA, tB, tD, tE, tF])
         refine wpAnyH_ready (rs := [1]) (by kernel_rfl) (by simp) ?_
         refine AllReadyH.cons rfl (fun K hK => ?_) AllReadyH.nil
         go_simp
         go_wp2_with fail
         refine (HC.out).mono ?_
         rintro e w2 ⟨rfl, hb9⟩
         have hb := undrew hb9
         have HB2 : Hid (Below w.heap.size w w2) := HB1.out.trans (hb.mono HB1.out.size)
         have BA2 : Hid (Bx w2 w.heap.size [.slice b.va b.vs.length b.vc, .slice b.pa b.ps.length b.pc, .slice (some ⟨b0, o, none⟩) b.qs.length b.qc, .int .i64 b.cs, .int .i64 b.nx]) := BA1.out.below hb
         have BX2 : Hid (Bx w2 wr.heap.size [.int .i64 x.t.id, .int .i64 x.t.st, .int .i64 x.t.snap, .int .i64 x.t.cs, .slice x.ra x.t.rs.length x.rc, .slice x.wa x.t.ws.length x.wc, .bool x.t.out, .string x.t.nm]) := BX1.out.below hb
         have O2 := hide (O1.out.below hb)
         have PC2 : Hid (w2.cell? ⟨b0, o + p * 8 + 7, none⟩ = some (.string y.t.nm)) := (hb.cell (p := ⟨b0, o + p * 8 + 7, none⟩) hbl1).trans PC1.out
         clear hb hb9
         go_wp2_with fail
         refine hK.out _ _ ⟨BA2.out.c0, BA2.out.c1, BA2.out.c2, BA2.out.c3, BA2.out.c4, BX2.out.c0, BX2.out.c1, BX2.out.c2, BX2.out.c3, BX2.out.c4, BX2.out.c5, BX2.out.c6, BX2.out.c7, PC2.out⟩ (fun hHeld2 => ?_)
         clear hK K
         (refine ti 2 ?_; simp only [Act.put, tA, tB, tC, tD, tE, tF])
         (refine ti 3 ?_; simp only [Act.put, tA, tB, tC, tD, tE, tF])
         (refine tu 4 ?_; simp only [Act.put, tA, tB, tC, tD, tE, tF])
         (refine tu 5 ?_; simp only [Act.put, tA, tB, tC, tD, tE, tF])
         (refine tu 6 ?_; simp only [Act.put, tA, tB, tC, tD, tE, tF])
         (refine ti 7 ?_; simp only [Act.put, tA, tB, tC, tD, tE, tF])
         (refine ti 8 ?_; simp only [Act.put, tA, tB, tC, tD, tE, tF])
         (refine tu 9 ?_; simp only [Act.put, tA, tB, tC, tD, tE, tF])
         (refine tu 10 ?_; simp only [Act.put, tA, tB, tC, tD, tE, tF])
         (refine tu 11 ?_; simp only [Act.put, tA, tB, tC, tD, tE, tF])
         (refine tu 12 ?_; simp only [Act.put, tA, tB, tC, tD, tE, tF])
         (refine tu 13 ?_; simp only [Act.put, tA, tB, tC, tD, tE, tF])
         (refine ti 14 ?_; simp only [Act.put, tA, tB, tC, tD, tE, tF])
         (refine ti 15 ?_; simp only [Act.put, tA, tB, tC, tD, tE, tF])
         (refine tu 16 ?_; simp only [Act.put, tA, tB, tC, tD, tE, tF])
         (refine tu 17 ?_; simp only [Act.put, tA, tB, tC, tD, tE, tF])
         (refine tu 18 ?_; simp only [Act.put, tA, tB, tC, tD, tE, tF])
         (refine tu 19 ?_; simp only [Act.put, tA, tB, tC, tD, tE, tF])
         (refine tu 20 ?_; simp only [Act.put, tA, tB, tC, tD, tE, tF])
         (refine tu 21 ?_; simp only [Act.put, tA, tB, tC, tD, tE, tF])
         (refine tu 22 ?_; simp only [Act.put, tA, tB, tC, tD, tE, tF])
         (refine tu 23 ?_; simp only [Act.put, tA, tB, tC, tD, tE, tF])
         (refine tu 24 ?_; simp only [Act.put, tA, tB, tC, tD, tE, tF])
         (refine tu 25 ?_; simp only [Act.put, tA, tB, tC, tD, tE, tF])
         (refine tu 26 ?_; simp only [Act.put, tA, tB, tC, tD, tE, tF])
         (refine tu 27 ?_; simp only [Act.put, tA, tB, tC, tD, tE, tF])
         (refine tu 28 ?_; simp only [Act.put, tA, tB, tC, tD, tE, tF])
         (refine tu 29 ?_; simp only [Act.put, tA, tB, tC, tD, tE, tF])
         (refine ti 30 ?_; simp only [Act.put, tA, tB, tC, tD, tE, tF])
         refine wpAnyH_done (by kernel_rfl) ?_ _
         have HR : Hid (false = sbB b) := HNo.out (fun h => by rw [h.1.1] at ht; cases ht)
         go_wp2
         go_ret
         exact ⟨ret_bool HR.out, HB2.out⟩
        ·rw [ht] at HC
         go_wp2
         refine wp_region_held_drew (S := fun w' => w'.cell? ⟨w.heap.size, 0, none⟩ = some (.slice b.va b.vs.length b.vc) ∧ w'.cell? ⟨w.heap.size, 1, none⟩ = some (.slice b.pa b.ps.length b.pc) ∧ w'.cell? ⟨w.heap.size, 2, none⟩ = some (.slice (some ⟨b0, o, none⟩) b.qs.length b.qc) ∧ w'.cell? ⟨w.heap.size, 3, none⟩ = some (.int .i64 b.cs) ∧ w'.cell? ⟨w.heap.size, 4, none⟩ = some (.int .i64 b.nx) ∧ w'.cell? ⟨wr.heap.size, 0, none⟩ = some (.int .i64 x.t.id) ∧ w'.cell? ⟨wr.heap.size, 1, none⟩ = some (.int .i64 x.t.st) ∧ w'.cell? ⟨wr.heap.size, 2, none⟩ = some (.int .i64 x.t.snap) ∧ w'.cell? ⟨wr.heap.size, 3, none⟩ = some (.int .i64 x.t.cs) ∧ w'.cell? ⟨wr.heap.size, 4, none⟩ = some (.slice x.ra x.t.rs.length x.rc) ∧ w'.cell? ⟨wr.heap.size, 5, none⟩ = some (.slice x.wa x.t.ws.length x.wc) ∧ w'.cell? ⟨wr.heap.size, 6, none⟩ = some (.bool x.t.out) ∧ w'.cell? ⟨wr.heap.size, 7, none⟩ = some (.string x.t.nm) ∧ w'.cell? ⟨b0, o + p * 8 + 7, none⟩ = some (.string y.t.nm)) (by kernel_rfl) ⟨BA1.out.c0, BA1.out.c1, BA1.out.c2, BA1.out.c3, BA1.out.c4, BX1.out.c0, BX1.out.c1, BX1.out.c2, BX1.out.c3, BX1.out.c4, BX1.out.c5, BX1.out.c6, BX1.out.c7, PC1.out⟩ (fun hHeld => ?_)
         (refine ti 0 ?_; simp only [Act.put, tA, tB, tD, tE, tF])
         refine wpAnyH_ready (rs := [1]) (by kernel_rfl) (by simp) ?_
         refine AllReadyH.cons rfl (fun K hK => ?_) AllReadyH.nil
         go_simp
         go_wp2_with fail
         refine (HC.out).mono ?_
         rintro e w2 ⟨rfl, hb9⟩
         have hb := undrew hb9
         have HB2 : Hid (Below w.heap.size w w2) := HB1.out.trans (hb.mono HB1.out.size)
         have BA2 : Hid (Bx w2 w.heap.size [.slice b.va b.vs.length b.vc, .slice b.pa b.ps.length b.pc, .slice (some ⟨b0, o, none⟩) b.qs.length b.qc, .int .i64 b.cs, .int .i64 b.nx]) := BA1.out.below hb
         have BX2 : Hid (Bx w2 wr.heap.size [.int .i64 x.t.id, .int .i64 x.t.st, .int .i64 x.t.snap, .int .i64 x.t.cs, .slice x.ra x.t.rs.length x.rc, .slice x.wa x.t.ws.length x.wc, .bool x.t.out, .string x.t.nm]) := BX1.out.below hb
         have O2 := hide (O1.out.below hb)
         have PC2 : Hid (w2.cell? ⟨b0, o + p * 8 + 7, none⟩ = some (.string y.t.nm)) := (hb.cell (p := ⟨b0, o + p * 8 + 7, none⟩) hbl1).trans PC1.out
         clear hb hb9
         go_wp2_with fail
         refine hK.out _ _ ⟨BA2.out.c0, BA2.out.c1, BA2.out.c2, BA2.out.c3, BA2.out.c4, BX2.out.c0, BX2.out.c1, BX2.out.c2, BX2.out.c3, BX2.out.c4, BX2.out.c5, BX2.out.c6, BX2.out.c7, PC2.out⟩ (fun hHeld2 => ?_)
         clear hK K
         (refine ti 2 ?_; simp only [Act.put, tA, tB, tC, tD, tE, tF])
         (refine ti 3 ?_; simp only [Act.put, tA, tB, tC, tD, tE, tF])
         (refine ti 4 ?_; simp only [Act.put, tA, tB, tC, tD, tE, tF])
         (refine ti 5 ?_; simp only [Act.put, tA, tB, tC, tD, tE, tF])
         cases h6 : (x.t.st != 2)
         ·(refine ti 6 ?_; simp only [Act.put, tA, tB, tC, tD, tE, tF])
          (refine ti 7 ?_; simp only [Act.put, tA, tB, tC, tD, tE, tF])
          (refine ti 8 ?_; simp only [Act.put, tA, tB, tC, tD, tE, tF])
          (refine ti 9 ?_; simp only [Act.put, tA, tB, tC, tD, tE, tF])
          (refine ti 10 ?_; simp only [Act.put, tA, tB, tC, tD, tE, tF])
          (refine ti 11 ?_; simp only [Act.put, tA, tB, tC, tD, tE, tF])
          (refine ti 12 ?_; simp only [Act.put, tA, tB, tC, tD, tE, tF])
          cases h13 : decide (b.cs < x.t.snap)
          ·(refine ti 13 ?_; simp only [Act.put, tA, tB, tC, tD, tE, tF])
           (refine ti 14 ?_; simp only [Act.put, tA, tB, tC, tD, tE, tF])
           (refine ti 15 ?_; simp only [Act.put, tA, tB, tC, tD, tE, tF])
           (refine ti 16 ?_; simp only [Act.put, tA, tB, tC, tD, tE, tF])
           (refine ti 17 ?_; simp only [Act.put, tA, tB, tC, tD, tE, tF])
           (refine ti 18 ?_; simp only [Act.put, tA, tB, tC, tD, tE, tF])
           (refine ti 19 ?_; simp only [Act.put, tA, tB, tC, tD, tE, tF])
           (refine ti 20 ?_; simp only [Act.put, tA, tB, tC, tD, tE, tF])
           (refine ti 21 ?_; simp only [Act.put, tA, tB, tC, tD, tE, tF])
           (refine ti 22 ?_; simp only [Act.put, tA, tB, tC, tD, tE, tF])
           (refine ti 23 ?_; simp only [Act.put, tA, tB, tC, tD, tE, tF])
           (refine ti 24 ?_; simp only [Act.put, tA, tB, tC, tD, tE, tF])
           (refine ti 25 ?_; simp only [Act.put, tA, tB, tC, tD, tE, tF])
           (refine ti 26 ?_; simp only [Act.put, tA, tB, tC, tD, tE, tF])
           (refine ti 27 ?_; simp only [Act.put, tA, tB, tC, tD, tE, tF])
           cases h28 : Op.bytesLess y.t.nm.toList x.t.nm.toList
           ·(refine ti 28 ?_; simp only [Act.put, tA, tB, tC, tD, tE, tF])
            (refine ti 29 ?_; simp only [Act.put, tA, tB, tC, tD, tE, tF])
            (refine ti 30 ?_; simp only [Act.put, tA, tB, tC, tD, tE, tF])
            refine wpAnyH_done (by kernel_rfl) ?_ _
            have HR : Hid (false = sbB b) := HNo.out (fun h => by have h9 := h.2 hk0; rw [h28] at h9; cases h9)
            go_wp2
            go_ret
            exact ⟨ret_bool HR.out, HB2.out⟩
           ·(refine ti 28 ?_; simp only [Act.put, tA, tB, tC, tD, tE, tF])
            (refine ti 29 ?_; simp only [Act.put, tA, tB, tC, tD, tE, tF])
            (refine ti 30 ?_; simp only [Act.put, tA, tB, tC, tD, tE, tF])
            refine wpAnyH_done (by kernel_rfl) ?_ _
            have hgd := HGd.out ⟨⟨ht, by simpa using h6, by simpa using h13⟩, fun _ => h28⟩
            clear HGd HNo
            clear ht h6 h13
            have x0 := BX2.out.c0
            have hsz2 := BA2.out.lt
            have HBK : Hid ((w2.alloc (.cells #[.int .i64 x.t.id] 3)).heap[w2.heap.size]? = some (.cells (encI.enc x.t.id).toArray 3 (0, 0))) := heap_alloc_new w2 _
            have O2a := hide (O2.out.alloc (.cells #[.int .i64 x.t.id] 3))
            go_wp2_with (at_builtin; refine wpAppK (E := encI) 158 3 8 _ Tryz.underlying158 Tryz.info3 rfl (by omega) rfl _ _ rfl x.t.id oneI rfl O2a.out rfl HBK.out hln (by simp; omega) ?_)
            intro g' cap w3 ho3 hg3 hg4 hlt3
            have hb3 : Below (w.heap.size + 1) w2 w3 := ((Below.refl _ _).alloc (Nat.succ_le_of_lt hsz2) _).trans ((Below.refl _ _).grown hg3 (by simp; omega) (fun j hj => (World.ownsRow.lt O2a.out j hj).1))
            have O3 : Hid (GOwn encI 3 w3 (w.heap.size + 1) (.slice (some ⟨g', 0, none⟩) (F.length + 1) cap) (F ++ [x.t.id])) := ho3
            have HB3 : Hid (Below w.heap.size w w3) := HB2.out.trans (hb3.mono (Nat.le_succ _))
            have BA3 := hide (bx_low BA2.out hb3 (Nat.lt_succ_self _))
            have HGD := hide hgd
            clear ho3 hb3 hg3 hg4 hlt3 O2a O2 HBK x0 hgd
            go_wp2
            go_roundw
            case rel => exact ⟨k + 1, by omega, by go_num, HGD, by rw [HNX.out]; exact O3, HB3, by rw [HADR.out]; exact BA3⟩
            case measure => simp [intOf]; omega
          ·(refine ti 13 ?_; simp only [Act.put, tA, tB, tC, tD, tE, tF])
           (refine ti 14 ?_; simp only [Act.put, tA, tB, tC, tD, tE, tF])
           (refine ti 15 ?_; simp only [Act.put, tA, tB, tC, tD, tE, tF])
           (refine tu 16 ?_; simp only [Act.put, tA, tB, tC, tD, tE, tF])
           (refine tu 17 ?_; simp only [Act.put, tA, tB, tC, tD, tE, tF])
           (refine tu 18 ?_; simp only [Act.put, tA, tB, tC, tD, tE, tF])
           (refine tu 19 ?_; simp only [Act.put, tA, tB, tC, tD, tE, tF])
           (refine tu 20 ?_; simp only [Act.put, tA, tB, tC, tD, tE, tF])
           (refine tu 21 ?_; simp only [Act.put, tA, tB, tC, tD, tE, tF])
           (refine tu 22 ?_; simp only [Act.put, tA, tB, tC, tD, tE, tF])
           (refine tu 23 ?_; simp only [Act.put, tA, tB, tC, tD, tE, tF])
           (refine tu 24 ?_; simp only [Act.put, tA, tB, tC, tD, tE, tF])
           (refine tu 25 ?_; simp only [Act.put, tA, tB, tC, tD, tE, tF])
           (refine tu 26 ?_; simp only [Act.put, tA, tB, tC, tD, tE, tF])
           (refine tu 27 ?_; simp only [Act.put, tA, tB, tC, tD, tE, tF])
           (refine tu 28 ?_; simp only [Act.put, tA, tB, tC, tD, tE, tF])
           (refine tu 29 ?_; simp only [Act.put, tA, tB, tC, tD, tE, tF])
           (refine ti 30 ?_; simp only [Act.put, tA, tB, tC, tD, tE, tF])
           refine wpAnyH_done (by kernel_rfl) ?_ _
           have HR : Hid (false = sbB b) := HNo.out (fun h => by have h9 := h.1.2.2; have h8 : b.cs < x.t.snap := (by simpa using h13); omega)
           go_wp2
           go_ret
           exact ⟨ret_bool HR.out, HB2.out⟩
         ·(refine ti 6 ?_; simp only [Act.put, tA, tB, tC, tD, tE, tF])
          (refine ti 7 ?_; simp only [Act.put, tA, tB, tC, tD, tE, tF])
          (refine ti 8 ?_; simp only [Act.put, tA, tB, tC, tD, tE, tF])
          (refine tu 9 ?_; simp only [Act.put, tA, tB, tC, tD, tE, tF])
          (refine tu 10 ?_; simp only [Act.put, tA, tB, tC, tD, tE, tF])
          (refine tu 11 ?_; simp only [Act.put, tA, tB, tC, tD, tE, tF])
          (refine tu 12 ?_; simp only [Act.put, tA, tB, tC, tD, tE, tF])
          (refine tu 13 ?_; simp only [Act.put, tA, tB, tC, tD, tE, tF])
          (refine ti 14 ?_; simp only [Act.put, tA, tB, tC, tD, tE, tF])
          (refine ti 15 ?_; simp only [Act.put, tA, tB, tC, tD, tE, tF])
          (refine tu 16 ?_; simp only [Act.put, tA, tB, tC, tD, tE, tF])
          (refine tu 17 ?_; simp only [Act.put, tA, tB, tC, tD, tE, tF])
          (refine tu 18 ?_; simp only [Act.put, tA, tB, tC, tD, tE, tF])
          (refine tu 19 ?_; simp only [Act.put, tA, tB, tC, tD, tE, tF])
          (refine tu 20 ?_; simp only [Act.put, tA, tB, tC, tD, tE, tF])
          (refine tu 21 ?_; simp only [Act.put, tA, tB, tC, tD, tE, tF])
          (refine tu 22 ?_; simp only [Act.put, tA, tB, tC, tD, tE, tF])
          (refine tu 23 ?_; simp only [Act.put, tA, tB, tC, tD, tE, tF])
          (refine tu 24 ?_; simp only [Act.put, tA, tB, tC, tD, tE, tF])
          (refine tu 25 ?_; simp only [Act.put, tA, tB, tC, tD, tE, tF])
          (refine tu 26 ?_; simp only [Act.put, tA, tB, tC, tD, tE, tF])
          (refine tu 27 ?_; simp only [Act.put, tA, tB, tC, tD, tE, tF])
          (refine tu 28 ?_; simp only [Act.put, tA, tB, tC, tD, tE, tF])
          (refine tu 29 ?_; simp only [Act.put, tA, tB, tC, tD, tE, tF])
          (refine ti 30 ?_; simp only [Act.put, tA, tB, tC, tD, tE, tF])
          refine wpAnyH_done (by kernel_rfl) ?_ _
          have HR : Hid (false = sbB b) := HNo.out (fun h => by rw [h.1.2.1] at h6; simp at h6)
          go_wp2
          go_ret
          exact ⟨ret_bool HR.out, HB2.out⟩
       ·have hkd : decide ((0 : Int) < (k : Int)) = false := decide_eq_false (by omega)
        have hkd' : ¬ (0 : Int) < (k : Int) := by omega
        have HGd : Hid ((txnB b.qs[k].t = true ∧ b.qs[k].t.st = 2 ∧ b.qs[k].t.snap ≤ b.cs) ∧ (0 < k → False) → rdyK b.qs b.cs (k + 1)) := fun h => rdy_more HG.out hlt ⟨h.1, fun h0 => absurd h0 hk0⟩
        have HNo : Hid (¬ ((txnB b.qs[k].t = true ∧ b.qs[k].t.st = 2 ∧ b.qs[k].t.snap ≤ b.cs) ∧ (0 < k → False)) → false = sbB b) := fun h => sb_no fun g => h ⟨(g.2.2.2.2.2.2.2.1 k hlt).1, fun h0 => absurd h0 hk0⟩
        obtain ⟨x, hx⟩ : ∃ x, x = b.qs[k] := ⟨_, rfl⟩
        rw [← hx] at hc HNX hfx hrow HGd HNo
        clear hx HG
        have r0 := hc.c0
        have r1 := hc.c1
        have r2 := hc.c2
        have r3 := hc.c3
        have r4 := hc.c4
        have r5 := hc.c5
        have r6 := hc.c6
        have r7 := hc.c7
        clear hc
        obtain ⟨F, hF⟩ : ∃ F, F = ((b.ps.map fun x : Ta => x.t.id) ++ ((b.qs.take k).map fun x : Ta => x.t.id)) := ⟨_, rfl⟩
        rw [← hF] at HO HNX HLn
        clear hF
        have hln := HLn.out
        have BAx := BA.out
        rw [hadr] at BAx
        have HADR := hide hadr
        clear hadr
        have HB1 : Hid (Below w.heap.size w (wr.alloc (.cells #[.int .i64 x.t.id, .int .i64 x.t.st, .int .i64 x.t.snap, .int .i64 x.t.cs, .slice x.ra x.t.rs.length x.rc, .slice x.wa x.t.ws.length x.wc, .bool x.t.out, .string x.t.nm] 38))) := HB.out.alloc HB.out.size _
        have BX1 : Hid (Bx (wr.alloc (.cells #[.int .i64 x.t.id, .int .i64 x.t.st, .int .i64 x.t.snap, .int .i64 x.t.cs, .slice x.ra x.t.rs.length x.rc, .slice x.wa x.t.ws.length x.wc, .bool x.t.out, .string x.t.nm] 38)) wr.heap.size [.int .i64 x.t.id, .int .i64 x.t.st, .int .i64 x.t.snap, .int .i64 x.t.cs, .slice x.ra x.t.rs.length x.rc, .slice x.wa x.t.ws.length x.wc, .bool x.t.out, .string x.t.nm]) := Bx.new wr [.int .i64 x.t.id, .int .i64 x.t.st, .int .i64 x.t.snap, .int .i64 x.t.cs, .slice x.ra x.t.rs.length x.rc, .slice x.wa x.t.ws.length x.wc, .bool x.t.out, .string x.t.nm] 38
        have BA1 : Hid (Bx (wr.alloc (.cells #[.int .i64 x.t.id, .int .i64 x.t.st, .int .i64 x.t.snap, .int .i64 x.t.cs, .slice x.ra x.t.rs.length x.rc, .slice x.wa x.t.ws.length x.wc, .bool x.t.out, .string x.t.nm] 38)) w.heap.size [.slice b.va b.vs.length b.vc, .slice b.pa b.ps.length b.pc, .slice (some ⟨b0, o, none⟩) b.qs.length b.qc, .int .i64 b.cs, .int .i64 b.nx]) := BAx.alloc _
        have O1 := hide (HO.out.alloc (.cells #[.int .i64 x.t.id, .int .i64 x.t.st, .int .i64 x.t.snap, .int .i64 x.t.cs, .slice x.ra x.t.rs.length x.rc, .slice x.wa x.t.ws.length x.wc, .bool x.t.out, .string x.t.nm] 38))
        have HC0 := hide (stxn x.t x.ra x.wa x.rc x.wc hfx (wr.alloc (.cells #[.int .i64 x.t.id, .int .i64 x.t.st, .int .i64 x.t.snap, .int .i64 x.t.cs, .slice x.ra x.t.rs.length x.rc, .slice x.wa x.t.ws.length x.wc, .bool x.t.out, .string x.t.nm] 38)).drew ((hrow.below ((belowRefl wr).alloc (Nat.le_refl _) _)).drewT))
        have xl := BAx.c2
        clear hfx hrow BA BAx
        go_upto_region 20 with fail
        clear r0 r1 r2 r3 r4 r5 r6 r7 xl HO HB
        have HC := HC0
        clear HC0
        cases ht : txnB x.t
        ·rw [ht] at HC
         go_wp2
         refine wp_region_held_drew (S := fun w' => w'.cell? ⟨w.heap.size, 0, none⟩ = some (.slice b.va b.vs.length b.vc) ∧ w'.cell? ⟨w.heap.size, 1, none⟩ = some (.slice b.pa b.ps.length b.pc) ∧ w'.cell? ⟨w.heap.size, 2, none⟩ = some (.slice (some ⟨b0, o, none⟩) b.qs.length b.qc) ∧ w'.cell? ⟨w.heap.size, 3, none⟩ = some (.int .i64 b.cs) ∧ w'.cell? ⟨w.heap.size, 4, none⟩ = some (.int .i64 b.nx) ∧ w'.cell? ⟨wr.heap.size, 0, none⟩ = some (.int .i64 x.t.id) ∧ w'.cell? ⟨wr.heap.size, 1, none⟩ = some (.int .i64 x.t.st) ∧ w'.cell? ⟨wr.heap.size, 2, none⟩ = some (.int .i64 x.t.snap) ∧ w'.cell? ⟨wr.heap.size, 3, none⟩ = some (.int .i64 x.t.cs) ∧ w'.cell? ⟨wr.heap.size, 4, none⟩ = some (.slice x.ra x.t.rs.length x.rc) ∧ w'.cell? ⟨wr.heap.size, 5, none⟩ = some (.slice x.wa x.t.ws.length x.wc) ∧ w'.cell? ⟨wr.heap.size, 6, none⟩ = some (.bool x.t.out) ∧ w'.cell? ⟨wr.heap.size, 7, none⟩ = some (.string x.t.nm)) (by kernel_rfl) ⟨BA1.out.c0, BA1.out.c1, BA1.out.c2, BA1.out.c3, BA1.out.c4, BX1.out.c0, BX1.out.c1, BX1.out.c2, BX1.out.c3, BX1.out.c4, BX1.out.c5, BX1.out.c6, BX1.out.c7⟩ (fun hHeld => ?_)
         (refine ti 0 ?_; simp only [Act.put, tA, tB, tD, tE, tF])
         refine wpAnyH_ready (rs := [1]) (by kernel_rfl) (by simp) ?_
         refine AllReadyH.cons rfl (fun K hK => ?_) AllReadyH.nil
         go_simp
         go_wp2_with fail
         refine (HC.out).mono ?_
         rintro e w2 ⟨rfl, hb9⟩
         have hb := undrew hb9
         have HB2 : Hid (Below w.heap.size w w2) := HB1.out.trans (hb.mono HB1.out.size)
         have BA2 : Hid (Bx w2 w.heap.size [.slice b.va b.vs.length b.vc, .slice b.pa b.ps.length b.pc, .slice (some ⟨b0, o, none⟩) b.qs.length b.qc, .int .i64 b.cs, .int .i64 b.nx]) := BA1.out.below hb
         have BX2 : Hid (Bx w2 wr.heap.size [.int .i64 x.t.id, .int .i64 x.t.st, .int .i64 x.t.snap, .int .i64 x.t.cs, .slice x.ra x.t.rs.length x.rc, .slice x.wa x.t.ws.length x.wc, .bool x.t.out, .string x.t.nm]) := BX1.out.below hb
         have O2 := hide (O1.out.below hb)
         clear hb hb9
         go_wp2_with fail
         refine hK.out _ _ ⟨BA2.out.c0, BA2.out.c1, BA2.out.c2, BA2.out.c3, BA2.out.c4, BX2.out.c0, BX2.out.c1, BX2.out.c2, BX2.out.c3, BX2.out.c4, BX2.out.c5, BX2.out.c6, BX2.out.c7⟩ (fun hHeld2 => ?_)
         clear hK K
         (refine ti 2 ?_; simp only [Act.put, tA, tB, tC, tD, tE, tF])
         (refine ti 3 ?_; simp only [Act.put, tA, tB, tC, tD, tE, tF])
         (refine tu 4 ?_; simp only [Act.put, tA, tB, tC, tD, tE, tF])
         (refine tu 5 ?_; simp only [Act.put, tA, tB, tC, tD, tE, tF])
         (refine tu 6 ?_; simp only [Act.put, tA, tB, tC, tD, tE, tF])
         (refine ti 7 ?_; simp only [Act.put, tA, tB, tC, tD, tE, tF])
         (refine ti 8 ?_; simp only [Act.put, tA, tB, tC, tD, tE, tF])
         (refine tu 9 ?_; simp only [Act.put, tA, tB, tC, tD, tE, tF])
         (refine tu 10 ?_; simp only [Act.put, tA, tB, tC, tD, tE, tF])
         (refine tu 11 ?_; simp only [Act.put, tA, tB, tC, tD, tE, tF])
         (refine tu 12 ?_; simp only [Act.put, tA, tB, tC, tD, tE, tF])
         (refine tu 13 ?_; simp only [Act.put, tA, tB, tC, tD, tE, tF])
         (refine ti 14 ?_; simp only [Act.put, tA, tB, tC, tD, tE, tF])
         (refine ti 15 ?_; simp only [Act.put, tA, tB, tC, tD, tE, tF])
         (refine tu 16 ?_; simp only [Act.put, tA, tB, tC, tD, tE, tF])
         (refine tu 17 ?_; simp only [Act.put, tA, tB, tC, tD, tE, tF])
         (refine tu 18 ?_; simp only [Act.put, tA, tB, tC, tD, tE, tF])
         (refine tu 19 ?_; simp only [Act.put, tA, tB, tC, tD, tE, tF])
         (refine tu 20 ?_; simp only [Act.put, tA, tB, tC, tD, tE, tF])
         (refine tu 21 ?_; simp only [Act.put, tA, tB, tC, tD, tE, tF])
         (refine tu 22 ?_; simp only [Act.put, tA, tB, tC, tD, tE, tF])
         (refine tu 23 ?_; simp only [Act.put, tA, tB, tC, tD, tE, tF])
         (refine tu 24 ?_; simp only [Act.put, tA, tB, tC, tD, tE, tF])
         (refine tu 25 ?_; simp only [Act.put, tA, tB, tC, tD, tE, tF])
         (refine tu 26 ?_; simp only [Act.put, tA, tB, tC, tD, tE, tF])
         (refine tu 27 ?_; simp only [Act.put, tA, tB, tC, tD, tE, tF])
         (refine tu 28 ?_; simp only [Act.put, tA, tB, tC, tD, tE, tF])
         (refine tu 29 ?_; simp only [Act.put, tA, tB, tC, tD, tE, tF])
         (refine ti 30 ?_; simp only [Act.put, tA, tB, tC, tD, tE, tF])
         refine wpAnyH_done (by kernel_rfl) ?_ _
         have HR : Hid (false = sbB b) := HNo.out (fun h => by rw [h.1.1] at ht; cases ht)
         go_wp2
         go_ret
         exact ⟨ret_bool HR.out, HB2.out⟩
        ·rw [ht] at HC
         go_wp2
         refine wp_region_held_drew (S := fun w' => w'.cell? ⟨w.heap.size, 0, none⟩ = some (.slice b.va b.vs.length b.vc) ∧ w'.cell? ⟨w.heap.size, 1, none⟩ = some (.slice b.pa b.ps.length b.pc) ∧ w'.cell? ⟨w.heap.size, 2, none⟩ = some (.slice (some ⟨b0, o, none⟩) b.qs.length b.qc) ∧ w'.cell? ⟨w.heap.size, 3, none⟩ = some (.int .i64 b.cs) ∧ w'.cell? ⟨w.heap.size, 4, none⟩ = some (.int .i64 b.nx) ∧ w'.cell? ⟨wr.heap.size, 0, none⟩ = some (.int .i64 x.t.id) ∧ w'.cell? ⟨wr.heap.size, 1, none⟩ = some (.int .i64 x.t.st) ∧ w'.cell? ⟨wr.heap.size, 2, none⟩ = some (.int .i64 x.t.snap) ∧ w'.cell? ⟨wr.heap.size, 3, none⟩ = some (.int .i64 x.t.cs) ∧ w'.cell? ⟨wr.heap.size, 4, none⟩ = some (.slice x.ra x.t.rs.length x.rc) ∧ w'.cell? ⟨wr.heap.size, 5, none⟩ = some (.slice x.wa x.t.ws.length x.wc) ∧ w'.cell? ⟨wr.heap.size, 6, none⟩ = some (.bool x.t.out) ∧ w'.cell? ⟨wr.heap.size, 7, none⟩ = some (.string x.t.nm)) (by kernel_rfl) ⟨BA1.out.c0, BA1.out.c1, BA1.out.c2, BA1.out.c3, BA1.out.c4, BX1.out.c0, BX1.out.c1, BX1.out.c2, BX1.out.c3, BX1.out.c4, BX1.out.c5, BX1.out.c6, BX1.out.c7⟩ (fun hHeld => ?_)
         (refine ti 0 ?_; simp only [Act.put, tA, tB, tD, tE, tF])
         refine wpAnyH_ready (rs := [1]) (by kernel_rfl) (by simp) ?_
         refine AllReadyH.cons rfl (fun K hK => ?_) AllReadyH.nil
         go_simp
         go_wp2_with fail
         refine (HC.out).mono ?_
         rintro e w2 ⟨rfl, hb9⟩
         have hb := undrew hb9
         have HB2 : Hid (Below w.heap.size w w2) := HB1.out.trans (hb.mono HB1.out.size)
         have BA2 : Hid (Bx w2 w.heap.size [.slice b.va b.vs.length b.vc, .slice b.pa b.ps.length b.pc, .slice (some ⟨b0, o, none⟩) b.qs.length b.qc, .int .i64 b.cs, .int .i64 b.nx]) := BA1.out.below hb
         have BX2 : Hid (Bx w2 wr.heap.size [.int .i64 x.t.id, .int .i64 x.t.st, .int .i64 x.t.snap, .int .i64 x.t.cs, .slice x.ra x.t.rs.length x.rc, .slice x.wa x.t.ws.length x.wc, .bool x.t.out, .string x.t.nm]) := BX1.out.below hb
         have O2 := hide (O1.out.below hb)
         clear hb hb9
         go_wp2_with fail
         refine hK.out _ _ ⟨BA2.out.c0, BA2.out.c1, BA2.out.c2, BA2.out.c3, BA2.out.c4, BX2.out.c0, BX2.out.c1, BX2.out.c2, BX2.out.c3, BX2.out.c4, BX2.out.c5, BX2.out.c6, BX2.out.c7⟩ (fun hHeld2 => ?_)
         clear hK K
         (refine ti 2 ?_; simp only [Act.put, tA, tB, tC, tD, tE, tF])
         (refine ti 3 ?_; simp only [Act.put, tA, tB, tC, tD, tE, tF])
         (refine ti 4 ?_; simp only [Act.put, tA, tB, tC, tD, tE, tF])
         (refine ti 5 ?_; simp only [Act.put, tA, tB, tC, tD, tE, tF])
         cases h6 : (x.t.st != 2)
         ·(refine ti 6 ?_; simp only [Act.put, tA, tB, tC, tD, tE, tF])
          (refine ti 7 ?_; simp only [Act.put, tA, tB, tC, tD, tE, tF])
          (refine ti 8 ?_; simp only [Act.put, tA, tB, tC, tD, tE, tF])
          (refine ti 9 ?_; simp only [Act.put, tA, tB, tC, tD, tE, tF])
          (refine ti 10 ?_; simp only [Act.put, tA, tB, tC, tD, tE, tF])
          (refine ti 11 ?_; simp only [Act.put, tA, tB, tC, tD, tE, tF])
          (refine ti 12 ?_; simp only [Act.put, tA, tB, tC, tD, tE, tF])
          cases h13 : decide (b.cs < x.t.snap)
          ·(refine ti 13 ?_; simp only [Act.put, tA, tB, tC, tD, tE, tF])
           (refine ti 14 ?_; simp only [Act.put, tA, tB, tC, tD, tE, tF])
           (refine ti 15 ?_; simp only [Act.put, tA, tB, tC, tD, tE, tF])
           (refine ti 16 ?_; simp only [Act.put, tA, tB, tC, tD, tE, tF])
           (refine ti 17 ?_; simp only [Act.put, tA, tB, tC, tD, tE, tF])
           (refine ti 18 ?_; simp only [Act.put, tA, tB, tC, tD, tE, tF])
           (refine tu 19 ?_; simp only [Act.put, tA, tB, tC, tD, tE, tF])
           (refine tu 20 ?_; simp only [Act.put, tA, tB, tC, tD, tE, tF])
           (refine tu 21 ?_; simp only [Act.put, tA, tB, tC, tD, tE, tF])
           (refine tu 22 ?_; simp only [Act.put, tA, tB, tC, tD, tE, tF])
           (refine tu 23 ?_; simp only [Act.put, tA, tB, tC, tD, tE, tF])
           (refine tu 24 ?_; simp only [Act.put, tA, tB, tC, tD, tE, tF])
           (refine tu 25 ?_; simp only [Act.put, tA, tB, tC, tD, tE, tF])
           (refine tu 26 ?_; simp only [Act.put, tA, tB, tC, tD, tE, tF])
           (refine tu 27 ?_; simp only [Act.put, tA, tB, tC, tD, tE, tF])
           (refine tu 28 ?_; simp only [Act.put, tA, tB, tC, tD, tE, tF])
           (refine ti 29 ?_; simp only [Act.put, tA, tB, tC, tD, tE, tF])
           (refine ti 30 ?_; simp only [Act.put, tA, tB, tC, tD, tE, tF])
           refine wpAnyH_done (by kernel_rfl) ?_ _
           have hgd := HGd.out ⟨⟨ht, by simpa using h6, by simpa using h13⟩, fun h0 => by omega⟩
           clear HGd HNo
           clear ht h6 h13
           have x0 := BX2.out.c0
           have hsz2 := BA2.out.lt
           have HBK : Hid ((w2.alloc (.cells #[.int .i64 x.t.id] 3)).heap[w2.heap.size]? = some (.cells (encI.enc x.t.id).toArray 3 (0, 0))) := heap_alloc_new w2 _
           have O2a := hide (O2.out.alloc (.cells #[.int .i64 x.t.id] 3))
           go_wp2_with (at_builtin; refine wpAppK (E := encI) 158 3 8 _ Tryz.underlying158 Tryz.info3 rfl (by omega) rfl _ _ rfl x.t.id oneI rfl O2a.out rfl HBK.out hln (by simp; omega) ?_)
           intro g' cap w3 ho3 hg3 hg4 hlt3
           have hb3 : Below (w.heap.size + 1) w2 w3 := ((Below.refl _ _).alloc (Nat.succ_le_of_lt hsz2) _).trans ((Below.refl _ _).grown hg3 (by simp; omega) (fun j hj => (World.ownsRow.lt O2a.out j hj).1))
           have O3 : Hid (GOwn encI 3 w3 (w.heap.size + 1) (.slice (some ⟨g', 0, none⟩) (F.length + 1) cap) (F ++ [x.t.id])) := ho3
           have HB3 : Hid (Below w.heap.size w w3) := HB2.out.trans (hb3.mono (Nat.le_succ _))
           have BA3 := hide (bx_low BA2.out hb3 (Nat.lt_succ_self _))
           have HGD := hide hgd
           clear ho3 hb3 hg3 hg4 hlt3 O2a O2 HBK x0 hgd
           go_wp2
           go_roundw
           case rel => exact ⟨k + 1, by omega, by go_num, HGD, by rw [HNX.out]; exact O3, HB3, by rw [HADR.out]; exact BA3⟩
           case measure => simp [intOf]; omega
          ·(refine ti 13 ?_; simp only [Act.put, tA, tB, tC, tD, tE, tF])
           (refine ti 14 ?_; simp only [Act.put, tA, tB, tC, tD, tE, tF])
           (refine ti 15 ?_; simp only [Act.put, tA, tB, tC, tD, tE, tF])
           (refine tu 16 ?_; simp only [Act.put, tA, tB, tC, tD, tE, tF])
           (refine tu 17 ?_; simp only [Act.put, tA, tB, tC, tD, tE, tF])
           (refine tu 18 ?_; simp only [Act.put, tA, tB, tC, tD, tE, tF])
           (refine tu 19 ?_; simp only [Act.put, tA, tB, tC, tD, tE, tF])
           (refine tu 20 ?_; simp only [Act.put, tA, tB, tC, tD, tE, tF])
           (refine tu 21 ?_; simp only [Act.put, tA, tB, tC, tD, tE, tF])
           (refine tu 22 ?_; simp only [Act.put, tA, tB, tC, tD, tE, tF])
           (refine tu 23 ?_; simp only [Act.put, tA, tB, tC, tD, tE, tF])
           (refine tu 24 ?_; simp only [Act.put, tA, tB, tC, tD, tE, tF])
           (refine tu 25 ?_; simp only [Act.put, tA, tB, tC, tD, tE, tF])
           (refine tu 26 ?_; simp only [Act.put, tA, tB, tC, tD, tE, tF])
           (refine tu 27 ?_; simp only [Act.put, tA, tB, tC, tD, tE, tF])
           (refine tu 28 ?_; simp only [Act.put, tA, tB, tC, tD, tE, tF])
           (refine tu 29 ?_; simp only [Act.put, tA, tB, tC, tD, tE, tF])
           (refine ti 30 ?_; simp only [Act.put, tA, tB, tC, tD, tE, tF])
           refine wpAnyH_done (by kernel_rfl) ?_ _
           have HR : Hid (false = sbB b) := HNo.out (fun h => by have h9 := h.1.2.2; have h8 : b.cs < x.t.snap := (by simpa using h13); omega)
           go_wp2
           go_ret
           exact ⟨ret_bool HR.out, HB2.out⟩
         ·(refine ti 6 ?_; simp only [Act.put, tA, tB, tC, tD, tE, tF])
          (refine ti 7 ?_; simp only [Act.put, tA, tB, tC, tD, tE, tF])
          (refine ti 8 ?_; simp only [Act.put, tA, tB, tC, tD, tE, tF])
          (refine tu 9 ?_; simp only [Act.put, tA, tB, tC, tD, tE, tF])
          (refine tu 10 ?_; simp only [Act.put, tA, tB, tC, tD, tE, tF])
          (refine tu 11 ?_; simp only [Act.put, tA, tB, tC, tD, tE, tF])
          (refine tu 12 ?_; simp only [Act.put, tA, tB, tC, tD, tE, tF])
          (refine tu 13 ?_; simp only [Act.put, tA, tB, tC, tD, tE, tF])
          (refine ti 14 ?_; simp only [Act.put, tA, tB, tC, tD, tE, tF])
          (refine ti 15 ?_; simp only [Act.put, tA, tB, tC, tD, tE, tF])
          (refine tu 16 ?_; simp only [Act.put, tA, tB, tC, tD, tE, tF])
          (refine tu 17 ?_; simp only [Act.put, tA, tB, tC, tD, tE, tF])
          (refine tu 18 ?_; simp only [Act.put, tA, tB, tC, tD, tE, tF])
          (refine tu 19 ?_; simp only [Act.put, tA, tB, tC, tD, tE, tF])
          (refine tu 20 ?_; simp only [Act.put, tA, tB, tC, tD, tE, tF])
          (refine tu 21 ?_; simp only [Act.put, tA, tB, tC, tD, tE, tF])
          (refine tu 22 ?_; simp only [Act.put, tA, tB, tC, tD, tE, tF])
          (refine tu 23 ?_; simp only [Act.put, tA, tB, tC, tD, tE, tF])
          (refine tu 24 ?_; simp only [Act.put, tA, tB, tC, tD, tE, tF])
          (refine tu 25 ?_; simp only [Act.put, tA, tB, tC, tD, tE, tF])
          (refine tu 26 ?_; simp only [Act.put, tA, tB, tC, tD, tE, tF])
          (refine tu 27 ?_; simp only [Act.put, tA, tB, tC, tD, tE, tF])
          (refine tu 28 ?_; simp only [Act.put, tA, tB, tC, tD, tE, tF])
          (refine tu 29 ?_; simp only [Act.put, tA, tB, tC, tD, tE, tF])
          (refine ti 30 ?_; simp only [Act.put, tA, tB, tC, tD, tE, tF])
          refine wpAnyH_done (by kernel_rfl) ?_ _
          have HR : Hid (false = sbB b) := HNo.out (fun h => by rw [h.1.2.1] at h6; simp at h6)
          go_wp2
          go_ret
          exact ⟨ret_bool HR.out, HB2.out⟩
      ·have hd : ¬ (k : Int) < (b.qs.length : Int) := by omega
       have HE : Hid (b.qs.take k = b.qs) := List.take_of_length_le (by omega)
       rw [HE.out] at HO
       have HGqs : Hid (rdyG b.qs b.cs) := rdy_all HG.out (by omega)
       have xl := BA.out.c2
       clear HG HE hlt hk
       go_wp2
       obtain ⟨zs, hzs⟩ : ∃ zs, zs = ((b.ps.map fun x : Ta => x.t.id) ++ (b.qs.map fun x : Ta => x.t.id)) := ⟨_, rfl⟩
       rw [← hzs] at HO
       have HYes : Hid (idsG zs b.nx → true = sbB b) := fun h => sb_yes ⟨HV.out, hpl, hql, hcs, hnx, HGV.out, HGps.out, HGqs.out, by rw [hzs] at h; exact h⟩
       have HNo : Hid (¬ idsG zs b.nx → false = sbB b) := fun h => sb_no fun g => h (by rw [hzs]; exact g.2.2.2.2.2.2.2.2)
       have hzl : zs.length ≤ 100000000 := by rw [hzs, List.length_append, List.length_map, List.length_map]; omega
       clear hzs HGV HGps HGqs HV xl
       obtain ⟨za, zc, rfl, _⟩ := HO.out.row
       obtain ⟨w7, hw7⟩ : ∃ w7, w7 = wr := ⟨_, rfl⟩
       subst hw7
       go_loopw [9] (fun t wx => ∃ j : Nat, j ≤ zs.length ∧ t = .int .i64 j ∧ Hid (idsK zs b.nx j) ∧ Hid (Below w7.heap.size w7 wx)) (fun t _ => zs.length - (intOf t).toNat)
       case atStart => exact ⟨0, Nat.zero_le _, rfl, (fun j h hlt => by omega), belowRefl _⟩
       case round =>
        obtain ⟨j, hj, rfl, HK, HBx⟩ := hrel
        by_cases hlt : j < zs.length
        ·have hlt' : (j : Int) < (zs.length : Int) := by omega
         have h0 : (0 : Int) ≤ (j : Int) := by omega
         obtain ⟨g0, o0, rfl, hgl, hcz⟩ := HO.out.grow (by omega)
         go_wp2
         go_loopw [10] (fun t wy => ∃ k : Nat, k ≤ j ∧ t = .int .i64 k ∧ Hid (∀ i (hi : i < k) (hz : i < zs.length), zs[i] ≠ zs[j]) ∧ Hid (Below w7.heap.size w7 wy)) (fun t _ => j - (intOf t).toNat)
         case atStart => exact ⟨0, Nat.zero_le _, rfl, (fun i hi => by omega), HBx⟩
         case round =>
          obtain ⟨k, hk, rfl, HU, HBy⟩ := hrel
          by_cases hkj : k < j
          ·have hkj' : (k : Int) < (j : Int) := by omega
           have hk0 : (0 : Int) ≤ (k : Int) := by omega
           have hkz : (k : Int) < (zs.length : Int) := by omega
           have rk := (HBy.out.cell (p := ⟨g0, o0 + k, none⟩) hgl).trans (iat hcz k (by omega))
           have rj := (HBy.out.cell (p := ⟨g0, o0 + j, none⟩) hgl).trans (iat hcz j hlt)
           cases hq : (zs[k]'(by omega) == zs[j])
           ·have HU2 : Hid (∀ i (hi : i < k + 1) (hz : i < zs.length), zs[i] ≠ zs[j]) := fun i hi hz => by
             by_cases e : i = k
             ·subst e; simpa using hq
             ·exact HU.out i (by omega) hz
            go_wp2
            go_quiet (fail)
            go_wp2
            go_roundw
            case rel => exact ⟨k + 1, by omega, by go_num, HU2, below_drewN HBy.out _⟩
            case measure => simp [intOf]; omega
           ·have HR : Hid (false = sbB b) := HNo.out fun g => (g j hlt).1 k hkj (by simpa using hq)
            go_wp2
            go_quiet (fail)
            go_wp2
            go_ret
            exact ⟨ret_bool HR.out, below_drewN (HB.out.trans (HBy.out.mono HB.out.size)) _⟩
          ·have hkj' : ¬ (k : Int) < (j : Int) := by omega
           have rj := (HBy.out.cell (p := ⟨g0, o0 + j, none⟩) hgl).trans (iat hcz j hlt)
           have x4 := (BA.out.below HBy.out).c4
           have HU3 : Hid (∀ i (hi : i < j), zs[i]'(by omega) ≠ zs[j]) := fun i hi => HU.out i (by omega) (by omega)
           cases hq : decide (b.nx ≤ zs[j])
           ·have HK2 : Hid (idsK zs b.nx (j + 1)) := ids_more HK.out hlt ⟨HU3.out, by simpa using hq⟩
            clear HU HU3 HK
            go_wp2
            go_quiet (fail)
            go_wp2
            go_roundw
            case rel => exact ⟨j + 1, by omega, by go_num, HK2, below_drewN HBy.out _⟩
            case measure => simp [intOf]; omega
           ·have HR : Hid (false = sbB b) := HNo.out fun g => by have h9 := (g j hlt).2; have h8 : b.nx ≤ zs[j] := (by simpa using hq); omega
            clear HU HU3 HK
            go_wp2
            go_quiet (fail)
            go_wp2
            go_ret
            exact ⟨ret_bool HR.out, below_drewN (HB.out.trans (HBy.out.mono HB.out.size)) _⟩
        ·have hd : ¬ (j : Int) < (zs.length : Int) := by omega
         have HR : Hid (true = sbB b) := HYes.out fun i hi => HK.out i hi (by omega)
         clear HK
         go_wp2
         go_ret
         exact ⟨ret_bool HR.out, HB.out.trans (HBx.out.mono HB.out.size)⟩

end Go.Proofs.YtpnnncfbodfnhaaGreatDoor

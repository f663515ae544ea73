/- What ReadSector returns, on both sides. -/
import Derived.Test.YtmijppfppigjcaaGreatPd19
import Derived.Deep.QuietTactic
import Derived.BigQuiet
import Derived.Deep.RegionHeld3
import Derived.Deep.DrawnRows
import Derived.Test.YtmijppfppigjcaaGreatPd01
import Derived.Test.YtmijppfppigjcaaGreatPd02
import Derived.Test.YtmijppfppigjcaaGreatPd27
import Derived.Test.YtmijppfppigjcaaGreatPd29
import Derived.Laws.EntriesVeiled
import Derived.Deep.Cut
import Derived.Deep.CutRange
import Derived.Test.YtmijppfppigjcaaGreatProg
import Derived.Conc.MuData
import Derived.Conc.MuLone
import Derived.KernelRfl
namespace Go.Proofs.YtmijppfppigjcaaGreat
open Go.RowKit
open DM
attribute [local go_sem ↓] Go.wp_at_zero Go.wp_at_succ

set_option maxHeartbeats 400000 in
theorem clone54 (s : ByteArray) (hs : s.size ≤ 281474976710656) (w : World) :
  Calls Tryz.prog 41 #[.string s] w fun e w' => e = .returned (.string s) ∧ Below w.heap.size w w' := by
 go_enter Tryz.func41, Tryz.ntmps41
 go_wp2_with (go_at_call 72; refine (Tryz.stringslite_Clone s _ hs).mono ?_; rintro e w2 ⟨rfl, hb2⟩)
 go_ret
 exact ⟨rfl, hb2⟩

end Go.Proofs.YtmijppfppigjcaaGreat

namespace Go.Proofs.YtmijppfppigjcaaGreat
open Go.RowKit
open KM
open VM
attribute [local go_sem ↓] Go.wp_at_zero Go.wp_at_succ

theorem fit_thr2 {b d : Bb} {t : Tx} (hf : BFit b) (ht : TFit t) (h : ThrA b t d) (h1 : b.ps.length < 12 ∧ b.vs.length ≤ 100) : BFit d := by
 obtain ⟨h2, h3, ⟨h4, h5⟩, h6, h7⟩ := h
 have h8 := ht.2.2.1
 have h9 := hf.ql
 refine ⟨by omega, h3, ⟨by rw [txs_len]; omega, fun y hy => ?_⟩, ⟨by rw [txs_len]; omega, fun y hy => ?_⟩⟩
 ·obtain ⟨z, hz, rfl⟩ := List.mem_map.1 hy
  exact h5 z hz
 ·obtain ⟨z, hz, rfl⟩ := List.mem_map.1 hy
  exact h7 z hz
theorem kn_zn {w w' : World} {b : Nat} (h : Zn b (b + 1) w w') : Kn [b] w w' := ⟨h.os, h.tape, h.output, h.size, fun j hj hn => h.block j hj (by rw [List.mem_singleton] at hn; omega)⟩
theorem one_all {cs : List Value} (h : cs.all (·.oneCell') = true) : cs.toArray.all (·.oneCell') = true := all_oneCell_toArray (List.all_eq_true.1 h)
theorem one16 (nm : ByteArray) : ∀ v ∈ (#[.int .i64 3, .int .i64 0, .int .i64 0, .int .i64 0, .int .i64 0, .slice none 0 0, .slice none 0 0, .bool false, .string ⟨#[]⟩, .string nm, .bool true, .slice none 0 0, .slice none 0 0, .slice none 0 0, .int .i64 0, .int .i64 0] : Array Value).toList, v.oneCell' = true := List.all_eq_true.1 rfl
def FinP (c : En) (g rb : Nat) (w : World) (ex : Ending) (w' : World) : Prop := ∃ (k : Int) (va pa qa : Option Addr) (vn vc pn pc qn qc : Nat) (cs nx : Int) (rs : List Value), ex = .returned (.int .i64 k) ∧ (k = 0 ∨ k = 3) ∧ Bx w' g [.int .i32 1, .int .u32 0, .slice va vn vc, .slice pa pn pc, .slice qa qn qc, .int .i64 cs, .int .i64 nx, .slice c.oa c.os.length c.oc] ∧ Bx w' rb rs ∧ rs.length = 16 ∧ (∀ v ∈ rs, v.oneCell' = true) ∧ Kn [g, rb] w w'

set_option maxRecDepth 100000 in
set_option maxHeartbeats 8000000 in
theorem ifin1 (c : En) (hf : EnFit c) (nm : ByteArray) (hnm : nm.size ≤ 1048576) (i : Nat) (hi : i < c.b.qs.length) (hat : idxN (nms c.b.qs) nm 0 = (i : Int)) (g nb yb rb : Nat) (hne : nb ≠ g ∧ yb ≠ g ∧ rb ≠ g ∧ nb ≠ rb ∧ yb ≠ rb) (us : List Value) (hus : us.length = 16) (hu1 : ∀ v ∈ us, v.oneCell' = true) (w : World) (bg : Bx w g [.int .i32 1, .int .u32 0, .slice c.b.va c.b.vs.length c.b.vc, .slice c.b.pa c.b.ps.length c.b.pc, .slice c.b.qa c.b.qs.length c.b.qc, .int .i64 c.b.cs, .int .i64 c.b.nx, .slice c.oa c.os.length c.oc]) (bn : Bx w nb [.string nm]) (by_ : Bx w yb [.bool true]) (br : Bx w rb us) (hr : EnRows w c) :
  Calls Tryz.prog 37 #[.pointer (some ⟨g, 2, none⟩), .pointer (some ⟨nb, 0, none⟩), .pointer (some ⟨yb, 0, none⟩), .pointer (some ⟨rb, 0, none⟩)] w fun ex w' => FinP c g rb w ex w' := by
 have BG : Hid (Bx w g [.int .i32 1, .int .u32 0, .slice c.b.va c.b.vs.length c.b.vc, .slice c.b.pa c.b.ps.length c.b.pc, .slice c.b.qa c.b.qs.length c.b.qc, .int .i64 c.b.cs, .int .i64 c.b.nx, .slice c.oa c.os.length c.oc]) := bg
 have BN : Hid (Bx w nb [.string nm]) := bn
 have BY : Hid (Bx w yb [.bool true]) := by_
 have BR : Hid (Bx w rb us) := br
 have HF : Hid (EnFit c) := hf
 have HO : Hid (TRows w c.oa c.os) := hr.o
 have HUS := hide hus
 have HU1 := hide hu1
 obtain ⟨n1, n2, n3, n4, n5⟩ := hne
 have gw := bg.lt
 have nw := bn.lt
 have yw := by_.lt
 have rw_ := br.lt
 have CE : Hid (∀ W, Below w.heap.size w W → Calls Tryz.prog 38 #[.agg #[.slice c.b.va c.b.vs.length c.b.vc, .slice c.b.pa c.b.ps.length c.b.pc, .slice c.b.qa c.b.qs.length c.b.qc, .int .i64 c.b.cs, .int .i64 c.b.nx], .agg #[.string nm, .bool true]] W fun e w' => ∃ (t : Tx) (d : Bb), e = .returned (.tuple #[.agg #[.slice d.va d.vs.length d.vc, .slice d.pa d.ps.length d.pc, .slice d.qa d.qs.length d.qc, .int .i64 d.cs, .int .i64 d.nx], .bool true]) ∧ TFit t ∧ ThrA c.b t d ∧ Bo w' W.heap.size w'.heap.size d ∧ Below W.heap.size W w') := fun W h => iendA c.b nm i hi hat hf.b W (hr.b.below h)
 clear bg bn by_ br hf hr hus hu1 hi hat
 go_enter Tryz.func37, Tryz.ntmps37
 have HS : Hid (∀ W, Bx W g [.int .i32 1, .int .u32 0, .slice c.b.va c.b.vs.length c.b.vc, .slice c.b.pa c.b.ps.length c.b.pc, .slice c.b.qa c.b.qs.length c.b.qc, .int .i64 c.b.cs, .int .i64 c.b.nx, .slice c.oa c.os.length c.oc] → Bx W nb [.string nm] → Bx W yb [.bool true] → W.cell? ⟨g, 2, none⟩ = some (.slice c.b.va c.b.vs.length c.b.vc) ∧ W.cell? ⟨g, 3, none⟩ = some (.slice c.b.pa c.b.ps.length c.b.pc) ∧ W.cell? ⟨g, 4, none⟩ = some (.slice c.b.qa c.b.qs.length c.b.qc) ∧ W.cell? ⟨g, 5, none⟩ = some (.int .i64 c.b.cs) ∧ W.cell? ⟨g, 6, none⟩ = some (.int .i64 c.b.nx) ∧ W.cell? ⟨nb, 0, none⟩ = some (.string nm) ∧ W.cell? ⟨yb, 0, none⟩ = some (.bool true)) := fun W h1 h2 h3 => ⟨h1.c2, h1.c3, h1.c4, h1.at' 5 (by simp), h1.at' 6 (by simp), h2.c0, h3.c0⟩
 have HBc : Hid (Below w.heap.size w w.drew) := (belowRefl w).drew
 go_upto_region 1 with fail
 refine wp_region_held_drew (S := fun w' => w'.cell? ⟨g, 2, none⟩ = some (.slice c.b.va c.b.vs.length c.b.vc) ∧ w'.cell? ⟨g, 3, none⟩ = some (.slice c.b.pa c.b.ps.length c.b.pc) ∧ w'.cell? ⟨g, 4, none⟩ = some (.slice c.b.qa c.b.qs.length c.b.qc) ∧ w'.cell? ⟨g, 5, none⟩ = some (.int .i64 c.b.cs) ∧ w'.cell? ⟨g, 6, none⟩ = some (.int .i64 c.b.nx) ∧ w'.cell? ⟨nb, 0, none⟩ = some (.string nm) ∧ w'.cell? ⟨yb, 0, none⟩ = some (.bool true)) (by kernel_rfl) (HS.out _ (BG.out.below HBc.out) (BN.out.below HBc.out) (BY.out.below HBc.out)) (fun hHeld => ?_)
 generalize w.drew = wd at *
 (refine ti 0 ?_; simp only [Act.put, tA, tB, tD, tE, tF])
 (refine ti 1 ?_; simp only [Act.put, tA, tB, tC, tD, tE, tF])
 (refine ti 2 ?_; simp only [Act.put, tA, tB, tC, tD, tE, tF])
 (refine ti 3 ?_; simp only [Act.put, tA, tB, tC, tD, tE, tF])
 (refine ti 4 ?_; simp only [Act.put, tA, tB, tC, tD, tE, tF])
 (refine ti 5 ?_; simp only [Act.put, tA, tB, tC, tD, tE, tF])
 (refine ti 6 ?_; simp only [Act.put, tA, tB, tC, tD, tE, tF])
 refine wpAnyH_ready (rs := [7, 11]) (by kernel_rfl) (by simp) ?_
 refine AllReadyH.cons rfl (fun K hK => ?_) (AllReadyH.cons rfl (fun K hK => ?_) AllReadyH.nil)
 rotate_left
 focus
  go_simp
  have BTc : Hid (Bx (wd.alloc (.cells #[.slice none 0 0, .slice none 0 0, .slice none 0 0, .int .i64 0, .int .i64 0] 42)) wd.heap.size [.slice none 0 0, .slice none 0 0, .slice none 0 0, .int .i64 0, .int .i64 0]) := Bx.new wd [.slice none 0 0, .slice none 0 0, .slice none 0 0, .int .i64 0, .int .i64 0] 42
  have ztb : w.heap.size ≤ wd.heap.size := HBc.out.size
  have zta : wd.heap.size < (wd.alloc (.cells #[.slice none 0 0, .slice none 0 0, .slice none 0 0, .int .i64 0, .int .i64 0] 42)).heap.size := BTc.out.lt
  replace HBc : Hid (Below w.heap.size w (wd.alloc (.cells #[.slice none 0 0, .slice none 0 0, .slice none 0 0, .int .i64 0, .int .i64 0] 42))) := HBc.out.alloc HBc.out.size _
  generalize (wd.alloc (.cells #[.slice none 0 0, .slice none 0 0, .slice none 0 0, .int .i64 0, .int .i64 0] 42)) = wc at *
  generalize wd.heap.size = tb at *
  refine hK.out _ _ (HS.out _ (BG.out.below HBc.out) (BN.out.below HBc.out) (BY.out.below HBc.out)) (fun _ => ?_)
  clear hK K
  refine wpAnyH_ready (rs := [7]) (by kernel_rfl) (by simp) ?_
  refine AllReadyH.cons rfl (fun K hK => ?_) AllReadyH.nil
 rotate_left
 focus generalize wd = wc at *
 all_goals
  go_simp
  go_wp2_with fail
  refine (CE.out _ HBc.out).mono ?_
  rintro e w2 ⟨t, d, rfl, ht, hth, hd, hb2⟩
  have HFT := hide ht
  have HTH := hide hth
  have HD : Hid (Bo w2 wc.heap.size w2.heap.size d) := hd
  have HB2 := hide (HBc.out.trans (hb2.mono HBc.out.size))
  have zc := HBc.out.size
  have z2 := hb2.size
  have BG2 := hide (BG.out.below HB2.out)
  have BN2 := hide (BN.out.below HB2.out)
  have BY2 := hide (BY.out.below HB2.out)
  try replace BTc := hide (BTc.out.below hb2)
  clear ht hth hd hb2
  go_wp2_with fail
  refine hK.out _ _ (HS.out _ BG2.out BN2.out BY2.out) (fun _ => ?_)
  clear hK K
  (refine ti 8 ?_; simp only [Act.put, tA, tB, tC, tD, tE, tF])
  (refine ti 9 ?_; simp only [Act.put, tA, tB, tC, tD, tE, tF])
  (refine ti 10 ?_; simp only [Act.put, tA, tB, tC, tD, tE, tF])
 focus
  refine wpAnyH_ready (rs := [11]) (by kernel_rfl) (by simp) ?_
  refine AllReadyH.cons rfl (fun K hK => ?_) AllReadyH.nil
  go_simp
  have BTc : Hid (Bx (w2.alloc (.cells #[.slice none 0 0, .slice none 0 0, .slice none 0 0, .int .i64 0, .int .i64 0] 42)) w2.heap.size [.slice none 0 0, .slice none 0 0, .slice none 0 0, .int .i64 0, .int .i64 0]) := Bx.new w2 [.slice none 0 0, .slice none 0 0, .slice none 0 0, .int .i64 0, .int .i64 0] 42
  have hba : Below w2.heap.size w2 (w2.alloc (.cells #[.slice none 0 0, .slice none 0 0, .slice none 0 0, .int .i64 0, .int .i64 0] 42)) := (belowRefl w2).alloc (Nat.le_refl _) _
  replace HB2 : Hid (Below w.heap.size w (w2.alloc (.cells #[.slice none 0 0, .slice none 0 0, .slice none 0 0, .int .i64 0, .int .i64 0] 42))) := HB2.out.trans (hba.mono HB2.out.size)
  replace BG2 := hide (BG2.out.below hba)
  replace BN2 := hide (BN2.out.below hba)
  replace BY2 := hide (BY2.out.below hba)
  replace HD : Hid (Bo (w2.alloc (.cells #[.slice none 0 0, .slice none 0 0, .slice none 0 0, .int .i64 0, .int .i64 0] 42)) wc.heap.size w2.heap.size d) := HD.out.below hba
  have ztb : wc.heap.size ≤ w2.heap.size := z2
  clear hba z2
  generalize (w2.alloc (.cells #[.slice none 0 0, .slice none 0 0, .slice none 0 0, .int .i64 0, .int .i64 0] 42)) = w3 at *
  generalize w2.heap.size = tb at *
  refine hK.out _ _ (HS.out _ BG2.out BN2.out BY2.out) (fun _ => ?_)
  clear hK K
  have HTB : Hid (w.heap.size ≤ tb) := Nat.le_trans zc ztb
  have HDD : Hid (∃ lo dh, Bo w3 lo dh d ∧ (tb < lo ∨ dh ≤ tb)) := ⟨_, _, HD.out, Or.inr (Nat.le_refl _)⟩
  clear HD
 rotate_left
 focus
  obtain ⟨w3, rfl⟩ : ∃ w3, w3 = w2 := ⟨_, rfl⟩
  have HTB : Hid (w.heap.size ≤ tb) := ztb
  have HDD : Hid (∃ lo dh, Bo w3 lo dh d ∧ (tb < lo ∨ dh ≤ tb)) := ⟨_, _, HD.out, Or.inl zta⟩
  clear HD
 all_goals
  have gtb : g < tb := Nat.lt_of_lt_of_le gw HTB.out
  have ntb : nb < tb := Nat.lt_of_lt_of_le nw HTB.out
  have ytb : yb < tb := Nat.lt_of_lt_of_le yw HTB.out
  have rtb : rb < tb := Nat.lt_of_lt_of_le rw_ HTB.out
  have BR2 := hide (BR.out.below HB2.out)
  refine wpAnyH_ready (rs := [12]) (by kernel_rfl) (by simp) ?_
  refine AllReadyH.cons rfl (fun K hK => ?_) AllReadyH.nil
  refine stepStoreN #[.slice d.va d.vs.length d.vc, .slice d.pa d.ps.length d.pc, .slice d.qa d.qs.length d.qc, .int .i64 d.cs, .int .i64 d.nx] rfl 42 _ _ rfl (by kernel_rfl) (by kernel_rfl) (by kernel_rfl) BTc.out rfl (one_all rfl) ?_
  intro w4 bt zt _
  have BT4 : Hid (Bx w4 tb [.slice d.va d.vs.length d.vc, .slice d.pa d.ps.length d.pc, .slice d.qa d.qs.length d.qc, .int .i64 d.cs, .int .i64 d.nx]) := bt
  have BG4 := hide (BG2.out.zn zt (Or.inl gtb))
  have BN4 := hide (BN2.out.zn zt (Or.inl ntb))
  have BY4 := hide (BY2.out.zn zt (Or.inl ytb))
  have BR4 := hide (BR2.out.zn zt (Or.inl rtb))
  have HB4 : Hid (Below w.heap.size w w4) := HB2.out.trans (zt.below HTB.out HB2.out.size)
  have HD4 : Hid (∃ lo dh, Bo w4 lo dh d) := by
   obtain ⟨lo, dh, h1, h2⟩ := HDD.out
   exact ⟨lo, dh, h1.kn (kn_zn zt) (by intro x hx; rw [List.mem_singleton.1 hx]; exact h2)⟩
  refine hK.out _ _ (HS.out _ BG4.out BN4.out BY4.out) (fun _ => ?_)
  clear hK K bt zt BTc BG2 BN2 BY2 BR2 HB2 HDD
  (refine ti 13 ?_; simp only [Act.put, tA, tB, tC, tD, tE, tF])
  refine wpAnyH_done (by kernel_rfl) ?_ _
  have y0 := BY4.out.c0
  have x2 := BG4.out.c2
  have x3 := BG4.out.c3
  have x4 := BG4.out.c4
  have x5 := BG4.out.at' 5 (by simp)
  have x6 := BG4.out.at' 6 (by simp)
  go_wp2_with fail
  refine (ifullA c.b _).mono ?_
  rintro e w5 ⟨⟨o, rfl, ho⟩, hb5⟩
  have BT5 := hide (BT4.out.below hb5)
  have BG5 : Hid (Bx w5 g [.int .i32 1, .int .u32 0, .slice c.b.va c.b.vs.length c.b.vc, .slice c.b.pa c.b.ps.length c.b.pc, .slice c.b.qa c.b.qs.length c.b.qc, .int .i64 c.b.cs, .int .i64 c.b.nx, .slice c.oa c.os.length c.oc]) := BG4.out.below hb5
  have BN5 := hide (BN4.out.below hb5)
  have BY5 := hide (BY4.out.below hb5)
  have BR5 := hide (BR4.out.below hb5)
  have HB5 : Hid (Below w.heap.size w w5) := HB4.out.trans (hb5.mono HB4.out.size)
  obtain ⟨lo, dh, hd4⟩ := HD4.out
  have HR5 : Hid (BRows w5 d) := (hd4.below hb5).rows
  clear hb5 BT4 BG4 BN4 BY4 BR4 HB4 HD4 hd4 x2 x3 x4 x5 x6
  cases o
  rotate_left
  ·clear ho
   go_wp2
   go_ret
   exact ⟨3, _, _, _, _, _, _, _, _, _, _, _, us, rfl, Or.inr rfl, BG5.out, BR5.out, HUS.out, HU1.out, Kn.ofBelow HB5.out⟩
  have HFD : Hid (BFit d) := fit_thr2 HF.out.b HFT.out HTH.out (ho rfl)
  clear ho
  go_upto_region 6 with fail
  clear y0
  have HS6 : Hid (∀ W, Bx W tb [.slice d.va d.vs.length d.vc, .slice d.pa d.ps.length d.pc, .slice d.qa d.qs.length d.qc, .int .i64 d.cs, .int .i64 d.nx] → W.cell? ⟨g, 7, none⟩ = some (.slice c.oa c.os.length c.oc) → W.cell? ⟨tb, 0, none⟩ = some (.slice d.va d.vs.length d.vc) ∧ W.cell? ⟨tb, 1, none⟩ = some (.slice d.pa d.ps.length d.pc) ∧ W.cell? ⟨tb, 2, none⟩ = some (.slice d.qa d.qs.length d.qc) ∧ W.cell? ⟨tb, 3, none⟩ = some (.int .i64 d.cs) ∧ W.cell? ⟨tb, 4, none⟩ = some (.int .i64 d.nx) ∧ W.cell? ⟨g, 7, none⟩ = some (.slice c.oa c.os.length c.oc)) := fun W h1 h2 => ⟨h1.c0, h1.c1, h1.c2, h1.c3, h1.c4, h2⟩
  have CT : Hid (∀ W, Below w5.heap.size w5 W → Calls Tryz.prog 40 #[.agg #[.slice d.va d.vs.length d.vc, .slice d.pa d.ps.length d.pc, .slice d.qa d.qs.length d.qc, .int .i64 d.cs, .int .i64 d.nx], .slice c.oa c.os.length c.oc] W fun e w' => ∃ (va pa qa : Option Addr) (vn vc pn pc qn qc : Nat) (cs nx : Int), e = .returned (.agg #[.slice va vn vc, .slice pa pn pc, .slice qa qn qc, .int .i64 cs, .int .i64 nx]) ∧ Below W.heap.size W w') := fun W h => itidiedA d c.os c.oa c.oc HFD.out HF.out.ol W (HR5.out.below h) ((HO.out.below HB5.out).below h)
  have HBe : Hid (Below w5.heap.size w5 w5.drew) := (belowRefl w5).drew
  refine wp_region_held_drew (S := fun w' => w'.cell? ⟨tb, 0, none⟩ = some (.slice d.va d.vs.length d.vc) ∧ w'.cell? ⟨tb, 1, none⟩ = some (.slice d.pa d.ps.length d.pc) ∧ w'.cell? ⟨tb, 2, none⟩ = some (.slice d.qa d.qs.length d.qc) ∧ w'.cell? ⟨tb, 3, none⟩ = some (.int .i64 d.cs) ∧ w'.cell? ⟨tb, 4, none⟩ = some (.int .i64 d.nx) ∧ w'.cell? ⟨g, 7, none⟩ = some (.slice c.oa c.os.length c.oc)) (by kernel_rfl) (HS6.out _ (BT5.out.below HBe.out) ((BG5.out.below HBe.out).at' 7 (by simp))) (fun hHeld => ?_)
  generalize w5.drew = we at *
  (refine ti 0 ?_; simp only [Act.put, tA, tB, tD, tE, tF])
  (refine ti 1 ?_; simp only [Act.put, tA, tB, tC, tD, tE, tF])
  (refine ti 2 ?_; simp only [Act.put, tA, tB, tC, tD, tE, tF])
  (refine ti 3 ?_; simp only [Act.put, tA, tB, tC, tD, tE, tF])
  (refine ti 4 ?_; simp only [Act.put, tA, tB, tC, tD, tE, tF])
  (refine ti 5 ?_; simp only [Act.put, tA, tB, tC, tD, tE, tF])
  refine wpAnyH_ready (rs := [6]) (by kernel_rfl) (by simp) ?_
  refine AllReadyH.cons rfl (fun K hK => ?_) AllReadyH.nil
  go_simp
  go_wp2_with fail
  refine (CT.out _ HBe.out).mono ?_
  rintro e w6 ⟨va, pa, qa, vn, vc, pn, pc, qn, qc, cs, nx, rfl, hb6⟩
  have hb6' := HBe.out.trans (hb6.mono HBe.out.size)
  have BT6 := hide (BT5.out.below hb6')
  have BG6 : Hid (Bx w6 g [.int .i32 1, .int .u32 0, .slice c.b.va c.b.vs.length c.b.vc, .slice c.b.pa c.b.ps.length c.b.pc, .slice c.b.qa c.b.qs.length c.b.qc, .int .i64 c.b.cs, .int .i64 c.b.nx, .slice c.oa c.os.length c.oc]) := BG5.out.below hb6'
  have BN6 := hide (BN5.out.below hb6')
  have BY6 := hide (BY5.out.below hb6')
  have BR6 := hide (BR5.out.below hb6')
  have HB6 : Hid (Below w.heap.size w w6) := HB5.out.trans (hb6'.mono HB5.out.size)
  clear hb6 hb6' CT HR5 HBe BT5 BG5 BN5 BY5 BR5 HB5
  go_wp2_with fail
  refine hK.out _ _ (HS6.out _ BT6.out (BG6.out.at' 7 (by simp))) (fun _ => ?_)
  clear hK K
  (refine ti 7 ?_; simp only [Act.put, tA, tB, tC, tD, tE, tF])
  (refine ti 8 ?_; simp only [Act.put, tA, tB, tC, tD, tE, tF])
  refine wpAnyH_ready (rs := [9]) (by kernel_rfl) (by simp) ?_
  refine AllReadyH.cons rfl (fun K hK => ?_) AllReadyH.nil
  have x2 := BG6.out.c2
  have x3 := BG6.out.c3
  have x4 := BG6.out.c4
  have x5 := BG6.out.at' 5 (by simp)
  have x6 := BG6.out.at' 6 (by simp)
  have f2 := BG6.out.fz 2
  have f3 := BG6.out.fz 3
  have f4 := BG6.out.fz 4
  have f5 := BG6.out.fz 5
  have f6 := BG6.out.fz 6
  go_simp
  have hk : Kn [g] w6 (((((w6.setCell ⟨g, 2, none⟩ (.slice va vn vc)).setCell ⟨g, 3, none⟩ (.slice pa pn pc)).setCell ⟨g, 4, none⟩ (.slice qa qn qc)).setCell ⟨g, 5, none⟩ (.int .i64 cs)).setCell ⟨g, 6, none⟩ (.int .i64 nx)) := (((((Kn.set w6 g 2 (.slice va vn vc)).trans (Kn.set (w6.setCell ⟨g, 2, none⟩ (.slice va vn vc)) g 3 (.slice pa pn pc))).trans (Kn.set ((w6.setCell ⟨g, 2, none⟩ (.slice va vn vc)).setCell ⟨g, 3, none⟩ (.slice pa pn pc)) g 4 (.slice qa qn qc))).trans (Kn.set (((w6.setCell ⟨g, 2, none⟩ (.slice va vn vc)).setCell ⟨g, 3, none⟩ (.slice pa pn pc)).setCell ⟨g, 4, none⟩ (.slice qa qn qc)) g 5 (.int .i64 cs))).trans (Kn.set ((((w6.setCell ⟨g, 2, none⟩ (.slice va vn vc)).setCell ⟨g, 3, none⟩ (.slice pa pn pc)).setCell ⟨g, 4, none⟩ (.slice qa qn qc)).setCell ⟨g, 5, none⟩ (.int .i64 cs)) g 6 (.int .i64 nx)))
  have BG7 : Hid (Bx (((((w6.setCell ⟨g, 2, none⟩ (.slice va vn vc)).setCell ⟨g, 3, none⟩ (.slice pa pn pc)).setCell ⟨g, 4, none⟩ (.slice qa qn qc)).setCell ⟨g, 5, none⟩ (.int .i64 cs)).setCell ⟨g, 6, none⟩ (.int .i64 nx)) g [.int .i32 1, .int .u32 0, .slice va vn vc, .slice pa pn pc, .slice qa qn qc, .int .i64 cs, .int .i64 nx, .slice c.oa c.os.length c.oc]) := (((((BG6.out.set 2 (.slice va vn vc)).set 3 (.slice pa pn pc)).set 4 (.slice qa qn qc)).set 5 (.int .i64 cs)).set 6 (.int .i64 nx))
  have BT7 := hide (BT6.out.kn hk (by intro hm; rw [List.mem_singleton.1 hm] at gtb; omega))
  have BN7 := hide (BN6.out.kn hk (by intro hm; exact n1 (List.mem_singleton.1 hm)))
  have BY7 := hide (BY6.out.kn hk (by intro hm; exact n2 (List.mem_singleton.1 hm)))
  have BR7 := hide (BR6.out.kn hk (by intro hm; exact n3 (List.mem_singleton.1 hm)))
  have HK7 : Hid (Kn [g, rb] w (((((w6.setCell ⟨g, 2, none⟩ (.slice va vn vc)).setCell ⟨g, 3, none⟩ (.slice pa pn pc)).setCell ⟨g, 4, none⟩ (.slice qa qn qc)).setCell ⟨g, 5, none⟩ (.int .i64 cs)).setCell ⟨g, 6, none⟩ (.int .i64 nx))) := (Kn.ofBelow HB6.out).transU hk (by intro x hx; exact Or.inl (by rw [List.mem_singleton.1 hx]; simp))
  clear hk x2 x3 x4 x5 x6 f2 f3 f4 f5 f6 BG6 BT6 BN6 BY6 BR6 HB6
  generalize (((((w6.setCell ⟨g, 2, none⟩ (.slice va vn vc)).setCell ⟨g, 3, none⟩ (.slice pa pn pc)).setCell ⟨g, 4, none⟩ (.slice qa qn qc)).setCell ⟨g, 5, none⟩ (.int .i64 cs)).setCell ⟨g, 6, none⟩ (.int .i64 nx)) = w7 at *
  refine hK.out _ _ (HS6.out _ BT7.out (BG7.out.at' 7 (by simp))) (fun _ => ?_)
  clear hK K HS6 BT7
  refine wpAnyH_done (by kernel_rfl) ?_ _
  go_upto_region 7 with fail
  have HS7 : Hid (∀ W, Bx W nb [.string nm] → Bx W yb [.bool true] → W.cell? ⟨nb, 0, none⟩ = some (.string nm) ∧ W.cell? ⟨yb, 0, none⟩ = some (.bool true)) := fun W h1 h2 => ⟨h1.c0, h2.c0⟩
  have HBf : Hid (Below w7.heap.size w7 w7.drew) := (belowRefl w7).drew
  refine wp_region_held_drew (S := fun w' => w'.cell? ⟨nb, 0, none⟩ = some (.string nm) ∧ w'.cell? ⟨yb, 0, none⟩ = some (.bool true)) (by kernel_rfl) (HS7.out _ (BN7.out.below HBf.out) (BY7.out.below HBf.out)) (fun hHeld => ?_)
  generalize w7.drew = wf at *
  (refine ti 0 ?_; simp only [Act.put, tA, tB, tD, tE, tF])
  (refine ti 2 ?_; simp only [Act.put, tA, tB, tC, tD, tE, tF])
  refine wpAnyH_ready (rs := [1]) (by kernel_rfl) (by simp) ?_
  refine AllReadyH.cons rfl (fun K hK => ?_) AllReadyH.nil
  go_simp
  go_wp2_with fail
  refine (clone54 nm (by omega) _).mono ?_
  rintro e w8 ⟨rfl, hb8⟩
  have hb8' := HBf.out.trans (hb8.mono HBf.out.size)
  have BG8 : Hid (Bx w8 g [.int .i32 1, .int .u32 0, .slice va vn vc, .slice pa pn pc, .slice qa qn qc, .int .i64 cs, .int .i64 nx, .slice c.oa c.os.length c.oc]) := BG7.out.below hb8'
  have BN8 := hide (BN7.out.below hb8')
  have BY8 := hide (BY7.out.below hb8')
  have BR8 := hide (BR7.out.below hb8')
  have HK8 : Hid (Kn [g, rb] w w8) := HK7.out.trans (Kn.ofBelow hb8')
  clear hb8 hb8' HBf BG7 BN7 BY7 BR7 HK7
  go_wp2_with fail
  refine hK.out _ _ (HS7.out _ BN8.out BY8.out) (fun _ => ?_)
  clear hK K
  (refine ti 3 ?_; simp only [Act.put, tA, tB, tC, tD, tE, tF])
  refine wpAnyH_ready (rs := [4]) (by kernel_rfl) (by simp) ?_
  refine AllReadyH.cons rfl (fun K hK => ?_) AllReadyH.nil
  refine stepStoreN #[.int .i64 3, .int .i64 0, .int .i64 0, .int .i64 0, .int .i64 0, .slice none 0 0, .slice none 0 0, .bool false, .string ⟨#[]⟩, .string nm, .bool true, .slice none 0 0, .slice none 0 0, .slice none 0 0, .int .i64 0, .int .i64 0] rfl 64 _ _ rfl (by kernel_rfl) (by kernel_rfl) (by kernel_rfl) BR8.out HUS.out (one_all rfl) ?_
  intro w9 br9 zr _
  have BG9 : Hid (Bx w9 g [.int .i32 1, .int .u32 0, .slice va vn vc, .slice pa pn pc, .slice qa qn qc, .int .i64 cs, .int .i64 nx, .slice c.oa c.os.length c.oc]) := BG8.out.kn (kn_zn zr) (by intro hm; exact n3 (List.mem_singleton.1 hm).symm)
  have BN9 := hide (BN8.out.kn (kn_zn zr) (by intro hm; exact n4 (List.mem_singleton.1 hm)))
  have BY9 := hide (BY8.out.kn (kn_zn zr) (by intro hm; exact n5 (List.mem_singleton.1 hm)))
  have HK9 : Hid (Kn [g, rb] w w9) := HK8.out.transU (kn_zn zr) (by intro x hx; exact Or.inl (by rw [List.mem_singleton.1 hx]; simp))
  refine hK.out _ _ (HS7.out _ BN9.out BY9.out) (fun _ => ?_)
  clear hK K zr BG8 BN8 BY8 BR8 HK8
  refine wpAnyH_done (by kernel_rfl) ?_ _
  go_wp2
  go_ret
  exact ⟨0, _, _, _, _, _, _, _, _, _, _, _, _, rfl, Or.inl rfl, BG9.out, br9, rfl, one16 nm, HK9.out⟩

end Go.Proofs.YtmijppfppigjcaaGreat

namespace Go.Proofs
abbrev Tryz.muLink : Go.Conc.Locks.MuLink := { lock := 63, unlock := 64, ilock := 91, iunlock := 92, lockSlow := 125, unlockSlow := 128, disable := 121, enable := 123, acquire := 124, relMerge := 126, cas32 := 122, add32 := 127, tMutex := 126, tIMutex := 124, tPMutex := 162, tPIMutex := 195, tPI32 := 197, tUP := 199, tNoCopy := 121, tU32 := 122 }
theorem Tryz.muLib : Go.Conc.Locks.MuLib Tryz.prog Tryz.muLink :=
 ⟨Tryz.func63, Tryz.func64, Tryz.func91, Tryz.func92, Tryz.func121, Tryz.func123, Tryz.func124, Tryz.func126, Tryz.func122, Tryz.func127, Tryz.underlying124, Tryz.runUnderlying124, Tryz.sizeOf124, Tryz.isAgg124, Tryz.zeroValue124, Tryz.underlying126, Tryz.runUnderlying126, Tryz.sizeOf126, Tryz.isAgg126, Tryz.zeroValue126, Tryz.underlying162, Tryz.runUnderlying162, Tryz.sizeOf162, Tryz.isAgg162, Tryz.zeroValue162, Tryz.underlying195, Tryz.runUnderlying195, Tryz.sizeOf195, Tryz.isAgg195, Tryz.zeroValue195, Tryz.underlying197, Tryz.runUnderlying197, Tryz.sizeOf197, Tryz.isAgg197, Tryz.zeroValue197, Tryz.underlying199, Tryz.runUnderlying199, Tryz.sizeOf199, Tryz.isAgg199, Tryz.zeroValue199, Tryz.underlying121, Tryz.runUnderlying121, Tryz.sizeOf121, Tryz.isAgg121, Tryz.zeroValue121, Tryz.underlying21, Tryz.runUnderlying21, Tryz.sizeOf21, Tryz.isAgg21, Tryz.zeroValue21, (by kernel_rfl)⟩
end Go.Proofs

namespace Go.Proofs.YtmijppfppigjcaaGreat
open Go.RowKit
open KM
open VM
open Go.MuLone
attribute [local go_sem ↓] Go.wp_at_zero Go.wp_at_succ

set_option maxRecDepth 100000 in
set_option maxHeartbeats 8000000 in
theorem ichangeF (c : En) (hf : EnFit c) (nm : ByteArray) (hnm : nm.size ≤ 1048576) (i : Nat) (hi : i < c.b.qs.length) (hat : idxN (nms c.b.qs) nm 0 = (i : Int)) (g nb yb rb : Nat) (hne : nb ≠ g ∧ yb ≠ g ∧ rb ≠ g ∧ nb ≠ rb ∧ yb ≠ rb) (us : List Value) (hus : us.length = 16) (hu1 : ∀ v ∈ us, v.oneCell' = true) (w : World) (bg : Bx w g [.int .i32 0, .int .u32 0, .slice c.b.va c.b.vs.length c.b.vc, .slice c.b.pa c.b.ps.length c.b.pc, .slice c.b.qa c.b.qs.length c.b.qc, .int .i64 c.b.cs, .int .i64 c.b.nx, .slice c.oa c.os.length c.oc]) (bn : Bx w nb [.string nm]) (by_ : Bx w yb [.bool true]) (br : Bx w rb us) (lo m : Nat) (lx : EnLx w lo m g g g c) :
  Calls Tryz.prog 36 #[.pointer (some ⟨g, 0, none⟩), .func (.func 37) #[] #[.pointer (some ⟨nb, 0, none⟩), .pointer (some ⟨yb, 0, none⟩), .pointer (some ⟨rb, 0, none⟩)]] w fun ex w' => ∃ (k : Int) (va pa qa : Option Addr) (vn vc pn pc qn qc : Nat) (cs nx : Int) (rs : List Value), ex = .returned (.tuple #[.agg #[.slice va vn vc, .slice pa pn pc, .slice qa qn qc, .int .i64 cs, .int .i64 nx, .slice c.oa c.os.length c.oc], .int .i64 k]) ∧ (k = 0 ∨ k = 3) ∧ Bx w' rb rs ∧ rs.length = 16 ∧ (∀ v ∈ rs, v.oneCell' = true) ∧ Kn [g, rb] w w' := by
 have gw := bg.lt
 have nw := bn.lt
 have yw := by_.lt
 have rw_ := br.lt
 obtain ⟨n1, n2, n3, n4, n5⟩ := hne
 have hb0 : Below w.heap.size w (w.alloc (.cells #[.slice none 0 0, .slice none 0 0, .slice none 0 0, .int .i64 0, .int .i64 0, .slice none 0 0] 44)) := (belowRefl w).alloc (Nat.le_refl _) _
 have BR0 : Hid (Bx (w.alloc (.cells #[.slice none 0 0, .slice none 0 0, .slice none 0 0, .int .i64 0, .int .i64 0, .slice none 0 0] 44)) w.heap.size [.slice none 0 0, .slice none 0 0, .slice none 0 0, .int .i64 0, .int .i64 0, .slice none 0 0]) := Bx.new w [.slice none 0 0, .slice none 0 0, .slice none 0 0, .int .i64 0, .int .i64 0, .slice none 0 0] 44
 have BG0 : Hid (Bx (w.alloc (.cells #[.slice none 0 0, .slice none 0 0, .slice none 0 0, .int .i64 0, .int .i64 0, .slice none 0 0] 44)) g [.int .i32 0, .int .u32 0, .slice c.b.va c.b.vs.length c.b.vc, .slice c.b.pa c.b.ps.length c.b.pc, .slice c.b.qa c.b.qs.length c.b.qc, .int .i64 c.b.cs, .int .i64 c.b.nx, .slice c.oa c.os.length c.oc]) := bg.below hb0
 have BN0 := hide (bn.below hb0)
 have BY0 := hide (by_.below hb0)
 have BB0 := hide (br.below hb0)
 have HK0 : Hid (Kn [g, rb] w (w.alloc (.cells #[.slice none 0 0, .slice none 0 0, .slice none 0 0, .int .i64 0, .int .i64 0, .slice none 0 0] 44))) := Kn.ofBelow hb0
 have LX0 := hide (lx.below hb0)
 have CS : Hid (∀ (W : World), EnRows W c → Bx W g [.int .i32 1, .int .u32 0, .slice c.b.va c.b.vs.length c.b.vc, .slice c.b.pa c.b.ps.length c.b.pc, .slice c.b.qa c.b.qs.length c.b.qc, .int .i64 c.b.cs, .int .i64 c.b.nx, .slice c.oa c.os.length c.oc] → Bx W nb [.string nm] → Bx W yb [.bool true] → Bx W rb us → Calls Tryz.prog 37 #[.pointer (some ⟨g, 2, none⟩), .pointer (some ⟨nb, 0, none⟩), .pointer (some ⟨yb, 0, none⟩), .pointer (some ⟨rb, 0, none⟩)] W fun ex w' => FinP c g rb W ex w') := fun W h0 h1 h2 h3 h4 => ifin1 c hf nm hnm i hi hat g nb yb rb ⟨n1, n2, n3, n4, n5⟩ us hus hu1 W h1 h2 h3 h4 h0
 clear bg bn by_ br lx hb0 hf hi hat hus hu1
 go_enter_defers Tryz.func36, Tryz.ntmps36
 go_upto_region 1 with fail
 generalize (w.alloc (.cells #[.slice none 0 0, .slice none 0 0, .slice none 0 0, .int .i64 0, .int .i64 0, .slice none 0 0] 44)) = w0 at *
 have x0 := BG0.out.c0
 have z0 := BG0.out.fz 0
 go_wp2_with fail
 refine (lock_free Tryz.muLib ⟨g, 0, none⟩ _ x0 z0).mono ?_
 rintro ex wl ⟨rfl, rfl⟩
 have hk : Kn [g] w0 (w0.setCell ⟨g, 0, none⟩ (.int .i32 1)) := Kn.set w0 g 0 _
 have BG1 : Hid (Bx (w0.setCell ⟨g, 0, none⟩ (.int .i32 1)) g [.int .i32 1, .int .u32 0, .slice c.b.va c.b.vs.length c.b.vc, .slice c.b.pa c.b.ps.length c.b.pc, .slice c.b.qa c.b.qs.length c.b.qc, .int .i64 c.b.cs, .int .i64 c.b.nx, .slice c.oa c.os.length c.oc]) := BG0.out.set 0 _
 have BR1 := hide (BR0.out.kn hk (by intro hm; have := List.mem_singleton.1 hm; omega))
 have BN1 := hide (BN0.out.kn hk (by intro hm; exact n1 (List.mem_singleton.1 hm)))
 have BY1 := hide (BY0.out.kn hk (by intro hm; exact n2 (List.mem_singleton.1 hm)))
 have BB1 := hide (BB0.out.kn hk (by intro hm; exact n3 (List.mem_singleton.1 hm)))
 have HK1 : Hid (Kn [g, rb] w (w0.setCell ⟨g, 0, none⟩ (.int .i32 1))) := HK0.out.transU hk (by intro x hx; exact Or.inl (by rw [List.mem_singleton.1 hx]; simp))
 have HR1 : Hid (EnRows (w0.setCell ⟨g, 0, none⟩ (.int .i32 1)) c) := (LX0.out.setg 0 _).rows
 clear BG0 BN0 BY0 BB0 BR0 HK0 x0 z0 hk LX0
 generalize (w0.setCell ⟨g, 0, none⟩ (.int .i32 1)) = w1 at *
 have CF := hide (CS.out w1 HR1.out BG1.out BN1.out BY1.out BB1.out)
 go_wp2_with fail
 refine CF.out.mono ?_
 rintro ex w2 ⟨k, va, pa, qa, vn, vc, pn, pc, qn, qc, cs, nx, rs, rfl, hk0, hbg, hbb, hl, h1, hkn⟩
 have BG2 : Hid (Bx w2 g [.int .i32 1, .int .u32 0, .slice va vn vc, .slice pa pn pc, .slice qa qn qc, .int .i64 cs, .int .i64 nx, .slice c.oa c.os.length c.oc]) := hbg
 have BB2 := hide hbb
 have BR2 : Hid (Bx w2 w.heap.size [.slice none 0 0, .slice none 0 0, .slice none 0 0, .int .i64 0, .int .i64 0, .slice none 0 0]) := BR1.out.kn hkn (by intro hm; simp only [List.mem_cons, List.not_mem_nil, or_false] at hm; omega)
 have HK2 : Hid (Kn [g, rb] w w2) := HK1.out.trans hkn
 have HKK := hide hk0
 have HL := hide hl
 have H1 := hide h1
 clear hk0 hbg hbb hl h1 hkn BG1 BN1 BY1 BB1 BR1 HK1 CS CF HR1
 have x2 := BG2.out.c2
 have x3 := BG2.out.c3
 have x4 := BG2.out.c4
 have x5 := BG2.out.at' 5 (by simp)
 have x6 := BG2.out.at' 6 (by simp)
 have x7 := BG2.out.at' 7 (by simp)
 have q0 := BR2.out.c0
 have q1 := BR2.out.c1
 have q2 := BR2.out.c2
 have q3 := BR2.out.c3
 have q4 := BR2.out.c4
 have q5 := BR2.out.at' 5 (by simp)
 have fq0 := BR2.out.fz 0
 have fq1 := BR2.out.fz 1
 have fq2 := BR2.out.fz 2
 have fq3 := BR2.out.fz 3
 have fq4 := BR2.out.fz 4
 have fq5 := BR2.out.fz 5
 go_wp2
 have hk : Kn [w.heap.size] w2 ((((((w2.setCell ⟨w.heap.size, 0, none⟩ (.slice va vn vc)).setCell ⟨w.heap.size, 1, none⟩ (.slice pa pn pc)).setCell ⟨w.heap.size, 2, none⟩ (.slice qa qn qc)).setCell ⟨w.heap.size, 3, none⟩ (.int .i64 cs)).setCell ⟨w.heap.size, 4, none⟩ (.int .i64 nx)).setCell ⟨w.heap.size, 5, none⟩ (.slice c.oa c.os.length c.oc)) := ((((((Kn.set w2 w.heap.size 0 (.slice va vn vc)).trans (Kn.set (w2.setCell ⟨w.heap.size, 0, none⟩ (.slice va vn vc)) w.heap.size 1 (.slice pa pn pc))).trans (Kn.set ((w2.setCell ⟨w.heap.size, 0, none⟩ (.slice va vn vc)).setCell ⟨w.heap.size, 1, none⟩ (.slice pa pn pc)) w.heap.size 2 (.slice qa qn qc))).trans (Kn.set (((w2.setCell ⟨w.heap.size, 0, none⟩ (.slice va vn vc)).setCell ⟨w.heap.size, 1, none⟩ (.slice pa pn pc)).setCell ⟨w.heap.size, 2, none⟩ (.slice qa qn qc)) w.heap.size 3 (.int .i64 cs))).trans (Kn.set ((((w2.setCell ⟨w.heap.size, 0, none⟩ (.slice va vn vc)).setCell ⟨w.heap.size, 1, none⟩ (.slice pa pn pc)).setCell ⟨w.heap.size, 2, none⟩ (.slice qa qn qc)).setCell ⟨w.heap.size, 3, none⟩ (.int .i64 cs)) w.heap.size 4 (.int .i64 nx))).trans (Kn.set (((((w2.setCell ⟨w.heap.size, 0, none⟩ (.slice va vn vc)).setCell ⟨w.heap.size, 1, none⟩ (.slice pa pn pc)).setCell ⟨w.heap.size, 2, none⟩ (.slice qa qn qc)).setCell ⟨w.heap.size, 3, none⟩ (.int .i64 cs)).setCell ⟨w.heap.size, 4, none⟩ (.int .i64 nx)) w.heap.size 5 (.slice c.oa c.os.length c.oc)))
 have BR3 : Hid (Bx ((((((w2.setCell ⟨w.heap.size, 0, none⟩ (.slice va vn vc)).setCell ⟨w.heap.size, 1, none⟩ (.slice pa pn pc)).setCell ⟨w.heap.size, 2, none⟩ (.slice qa qn qc)).setCell ⟨w.heap.size, 3, none⟩ (.int .i64 cs)).setCell ⟨w.heap.size, 4, none⟩ (.int .i64 nx)).setCell ⟨w.heap.size, 5, none⟩ (.slice c.oa c.os.length c.oc)) w.heap.size [.slice va vn vc, .slice pa pn pc, .slice qa qn qc, .int .i64 cs, .int .i64 nx, .slice c.oa c.os.length c.oc]) := ((((((BR2.out.set 0 (.slice va vn vc)).set 1 (.slice pa pn pc)).set 2 (.slice qa qn qc)).set 3 (.int .i64 cs)).set 4 (.int .i64 nx)).set 5 (.slice c.oa c.os.length c.oc))
 have BG3 : Hid (Bx ((((((w2.setCell ⟨w.heap.size, 0, none⟩ (.slice va vn vc)).setCell ⟨w.heap.size, 1, none⟩ (.slice pa pn pc)).setCell ⟨w.heap.size, 2, none⟩ (.slice qa qn qc)).setCell ⟨w.heap.size, 3, none⟩ (.int .i64 cs)).setCell ⟨w.heap.size, 4, none⟩ (.int .i64 nx)).setCell ⟨w.heap.size, 5, none⟩ (.slice c.oa c.os.length c.oc)) g [.int .i32 1, .int .u32 0, .slice va vn vc, .slice pa pn pc, .slice qa qn qc, .int .i64 cs, .int .i64 nx, .slice c.oa c.os.length c.oc]) := BG2.out.kn hk (by intro hm; have := List.mem_singleton.1 hm; omega)
 have BB3 := hide (BB2.out.kn hk (by intro hm; have := List.mem_singleton.1 hm; omega))
 have HK3 : Hid (Kn [g, rb] w ((((((w2.setCell ⟨w.heap.size, 0, none⟩ (.slice va vn vc)).setCell ⟨w.heap.size, 1, none⟩ (.slice pa pn pc)).setCell ⟨w.heap.size, 2, none⟩ (.slice qa qn qc)).setCell ⟨w.heap.size, 3, none⟩ (.int .i64 cs)).setCell ⟨w.heap.size, 4, none⟩ (.int .i64 nx)).setCell ⟨w.heap.size, 5, none⟩ (.slice c.oa c.os.length c.oc))) := HK2.out.transU hk (by intro x hx; exact Or.inr (by rw [List.mem_singleton.1 hx]; exact Nat.le_refl _))
 clear hk BG2 BB2 BR2 HK2 x2 x3 x4 x5 x6 x7 q0 q1 q2 q3 q4 q5 fq0 fq1 fq2 fq3 fq4 fq5
 generalize ((((((w2.setCell ⟨w.heap.size, 0, none⟩ (.slice va vn vc)).setCell ⟨w.heap.size, 1, none⟩ (.slice pa pn pc)).setCell ⟨w.heap.size, 2, none⟩ (.slice qa qn qc)).setCell ⟨w.heap.size, 3, none⟩ (.int .i64 cs)).setCell ⟨w.heap.size, 4, none⟩ (.int .i64 nx)).setCell ⟨w.heap.size, 5, none⟩ (.slice c.oa c.os.length c.oc)) = w3 at *
 refine leaves_cons (f := 64) (args := #[.pointer (some ⟨g, 0, none⟩)]) (by simp) (by simp [go_sem]) ?_
 refine (unlock_deferred Tryz.muLib ⟨g, 0, none⟩ .returning _ BG3.out.c0 (BG3.out.fz 0)).mono ?_
 rintro ex u' w4 ⟨rfl, rfl, rfl⟩
 have hk : Kn [g] w3 (w3.setCell ⟨g, 0, none⟩ (.int .i32 0)) := Kn.set w3 g 0 _
 have BR4 := hide (BR3.out.kn hk (by intro hm; have := List.mem_singleton.1 hm; omega))
 have q0 := BR4.out.c0
 have q1 := BR4.out.c1
 have q2 := BR4.out.c2
 have q3 := BR4.out.c3
 have q4 := BR4.out.c4
 have q5 := BR4.out.at' 5 (by simp)
 refine ⟨.tuple #[.agg #[.slice va vn vc, .slice pa pn pc, .slice qa qn qc, .int .i64 cs, .int .i64 nx, .slice c.oa c.os.length c.oc], .int .i64 k], ?_, k, va, pa, qa, vn, vc, pn, pc, qn, qc, cs, nx, rs, rfl, HKK.out, BB3.out.kn hk (by intro hm; exact n3 (List.mem_singleton.1 hm)), HL.out, H1.out, HK3.out.transU hk (by intro x hx; exact Or.inl (by rw [List.mem_singleton.1 hx]; simp))⟩
 simp [results, Tryz.results36, go_sem, q0, q1, q2, q3, q4, q5]

end Go.Proofs.YtmijppfppigjcaaGreat

/- Begin: what comes of it, and the step that begins. -/
import Derived.Test.YtjeicgibddfifaaGreatPb01
import Derived.Test.YtjeicgibddfifaaGreatPb25
import Derived.Test.YtjeicgibddfifaaGreatPb27
import Derived.Test.YtjeicgibddfifaaGreatPb12
import Derived.Deep.RegionHeld3
import Derived.Deep.Cut
import Derived.Deep.CutRange
import Derived.Laws.EntriesVeiled
import Derived.Deep.AppendLies
import Derived.Test.YtjeicgibddfifaaGreatProg
import Derived.Conc.MuData
import Derived.Conc.MuLone
import Derived.KernelRfl
namespace Go.Proofs.YtjeicgibddfifaaGreat
open Go.RowKit
open KM
attribute [local go_sem ↓] Go.wp_at_zero Go.wp_at_succ

def begT (e : En) : Tx := ⟨e.b.nx, 1, e.b.cs, 0, [], [], false, ⟨#[]⟩⟩
def newTa (e : En) : Ta := ⟨begT e, none, 0, none, 0⟩
def bgOk (e : En) : Bool := seB e && (!(((e.os.length : Int) == 4)) && !(e.b.nx == 9999))
def bgE (e : En) : En := if bgOk e = true then ⟨⟨e.b.vs, e.b.ps, e.b.qs, e.b.cs, e.b.nx + 1, e.b.va, e.b.vc, e.b.pa, e.b.pc, e.b.qa, e.b.qc⟩, e.os ++ [newTa e], none, 0⟩ else e
def bgI (e : En) : Int := if bgOk e = true then e.b.nx else 0
def bgC (e : En) : Int := if bgOk e = true then 0 else 3
theorem bgOk_same {e c : En} (h : EnSame e c) : bgOk c = bgOk e := by unfold bgOk; rw [seB_same h, h.ol, h.b.nx]
theorem bgE_same {e c : En} (h : EnSame e c) : EnSame (bgE e) (bgE c) := by
 unfold bgE
 rw [bgOk_same h]
 split
 ·refine ⟨⟨h.b.v, h.b.p, h.b.q, h.b.cs, by show c.b.nx + 1 = e.b.nx + 1; rw [h.b.nx]⟩, ?_⟩
  show txs (c.os ++ [newTa c]) = txs (e.os ++ [newTa e])
  have e1 : txs (c.os ++ [newTa c]) = txs c.os ++ [begT c] := by simp [txs, newTa]
  have e2 : txs (e.os ++ [newTa e]) = txs e.os ++ [begT e] := by simp [txs, newTa]
  rw [e1, e2, h.o]
  unfold begT
  rw [h.b.nx, h.b.cs]
 ·exact h
theorem bgI_same {e c : En} (h : EnSame e c) : bgI c = bgI e := by unfold bgI; rw [bgOk_same h, h.b.nx]
theorem bgC_same {e c : En} (h : EnSame e c) : bgC c = bgC e := by unfold bgC; rw [bgOk_same h]
theorem bg_len {e : En} (h : bgOk e = true) : e.os.length ≤ 4 ∧ 1 ≤ e.b.nx ∧ e.b.nx ≤ 9999 := by
 unfold bgOk at h
 rw [Bool.and_eq_true] at h
 have hs : SeP e := of_decide_eq_true h.1
 have hb : SbP e.b := of_decide_eq_true hs.1
 exact ⟨hs.2.1, hb.2.2.2.2.1.1, hb.2.2.2.2.1.2⟩
theorem bgE_fit {e : En} (h : EnFit e) : EnFit (bgE e) := by
 unfold bgE
 split
 ·rename_i hk
  refine ⟨⟨h.b.vl, h.b.vf, h.b.p, h.b.q⟩, ?_⟩
  have e2 : txs (e.os ++ [newTa e]) = txs e.os ++ [begT e] := by simp [txs, newTa]
  show LFit (txs (e.os ++ [newTa e]))
  rw [e2]
  refine ⟨?_, fun t ht => ?_⟩
  ·rw [List.length_append, txs_len]
   have := (bg_len hk).1
   show e.os.length + 1 ≤ _
   omega
  ·rcases List.mem_append.1 ht with k | k
   ·exact h.o.2 t k
   ·obtain rfl := List.mem_singleton.1 k
    exact ⟨Nat.zero_le _, (fun x hx => by cases hx), Nat.zero_le _, (fun x hx => by cases hx), Nat.zero_le _⟩
 ·exact h
theorem bg_no {e : En} (h : bgOk e = false) : bgE e = e ∧ bgI e = 0 ∧ bgC e = 3 := by unfold bgE bgI bgC; rw [h]; exact ⟨rfl, rfl, rfl⟩
theorem bg_yes {e : En} (h : bgOk e = true) : bgE e = ⟨⟨e.b.vs, e.b.ps, e.b.qs, e.b.cs, e.b.nx + 1, e.b.va, e.b.vc, e.b.pa, e.b.pc, e.b.qa, e.b.qc⟩, e.os ++ [newTa e], none, 0⟩ ∧ bgI e = e.b.nx ∧ bgC e = 0 := by unfold bgE bgI bgC; rw [h]; exact ⟨rfl, rfl, rfl⟩
theorem nilT (w : World) (p : Nat) (t : Tx) (hr : t.rs = []) (hw : t.ws = []) : TLie w p p t none 0 none 0 := by
 refine ⟨p, Nat.le_refl _, Nat.le_refl _, ?_, ?_⟩
 ·rw [hr]
  exact ⟨GOwn.nil _ _, fun g e => by cases e⟩
 ·rw [hw]
  exact ⟨GOwn.nil _ _, fun g e => by cases e⟩
theorem lx_more {w w' : World} {lo m g : Nat} {c : En} {y : Ta} {g2 c2 : Nat} (k : EnLx w lo m g g g c) (hgl : g < w.heap.size) (hy : y.ra = none ∧ y.rc = 0 ∧ y.wa = none ∧ y.wc = 0 ∧ y.t.rs = [] ∧ y.t.ws = []) (n : Int) (hg : w.grownBy w' (Value.slice c.oa c.os.length c.oc).ownBlock)
  (hg2 : (Value.slice c.oa c.os.length c.oc).ownBlock = some g2 ∨ g2 = w.heap.size) (ho : GOwn encT 56 w' m (.slice (some ⟨g2, 0, none⟩) (c.os.length + 1) c2) (c.os ++ [y])) :
  EnLx w' lo m g g w'.heap.size ⟨⟨c.b.vs, c.b.ps, c.b.qs, c.b.cs, n, c.b.va, c.b.vc, c.b.pa, c.b.pc, c.b.qa, c.b.qc⟩, c.os ++ [y], some ⟨g2, 0, none⟩, c2⟩ := by
 have hz : Zn m g w w' := Zn.ofGrown hg (fun b e => k.o.lo b e)
 have hs : w.heap.size ≤ w'.heap.size := hg.size
 have hne : g2 ≠ g := by
  rcases hg2 with e | e
  ·have := k.o.up g2 e; omega
  ·omega
 have hl : (c.os ++ [y]).length = c.os.length + 1 := by simp
 have hb : BLie w' lo m c.b := k.b.zn hz (Or.inl (Nat.le_refl _))
 refine ⟨k.lm, k.hg, k.mg, by omega, ?_, ?_, ?_, ?_⟩
 ·obtain ⟨m1, m2, a1, a2, a3, b1, b2, b3⟩ := hb.ex
  exact ⟨m1, m2, a1, a2, a3, b1, b2, b3⟩
 ·show Lies encT 56 w' m w'.heap.size (.slice (some ⟨g2, 0, none⟩) (c.os ++ [y]).length c2) (c.os ++ [y])
  rw [hl]
  exact Lies.of ho
 ·intro b e
  cases e
  exact hne
 ·show Zs w' (.slice (some ⟨g2, 0, none⟩) (c.os ++ [y]).length c2) m g (c.os ++ [y])
  have z1 := k.z.grown hg
  have z2 : Zs w' (.slice (some ⟨g2, 0, none⟩) (c.os ++ [y]).length c2) m g c.os := z1.av (fun p q _ hq ha b e => by
   cases e
   show g2 < p ∨ q ≤ g2
   rcases hg2 with e | e
   ·exact ha g2 e
   ·right; omega)
  refine z2.snoc (Nat.le_refl g) (Nat.le_refl g) (Nat.le_refl g) ?_ (fun b e => by cases e; show g2 < g ∨ g ≤ g2; omega)
  obtain ⟨y1, y2, y3, y4, y5, y6⟩ := hy
  rw [y1, y2, y3, y4]
  exact nilT w' g y.t y5 y6

set_option maxRecDepth 100000 in
set_option maxHeartbeats 8000000 in
theorem ibegin1 (c : En) (hf : EnFit c) (lo m g ib : Nat) (hib : ib < lo) (w : World) (bg : Bx w g [.int .i32 1, .int .u32 0, .slice c.b.va c.b.vs.length c.b.vc, .slice c.b.pa c.b.ps.length c.b.pc, .slice c.b.qa c.b.qs.length c.b.qc, .int .i64 c.b.cs, .int .i64 c.b.nx, .slice c.oa c.os.length c.oc]) (bi : Bx w ib [.int .i64 0]) (lx : EnLx w lo m g g g c) :
  Calls Tryz.prog 32 #[.pointer (some ⟨g, 2, none⟩), .pointer (some ⟨ib, 0, none⟩)] w fun ex w' => ∃ d : En, ex = .returned (.int .i64 (bgC c)) ∧ EnSame (bgE c) d ∧ Bx w' g [.int .i32 1, .int .u32 0, .slice d.b.va d.b.vs.length d.b.vc, .slice d.b.pa d.b.ps.length d.b.pc, .slice d.b.qa d.b.qs.length d.b.qc, .int .i64 d.b.cs, .int .i64 d.b.nx, .slice d.oa d.os.length d.oc] ∧ Bx w' ib [.int .i64 (bgI c)] ∧ (∃ hi, EnLx w' lo m g g hi d ∧ hi ≤ w'.heap.size) ∧ (∀ b, (Value.slice d.oa d.os.length d.oc).ownBlock = some b → b < g ∨ w.heap.size ≤ b) ∧ Zn ib (g + 1) w w' := by
 have hmg : m ≤ g := lx.mg
 have hlm : lo ≤ m := lx.lm
 have hig : ib < g := by omega
 have hgi : g ≠ ib := by omega
 have hln : c.os.length ≤ 100000000 := Nat.le_trans hf.ol (by omega)
 have CE := hide (ieok c hf lx.lie.nonesE w lx.rows)
 have HI0 : Hid (∀ r1 r2 : Bool, bgOk c = (seB c && (!r1 && !r2)) ∨ True) := fun _ _ => Or.inr trivial
 clear HI0
 obtain ⟨rs, hrs⟩ : ∃ rs, rs = seB c := ⟨_, rfl⟩
 rw [← hrs] at CE
 have HRS := hide hrs
 have BG : Hid (Bx w g [.int .i32 1, .int .u32 0, .slice c.b.va c.b.vs.length c.b.vc, .slice c.b.pa c.b.ps.length c.b.pc, .slice c.b.qa c.b.qs.length c.b.qc, .int .i64 c.b.cs, .int .i64 c.b.nx, .slice c.oa c.os.length c.oc]) := bg
 have BI : Hid (Bx w ib [.int .i64 0]) := bi
 have LX : Hid (EnLx w lo m g g g c) := lx
 have HF : Hid (EnFit c) := hf
 clear bg bi lx hf hrs
 go_enter Tryz.func32, Tryz.ntmps32
 have x2 := BG.out.c2
 have x3 := BG.out.c3
 have x4 := BG.out.c4
 have x5 := BG.out.c5
 have x6 := BG.out.c6
 have x7 := BG.out.c7
 go_wp2_with fail
 refine CE.out.mono ?_
 rintro ex w1 ⟨rfl, hb⟩
 have BG1 : Hid (Bx w1 g [.int .i32 1, .int .u32 0, .slice c.b.va c.b.vs.length c.b.vc, .slice c.b.pa c.b.ps.length c.b.pc, .slice c.b.qa c.b.qs.length c.b.qc, .int .i64 c.b.cs, .int .i64 c.b.nx, .slice c.oa c.os.length c.oc]) := BG.out.below hb
 have BI1 : Hid (Bx w1 ib [.int .i64 0]) := BI.out.below hb
 have LX1 : Hid (EnLx w1 lo m g g g c) := LX.out.below hb
 have HZ1 : Hid (Zn ib (g + 1) w w1) := Zn.ofBelow _ _ hb
 clear hb BG BI LX CE x2 x3 x4 x5 x6 x7
 cases rs
 ·have HNO : Hid (bgOk c = false) := by show _ = _; unfold bgOk; rw [← HRS.out]; rfl
  go_wp2
  go_ret
  have hno := bg_no HNO.out
  refine ⟨c, ret_int hno.2.2.symm, by rw [hno.1]; exact ⟨⟨rfl, rfl, rfl, rfl, rfl⟩, rfl⟩, BG1.out, by rw [hno.2.1]; exact BI1.out, ⟨g, LX1.out, by have := BG1.out.lt; omega⟩, fun b e9 => Or.inl (LX1.out.o.up b e9), HZ1.out⟩
 have x7 := BG1.out.c7
 cases h4 : ((c.os.length : Int) == 4)
 rotate_left
 ·have HNO : Hid (bgOk c = false) := by show _ = _; unfold bgOk; rw [← HRS.out, h4]; rfl
  go_wp2
  go_ret
  have hno := bg_no HNO.out
  refine ⟨c, ret_int hno.2.2.symm, by rw [hno.1]; exact ⟨⟨rfl, rfl, rfl, rfl, rfl⟩, rfl⟩, BG1.out, by rw [hno.2.1]; exact BI1.out, ⟨g, LX1.out, by have := BG1.out.lt; omega⟩, fun b e9 => Or.inl (LX1.out.o.up b e9), HZ1.out⟩
 have x6 := BG1.out.c6
 cases h9 : (c.b.nx == 9999)
 rotate_left
 ·have HNO : Hid (bgOk c = false) := by show _ = _; unfold bgOk; rw [← HRS.out, h4, h9]; rfl
  go_wp2
  go_ret
  have hno := bg_no HNO.out
  refine ⟨c, ret_int hno.2.2.symm, by rw [hno.1]; exact ⟨⟨rfl, rfl, rfl, rfl, rfl⟩, rfl⟩, BG1.out, by rw [hno.2.1]; exact BI1.out, ⟨g, LX1.out, by have := BG1.out.lt; omega⟩, fun b e9 => Or.inl (LX1.out.o.up b e9), HZ1.out⟩
 have HOK : Hid (bgOk c = true) := by show _ = _; unfold bgOk; rw [← HRS.out, h4, h9]; rfl
 have hn := bg_len HOK.out
 have ew : IntKind.i64.wrap (c.b.nx + 1) = c.b.nx + 1 := by rw [IntKind.wrap_i64]; omega
 have y0 := BI1.out.c0
 have z0 := BI1.out.fz 0
 have z6 := BG1.out.fz 6
 go_upto_region 5 with fail
 clear x6 x7 y0 z0 z6
 have BG5 : Hid (Bx ((w1.setCell ⟨ib, 0, none⟩ (.int .i64 c.b.nx)).setCell ⟨g, 6, none⟩ (.int .i64 (c.b.nx + 1))) g [.int .i32 1, .int .u32 0, .slice c.b.va c.b.vs.length c.b.vc, .slice c.b.pa c.b.ps.length c.b.pc, .slice c.b.qa c.b.qs.length c.b.qc, .int .i64 c.b.cs, .int .i64 (c.b.nx + 1), .slice c.oa c.os.length c.oc]) := (BG1.out.setO (p := ⟨ib, 0, none⟩) (by show ib ≠ g; omega) _).set 6 _
 have BI5 : Hid (Bx ((w1.setCell ⟨ib, 0, none⟩ (.int .i64 c.b.nx)).setCell ⟨g, 6, none⟩ (.int .i64 (c.b.nx + 1))) ib [.int .i64 c.b.nx]) := (BI1.out.set 0 _).setO (p := ⟨g, 6, none⟩) (by show g ≠ ib; omega) _
 have LX5 : Hid (EnLx ((w1.setCell ⟨ib, 0, none⟩ (.int .i64 c.b.nx)).setCell ⟨g, 6, none⟩ (.int .i64 (c.b.nx + 1))) lo m g g g c) := (LX1.out.setl (a := ⟨ib, 0, none⟩) hib _).setg 6 _
 have HZ5 : Hid (Zn ib (g + 1) w ((w1.setCell ⟨ib, 0, none⟩ (.int .i64 c.b.nx)).setCell ⟨g, 6, none⟩ (.int .i64 (c.b.nx + 1)))) := (HZ1.out.trans ((zn_set w1 ⟨ib, 0, none⟩ _).mono (Nat.le_refl _) (by show ib + 1 ≤ g + 1; omega))).trans ((zn_set _ ⟨g, 6, none⟩ _).mono (by show ib ≤ g; omega) (Nat.le_refl _))
 clear BG1 BI1 LX1 HZ1
 generalize ((w1.setCell ⟨ib, 0, none⟩ (.int .i64 c.b.nx)).setCell ⟨g, 6, none⟩ (.int .i64 (c.b.nx + 1))) = w5 at *
 refine wp_region_held_drew (S := fun w' => w'.cell? ⟨ib, 0, none⟩ = some (.int .i64 c.b.nx) ∧ w'.cell? ⟨g, 5, none⟩ = some (.int .i64 c.b.cs)) (by kernel_rfl) ⟨BI5.out.c0, BG5.out.c5⟩ (fun hHeld => ?_)
 (refine tk 0 ?_ rfl (Or.inl ⟨by rfl, ?_⟩) ?_; rotate_left; (focus (intro w h; (try dsimp only at h); go_simp; (try with_reducible rfl))); simp only [Act.put, tA, tB, tD, tE, tF])
 (refine tk 1 ?_ rfl (Or.inl ⟨by rfl, ?_⟩) ?_; rotate_left; (focus (intro w h; (try dsimp only at h); go_simp; (try with_reducible rfl))); simp only [Act.put, tA, tB, tC, tD, tE, tF])
 (refine tk 2 ?_ rfl (Or.inl ⟨by rfl, ?_⟩) ?_; rotate_left; (focus (intro w h; (try dsimp only at h); go_simp; (try with_reducible rfl))); simp only [Act.put, tA, tB, tC, tD, tE, tF])
 (refine tk 3 ?_ rfl (Or.inl ⟨by rfl, ?_⟩) ?_; rotate_left; (focus (intro w h; (try dsimp only at h); go_simp; (try with_reducible rfl))); simp only [Act.put, tA, tB, tC, tD, tE, tF])
 (refine tk 5 ?_ rfl (Or.inl ⟨by rfl, ?_⟩) ?_; rotate_left; (focus (intro w h; (try dsimp only at h); go_simp; (try with_reducible rfl))); simp only [Act.put, tA, tB, tC, tD, tE, tF])
 (refine tk 6 ?_ rfl (Or.inl ⟨by rfl, ?_⟩) ?_; rotate_left; (focus (intro w h; (try dsimp only at h); go_simp; (try with_reducible rfl))); simp only [Act.put, tA, tB, tC, tD, tE, tF])
 (refine tk 7 ?_ rfl (Or.inl ⟨by rfl, ?_⟩) ?_; rotate_left; (focus (intro w h; (try dsimp only at h); go_simp; (try with_reducible rfl))); simp only [Act.put, tA, tB, tC, tD, tE, tF])
 (refine tk 8 ?_ rfl (Or.inl ⟨by rfl, ?_⟩) ?_; rotate_left; (focus (intro w h; (try dsimp only at h); go_simp; (try with_reducible rfl))); simp only [Act.put, tA, tB, tC, tD, tE, tF])
 (refine tk 9 ?_ rfl (Or.inl ⟨by rfl, ?_⟩) ?_; rotate_left; (focus (intro w h; (try dsimp only at h); go_simp; (try with_reducible rfl))); simp only [Act.put, tA, tB, tC, tD, tE, tF])
 (refine tk 10 ?_ rfl (Or.inl ⟨by rfl, ?_⟩) ?_; rotate_left; (focus (intro w h; (try dsimp only at h); go_simp; (try with_reducible rfl))); simp only [Act.put, tA, tB, tC, tD, tE, tF])
 (refine tk 11 ?_ rfl (Or.inl ⟨by rfl, ?_⟩) ?_; rotate_left; (focus (intro w h; (try dsimp only at h); go_simp; (try with_reducible rfl))); simp only [Act.put, tA, tB, tC, tD, tE, tF])
 have hbd : Below w5.heap.size w5 w5.drew := (belowRefl w5).drew
 have BG6 := hide (BG5.out.below hbd)
 have BI6 := hide (BI5.out.below hbd)
 have LX6 := hide (LX5.out.below hbd)
 have HZ6 := hide (HZ5.out.trans (Zn.ofBelow ib (g + 1) hbd))
 clear hbd BG5 BI5 LX5 HZ5
 generalize w5.drew = vd at *
 refine wpAnyH_ready (rs := [4, 12]) (by kernel_rfl) (by simp) ?_
 refine (AllReadyH.cons rfl (fun K hK => ?_) (AllReadyH.cons rfl (fun K hK => ?_) AllReadyH.nil))
 ·have l7 := BG6.out.c7
  go_simp
  clear l7
  refine hK.out _ _ ⟨BI6.out.c0, BG6.out.c5⟩ (fun hHeldL => ?_)
  clear hK K
  refine wpAnyH_ready (rs := [12]) (by kernel_rfl) (by simp) ?_
  refine (AllReadyH.cons rfl (fun K hK => ?_) AllReadyH.nil)
  go_simp
  have hba : Below vd.heap.size vd (vd.alloc (.cells #[.int .i64 c.b.nx, .int .i64 1, .int .i64 c.b.cs, .int .i64 0, .slice none 0 0, .slice none 0 0, .bool false, .string ⟨#[]⟩] 56)) := (belowRefl vd).alloc (Nat.le_refl _) _
  have HN := hide (heap_alloc_new vd (.cells #[.int .i64 c.b.nx, .int .i64 1, .int .i64 c.b.cs, .int .i64 0, .slice none 0 0, .slice none 0 0, .bool false, .string ⟨#[]⟩] 56))
  have BG7 := hide (BG6.out.below hba)
  have BI7 := hide (BI6.out.below hba)
  have LX7 := hide (LX6.out.below hba)
  have HZ7 := hide (HZ6.out.trans (Zn.ofBelow ib (g + 1) hba))
  clear hba BG6 BI6 LX6 HZ6
  generalize (vd.alloc (.cells #[.int .i64 c.b.nx, .int .i64 1, .int .i64 c.b.cs, .int .i64 0, .slice none 0 0, .slice none 0 0, .bool false, .string ⟨#[]⟩] 56)) = v7 at *
  refine hK.out _ _ ⟨BI7.out.c0, BG7.out.c5⟩ (fun hHeldB => ?_)
  clear hK K
  refine wpAnyH_ready (rs := [13]) (by kernel_rfl) (by simp) ?_
  refine (AllReadyH.cons rfl (fun K hK => ?_) AllReadyH.nil)
  refine stepAppK (E := encT) 31 56 104 _ Tryz.underlying31 Tryz.info56 rfl (by omega) rfl _ _ rfl (base := m) (v := .slice c.oa c.os.length c.oc) (xs := c.os) (newTa c) tone rfl LX7.out.o.own rfl HN.out hln (by have := LX7.out.mg; have := BG7.out.lt; omega) ?_
  intro g2 c2 v8 ho hg hg2 hlt2
  have hgl := BG7.out.lt
  have BG8 := hide (bx_marked BG7.out hg (fun e => by have := LX7.out.o.up _ e; omega))
  have BI8 := hide (bx_marked BI7.out hg (fun e => by have := LX7.out.o.lo _ e; have := LX7.out.lm; omega))
  have HZ8 : Hid (Zn ib (g + 1) w v8) := HZ7.out.trans (Zn.ofGrown hg (fun b e => by have := LX7.out.o.lo b e; have := LX7.out.lm; omega))
  have LX8 := hide (lx_more (y := newTa c) LX7.out hgl ⟨rfl, rfl, rfl, rfl, rfl, rfl⟩ (c.b.nx + 1) hg hg2 ho)
  have HOB : Hid (g2 < g ∨ w.heap.size ≤ g2) := by
   rcases hg2 with e9 | e9
   ·exact Or.inl (LX7.out.o.up _ e9)
   ·right; rw [e9]; exact HZ7.out.size
  clear ho hg hg2 BG7 BI7 LX7 HZ7 hgl
  refine hK.out _ _ ⟨BI8.out.c0, BG8.out.c5⟩ (fun hHeldA => ?_)
  clear hK K
  (refine tk 14 ?_ rfl (Or.inl ⟨by rfl, ?_⟩) ?_; rotate_left; (focus (intro w h; (try dsimp only at h); go_simp; (try with_reducible rfl))); simp only [Act.put, tA, tB, tC, tD, tE, tF])
  (refine tk 15 ?_ rfl (Or.inl ⟨by rfl, ?_⟩) ?_; rotate_left; (focus (intro w h; (try dsimp only at h); go_simp; (try with_reducible rfl))); simp only [Act.put, tA, tB, tC, tD, tE, tF])
  refine wpAnyH_ready (rs := [16]) (by kernel_rfl) (by simp) ?_
  refine (AllReadyH.cons rfl (fun K hK => ?_) AllReadyH.nil)
  have l7 := BG8.out.c7
  have f7 := BG8.out.fz 7
  go_simp
  clear l7 f7
  have BG9 := hide (BG8.out.set 7 (.slice (some ⟨g2, 0, none⟩) (c.os.length + 1) c2))
  have BI9 := hide (BI8.out.setO (p := ⟨g, 7, none⟩) (by show g ≠ ib; omega) (.slice (some ⟨g2, 0, none⟩) (c.os.length + 1) c2))
  have LX9 := hide (LX8.out.setg 7 (.slice (some ⟨g2, 0, none⟩) (c.os.length + 1) c2))
  have HZ9 := hide (HZ8.out.trans ((zn_set v8 ⟨g, 7, none⟩ (.slice (some ⟨g2, 0, none⟩) (c.os.length + 1) c2)).mono (by show ib ≤ g; omega) (Nat.le_refl _)))
  have HS9 : Hid (v8.heap.size ≤ (v8.setCell ⟨g, 7, none⟩ (.slice (some ⟨g2, 0, none⟩) (c.os.length + 1) c2)).heap.size) := by show _ ≤ _; simp [World.setCell]
  refine hK.out _ _ ⟨BI9.out.c0, BG9.out.c5⟩ (fun hHeldS => ?_)
  clear hK K
  refine wpAnyH_done (by kernel_rfl) ?_ _
  go_wp2
  go_ret
  have hyes := bg_yes HOK.out
  refine ⟨⟨⟨c.b.vs, c.b.ps, c.b.qs, c.b.cs, c.b.nx + 1, c.b.va, c.b.vc, c.b.pa, c.b.pc, c.b.qa, c.b.qc⟩, c.os ++ [newTa c], some ⟨g2, 0, none⟩, c2⟩, ret_int hyes.2.2.symm, by rw [hyes.1]; exact ⟨⟨rfl, rfl, rfl, rfl, rfl⟩, rfl⟩, ?_, by rw [hyes.2.1]; exact BI9.out, ⟨_, LX9.out, HS9.out⟩, (fun b e9 => by cases e9; exact HOB.out), HZ9.out⟩
  have hl : (c.os ++ [newTa c]).length = c.os.length + 1 := by simp
  show Bx _ g [.int .i32 1, .int .u32 0, .slice c.b.va c.b.vs.length c.b.vc, .slice c.b.pa c.b.ps.length c.b.pc, .slice c.b.qa c.b.qs.length c.b.qc, .int .i64 c.b.cs, .int .i64 (c.b.nx + 1), .slice (some ⟨g2, 0, none⟩) (c.os ++ [newTa c]).length c2]
  rw [hl]
  exact BG9.out
 ·go_simp
  have hba : Below vd.heap.size vd (vd.alloc (.cells #[.int .i64 c.b.nx, .int .i64 1, .int .i64 c.b.cs, .int .i64 0, .slice none 0 0, .slice none 0 0, .bool false, .string ⟨#[]⟩] 56)) := (belowRefl vd).alloc (Nat.le_refl _) _
  have HN := hide (heap_alloc_new vd (.cells #[.int .i64 c.b.nx, .int .i64 1, .int .i64 c.b.cs, .int .i64 0, .slice none 0 0, .slice none 0 0, .bool false, .string ⟨#[]⟩] 56))
  have BG7 := hide (BG6.out.below hba)
  have BI7 := hide (BI6.out.below hba)
  have LX7 := hide (LX6.out.below hba)
  have HZ7 := hide (HZ6.out.trans (Zn.ofBelow ib (g + 1) hba))
  clear hba BG6 BI6 LX6 HZ6
  generalize (vd.alloc (.cells #[.int .i64 c.b.nx, .int .i64 1, .int .i64 c.b.cs, .int .i64 0, .slice none 0 0, .slice none 0 0, .bool false, .string ⟨#[]⟩] 56)) = v7 at *
  refine hK.out _ _ ⟨BI7.out.c0, BG7.out.c5⟩ (fun hHeldB => ?_)
  clear hK K
  refine wpAnyH_ready (rs := [4]) (by kernel_rfl) (by simp) ?_
  refine (AllReadyH.cons rfl (fun K hK => ?_) AllReadyH.nil)
  have l7 := BG7.out.c7
  go_simp
  clear l7
  refine hK.out _ _ ⟨BI7.out.c0, BG7.out.c5⟩ (fun hHeldL => ?_)
  clear hK K
  refine wpAnyH_ready (rs := [13]) (by kernel_rfl) (by simp) ?_
  refine (AllReadyH.cons rfl (fun K hK => ?_) AllReadyH.nil)
  refine stepAppK (E := encT) 31 56 104 _ Tryz.underlying31 Tryz.info56 rfl (by omega) rfl _ _ rfl (base := m) (v := .slice c.oa c.os.length c.oc) (xs := c.os) (newTa c) tone rfl LX7.out.o.own rfl HN.out hln (by have := LX7.out.mg; have := BG7.out.lt; omega) ?_
  intro g2 c2 v8 ho hg hg2 hlt2
  have hgl := BG7.out.lt
  have BG8 := hide (bx_marked BG7.out hg (fun e => by have := LX7.out.o.up _ e; omega))
  have BI8 := hide (bx_marked BI7.out hg (fun e => by have := LX7.out.o.lo _ e; have := LX7.out.lm; omega))
  have HZ8 : Hid (Zn ib (g + 1) w v8) := HZ7.out.trans (Zn.ofGrown hg (fun b e => by have := LX7.out.o.lo b e; have := LX7.out.lm; omega))
  have LX8 := hide (lx_more (y := newTa c) LX7.out hgl ⟨rfl, rfl, rfl, rfl, rfl, rfl⟩ (c.b.nx + 1) hg hg2 ho)
  have HOB : Hid (g2 < g ∨ w.heap.size ≤ g2) := by
   rcases hg2 with e9 | e9
   ·exact Or.inl (LX7.out.o.up _ e9)
   ·right; rw [e9]; exact HZ7.out.size
  clear ho hg hg2 BG7 BI7 LX7 HZ7 hgl
  refine hK.out _ _ ⟨BI8.out.c0, BG8.out.c5⟩ (fun hHeldA => ?_)
  clear hK K
  (refine tk 14 ?_ rfl (Or.inl ⟨by rfl, ?_⟩) ?_; rotate_left; (focus (intro w h; (try dsimp only at h); go_simp; (try with_reducible rfl))); simp only [Act.put, tA, tB, tC, tD, tE, tF])
  (refine tk 15 ?_ rfl (Or.inl ⟨by rfl, ?_⟩) ?_; rotate_left; (focus (intro w h; (try dsimp only at h); go_simp; (try with_reducible rfl))); simp only [Act.put, tA, tB, tC, tD, tE, tF])
  refine wpAnyH_ready (rs := [16]) (by kernel_rfl) (by simp) ?_
  refine (AllReadyH.cons rfl (fun K hK => ?_) AllReadyH.nil)
  have l7 := BG8.out.c7
  have f7 := BG8.out.fz 7
  go_simp
  clear l7 f7
  have BG9 := hide (BG8.out.set 7 (.slice (some ⟨g2, 0, none⟩) (c.os.length + 1) c2))
  have BI9 := hide (BI8.out.setO (p := ⟨g, 7, none⟩) (by show g ≠ ib; omega) (.slice (some ⟨g2, 0, none⟩) (c.os.length + 1) c2))
  have LX9 := hide (LX8.out.setg 7 (.slice (some ⟨g2, 0, none⟩) (c.os.length + 1) c2))
  have HZ9 := hide (HZ8.out.trans ((zn_set v8 ⟨g, 7, none⟩ (.slice (some ⟨g2, 0, none⟩) (c.os.length + 1) c2)).mono (by show ib ≤ g; omega) (Nat.le_refl _)))
  have HS9 : Hid (v8.heap.size ≤ (v8.setCell ⟨g, 7, none⟩ (.slice (some ⟨g2, 0, none⟩) (c.os.length + 1) c2)).heap.size) := by show _ ≤ _; simp [World.setCell]
  refine hK.out _ _ ⟨BI9.out.c0, BG9.out.c5⟩ (fun hHeldS => ?_)
  clear hK K
  refine wpAnyH_done (by kernel_rfl) ?_ _
  go_wp2
  go_ret
  have hyes := bg_yes HOK.out
  refine ⟨⟨⟨c.b.vs, c.b.ps, c.b.qs, c.b.cs, c.b.nx + 1, c.b.va, c.b.vc, c.b.pa, c.b.pc, c.b.qa, c.b.qc⟩, c.os ++ [newTa c], some ⟨g2, 0, none⟩, c2⟩, ret_int hyes.2.2.symm, by rw [hyes.1]; exact ⟨⟨rfl, rfl, rfl, rfl, rfl⟩, rfl⟩, ?_, by rw [hyes.2.1]; exact BI9.out, ⟨_, LX9.out, HS9.out⟩, (fun b e9 => by cases e9; exact HOB.out), HZ9.out⟩
  have hl : (c.os ++ [newTa c]).length = c.os.length + 1 := by simp
  show Bx _ g [.int .i32 1, .int .u32 0, .slice c.b.va c.b.vs.length c.b.vc, .slice c.b.pa c.b.ps.length c.b.pc, .slice c.b.qa c.b.qs.length c.b.qc, .int .i64 c.b.cs, .int .i64 (c.b.nx + 1), .slice (some ⟨g2, 0, none⟩) (c.os ++ [newTa c]).length c2]
  rw [hl]
  exact BG9.out

end Go.Proofs.YtjeicgibddfifaaGreat

namespace Go.Proofs
abbrev Tryz.muLink : Go.Conc.Locks.MuLink := { lock := 72, unlock := 73, ilock := 115, iunlock := 116, lockSlow := 149, unlockSlow := 152, disable := 145, enable := 147, acquire := 148, relMerge := 150, cas32 := 146, add32 := 151, tMutex := 116, tIMutex := 114, tPMutex := 151, tPIMutex := 185, tPI32 := 187, tUP := 189, tNoCopy := 111, tU32 := 112 }
theorem Tryz.muLib : Go.Conc.Locks.MuLib Tryz.prog Tryz.muLink :=
 ⟨Tryz.func72, Tryz.func73, Tryz.func115, Tryz.func116, Tryz.func145, Tryz.func147, Tryz.func148, Tryz.func150, Tryz.func146, Tryz.func151, Tryz.underlying114, Tryz.runUnderlying114, Tryz.sizeOf114, Tryz.isAgg114, Tryz.zeroValue114, Tryz.underlying116, Tryz.runUnderlying116, Tryz.sizeOf116, Tryz.isAgg116, Tryz.zeroValue116, Tryz.underlying151, Tryz.runUnderlying151, Tryz.sizeOf151, Tryz.isAgg151, Tryz.zeroValue151, Tryz.underlying185, Tryz.runUnderlying185, Tryz.sizeOf185, Tryz.isAgg185, Tryz.zeroValue185, Tryz.underlying187, Tryz.runUnderlying187, Tryz.sizeOf187, Tryz.isAgg187, Tryz.zeroValue187, Tryz.underlying189, Tryz.runUnderlying189, Tryz.sizeOf189, Tryz.isAgg189, Tryz.zeroValue189, Tryz.underlying111, Tryz.runUnderlying111, Tryz.sizeOf111, Tryz.isAgg111, Tryz.zeroValue111, Tryz.underlying21, Tryz.runUnderlying21, Tryz.sizeOf21, Tryz.isAgg21, Tryz.zeroValue21, (by kernel_rfl)⟩
end Go.Proofs

namespace Go.Proofs.YtjeicgibddfifaaGreat
open Go.RowKit
open KM
open Go.MuLone
attribute [local go_sem ↓] Go.wp_at_zero Go.wp_at_succ

set_option maxRecDepth 100000 in
set_option maxHeartbeats 8000000 in
theorem ichange (c : En) (hf : EnFit c) (lo m g ib : Nat) (hib : ib < lo) (w : World) (bg : Bx w g [.int .i32 0, .int .u32 0, .slice c.b.va c.b.vs.length c.b.vc, .slice c.b.pa c.b.ps.length c.b.pc, .slice c.b.qa c.b.qs.length c.b.qc, .int .i64 c.b.cs, .int .i64 c.b.nx, .slice c.oa c.os.length c.oc]) (bi : Bx w ib [.int .i64 0]) (lx : EnLx w lo m g g g c) :
  Calls Tryz.prog 31 #[.pointer (some ⟨g, 0, none⟩), .func (.func 32) #[] #[.pointer (some ⟨ib, 0, none⟩)]] w fun ex w' => ∃ (d : En) (hi : Nat), ex = .returned (.tuple #[.agg #[.slice d.b.va d.b.vs.length d.b.vc, .slice d.b.pa d.b.ps.length d.b.pc, .slice d.b.qa d.b.qs.length d.b.qc, .int .i64 d.b.cs, .int .i64 d.b.nx, .slice d.oa d.os.length d.oc], .int .i64 (bgC c)]) ∧ EnSame (bgE c) d ∧ Bx w' ib [.int .i64 (bgI c)] ∧ EnLx w' lo m g g hi d ∧ hi ≤ w'.heap.size ∧ Zn ib (g + 1) w w' := by
 have hmg : m ≤ g := lx.mg
 have hlm : lo ≤ m := lx.lm
 have hgw : g < w.heap.size := bg.lt
 have hig : ib < g := by omega
 have hb0 : Below w.heap.size w (w.alloc (.cells #[.slice none 0 0, .slice none 0 0, .slice none 0 0, .int .i64 0, .int .i64 0, .slice none 0 0] 35)) := (belowRefl w).alloc (Nat.le_refl _) _
 have BR0 : Hid (Bx (w.alloc (.cells #[.slice none 0 0, .slice none 0 0, .slice none 0 0, .int .i64 0, .int .i64 0, .slice none 0 0] 35)) w.heap.size [.slice none 0 0, .slice none 0 0, .slice none 0 0, .int .i64 0, .int .i64 0, .slice none 0 0]) := Bx.new w [.slice none 0 0, .slice none 0 0, .slice none 0 0, .int .i64 0, .int .i64 0, .slice none 0 0] 35
 have BG0 : Hid (Bx (w.alloc (.cells #[.slice none 0 0, .slice none 0 0, .slice none 0 0, .int .i64 0, .int .i64 0, .slice none 0 0] 35)) g [.int .i32 0, .int .u32 0, .slice c.b.va c.b.vs.length c.b.vc, .slice c.b.pa c.b.ps.length c.b.pc, .slice c.b.qa c.b.qs.length c.b.qc, .int .i64 c.b.cs, .int .i64 c.b.nx, .slice c.oa c.os.length c.oc]) := bg.below hb0
 have BI0 : Hid (Bx (w.alloc (.cells #[.slice none 0 0, .slice none 0 0, .slice none 0 0, .int .i64 0, .int .i64 0, .slice none 0 0] 35)) ib [.int .i64 0]) := bi.below hb0
 have LX0 : Hid (EnLx (w.alloc (.cells #[.slice none 0 0, .slice none 0 0, .slice none 0 0, .int .i64 0, .int .i64 0, .slice none 0 0] 35)) lo m g g g c) := lx.below hb0
 have HZ0 : Hid (Zn ib (g + 1) w (w.alloc (.cells #[.slice none 0 0, .slice none 0 0, .slice none 0 0, .int .i64 0, .int .i64 0, .slice none 0 0] 35))) := Zn.ofBelow _ _ hb0
 have HF : Hid (EnFit c) := hf
 clear bg bi lx hb0 hf
 go_enter_defers Tryz.func31, Tryz.ntmps31
 go_upto_region 1 with fail
 generalize (w.alloc (.cells #[.slice none 0 0, .slice none 0 0, .slice none 0 0, .int .i64 0, .int .i64 0, .slice none 0 0] 35)) = w0 at *
 have x0 := BG0.out.c0
 have z0 := BG0.out.fz 0
 go_wp2_with fail
 refine (lock_free Tryz.muLib ⟨g, 0, none⟩ _ x0 z0).mono ?_
 rintro ex wl ⟨rfl, rfl⟩
 have BG1 : Hid (Bx (w0.setCell ⟨g, 0, none⟩ (.int .i32 1)) g [.int .i32 1, .int .u32 0, .slice c.b.va c.b.vs.length c.b.vc, .slice c.b.pa c.b.ps.length c.b.pc, .slice c.b.qa c.b.qs.length c.b.qc, .int .i64 c.b.cs, .int .i64 c.b.nx, .slice c.oa c.os.length c.oc]) := BG0.out.set 0 _
 have BI1 : Hid (Bx (w0.setCell ⟨g, 0, none⟩ (.int .i32 1)) ib [.int .i64 0]) := BI0.out.setO (p := ⟨g, 0, none⟩) (by show g ≠ ib; omega) _
 have BR1 : Hid (Bx (w0.setCell ⟨g, 0, none⟩ (.int .i32 1)) w.heap.size [.slice none 0 0, .slice none 0 0, .slice none 0 0, .int .i64 0, .int .i64 0, .slice none 0 0]) := BR0.out.setO (p := ⟨g, 0, none⟩) (by show g ≠ w.heap.size; omega) _
 have LX1 : Hid (EnLx (w0.setCell ⟨g, 0, none⟩ (.int .i32 1)) lo m g g g c) := LX0.out.setg 0 _
 have HZ1 : Hid (Zn ib (g + 1) w (w0.setCell ⟨g, 0, none⟩ (.int .i32 1))) := HZ0.out.trans ((zn_set w0 ⟨g, 0, none⟩ _).mono (by show ib ≤ g; omega) (Nat.le_refl _))
 clear BG0 BI0 BR0 LX0 HZ0 x0 z0
 have HS1 : Hid (w.heap.size < (w0.setCell ⟨g, 0, none⟩ (.int .i32 1)).heap.size) := BR1.out.lt
 generalize (w0.setCell ⟨g, 0, none⟩ (.int .i32 1)) = w1 at *
 have CS := hide (ibegin1 c HF.out lo m g ib hib w1 BG1.out BI1.out LX1.out)
 go_wp2_with fail
 refine CS.out.mono ?_
 rintro ex w2 ⟨d, rfl, hsm, hbg, hbi, ⟨hi, hlx, hhi⟩, hob, hz⟩
 have BG2 : Hid (Bx w2 g [.int .i32 1, .int .u32 0, .slice d.b.va d.b.vs.length d.b.vc, .slice d.b.pa d.b.ps.length d.b.pc, .slice d.b.qa d.b.qs.length d.b.qc, .int .i64 d.b.cs, .int .i64 d.b.nx, .slice d.oa d.os.length d.oc]) := hbg
 have BI2 : Hid (Bx w2 ib [.int .i64 (bgI c)]) := hbi
 have LX2 : Hid (EnLx w2 lo m g g hi d) := hlx
 have BR2 : Hid (Bx w2 w.heap.size [.slice none 0 0, .slice none 0 0, .slice none 0 0, .int .i64 0, .int .i64 0, .slice none 0 0]) := BR1.out.zn hz (Or.inr (by omega))
 have HZ2 : Hid (Zn ib (g + 1) w w2) := HZ1.out.trans hz
 have SM := hide hsm
 have HOB : Hid (∀ b, (Value.slice d.oa d.os.length d.oc).ownBlock = some b → b ≠ w.heap.size) := fun b e9 => by have h9 := hob b e9; have := HS1.out; omega
 have HHI := hide hhi
 clear hsm hbg hbi hlx hz hhi hob BG1 BI1 BR1 LX1 HZ1 CS
 have x2 := BG2.out.c2
 have x3 := BG2.out.c3
 have x4 := BG2.out.c4
 have x5 := BG2.out.c5
 have x6 := BG2.out.c6
 have x7 := BG2.out.c7
 have q0 := BR2.out.c0
 have fq0 := BR2.out.fz 0
 have q1 := BR2.out.c1
 have fq1 := BR2.out.fz 1
 have q2 := BR2.out.c2
 have fq2 := BR2.out.fz 2
 have q3 := BR2.out.c3
 have fq3 := BR2.out.fz 3
 have q4 := BR2.out.c4
 have fq4 := BR2.out.fz 4
 have q5 := BR2.out.c5
 have fq5 := BR2.out.fz 5
 go_wp2
 have hgr : g ≠ w.heap.size := by omega
 have BG3 : Hid (Bx ((((((w2.setCell ⟨w.heap.size, 0, none⟩ (.slice d.b.va d.b.vs.length d.b.vc)).setCell ⟨w.heap.size, 1, none⟩ (.slice d.b.pa d.b.ps.length d.b.pc)).setCell ⟨w.heap.size, 2, none⟩ (.slice d.b.qa d.b.qs.length d.b.qc)).setCell ⟨w.heap.size, 3, none⟩ (.int .i64 d.b.cs)).setCell ⟨w.heap.size, 4, none⟩ (.int .i64 d.b.nx)).setCell ⟨w.heap.size, 5, none⟩ (.slice d.oa d.os.length d.oc)) g [.int .i32 1, .int .u32 0, .slice d.b.va d.b.vs.length d.b.vc, .slice d.b.pa d.b.ps.length d.b.pc, .slice d.b.qa d.b.qs.length d.b.qc, .int .i64 d.b.cs, .int .i64 d.b.nx, .slice d.oa d.os.length d.oc]) := (((((BG2.out.setO (p := ⟨w.heap.size, 0, none⟩) (by show w.heap.size ≠ g; omega) _).setO (p := ⟨w.heap.size, 1, none⟩) (by show w.heap.size ≠ g; omega) _).setO (p := ⟨w.heap.size, 2, none⟩) (by show w.heap.size ≠ g; omega) _).setO (p := ⟨w.heap.size, 3, none⟩) (by show w.heap.size ≠ g; omega) _).setO (p := ⟨w.heap.size, 4, none⟩) (by show w.heap.size ≠ g; omega) _).setO (p := ⟨w.heap.size, 5, none⟩) (by show w.heap.size ≠ g; omega) _
 have BI3 : Hid (Bx ((((((w2.setCell ⟨w.heap.size, 0, none⟩ (.slice d.b.va d.b.vs.length d.b.vc)).setCell ⟨w.heap.size, 1, none⟩ (.slice d.b.pa d.b.ps.length d.b.pc)).setCell ⟨w.heap.size, 2, none⟩ (.slice d.b.qa d.b.qs.length d.b.qc)).setCell ⟨w.heap.size, 3, none⟩ (.int .i64 d.b.cs)).setCell ⟨w.heap.size, 4, none⟩ (.int .i64 d.b.nx)).setCell ⟨w.heap.size, 5, none⟩ (.slice d.oa d.os.length d.oc)) ib [.int .i64 (bgI c)]) := (((((BI2.out.setO (p := ⟨w.heap.size, 0, none⟩) (by show w.heap.size ≠ ib; omega) _).setO (p := ⟨w.heap.size, 1, none⟩) (by show w.heap.size ≠ ib; omega) _).setO (p := ⟨w.heap.size, 2, none⟩) (by show w.heap.size ≠ ib; omega) _).setO (p := ⟨w.heap.size, 3, none⟩) (by show w.heap.size ≠ ib; omega) _).setO (p := ⟨w.heap.size, 4, none⟩) (by show w.heap.size ≠ ib; omega) _).setO (p := ⟨w.heap.size, 5, none⟩) (by show w.heap.size ≠ ib; omega) _
 have BR3 : Hid (Bx ((((((w2.setCell ⟨w.heap.size, 0, none⟩ (.slice d.b.va d.b.vs.length d.b.vc)).setCell ⟨w.heap.size, 1, none⟩ (.slice d.b.pa d.b.ps.length d.b.pc)).setCell ⟨w.heap.size, 2, none⟩ (.slice d.b.qa d.b.qs.length d.b.qc)).setCell ⟨w.heap.size, 3, none⟩ (.int .i64 d.b.cs)).setCell ⟨w.heap.size, 4, none⟩ (.int .i64 d.b.nx)).setCell ⟨w.heap.size, 5, none⟩ (.slice d.oa d.os.length d.oc)) w.heap.size [.slice d.b.va d.b.vs.length d.b.vc, .slice d.b.pa d.b.ps.length d.b.pc, .slice d.b.qa d.b.qs.length d.b.qc, .int .i64 d.b.cs, .int .i64 d.b.nx, .slice d.oa d.os.length d.oc]) := (((((BR2.out.set 0 _).set 1 _).set 2 _).set 3 _).set 4 _).set 5 _
 have LX3 : Hid (EnLx ((((((w2.setCell ⟨w.heap.size, 0, none⟩ (.slice d.b.va d.b.vs.length d.b.vc)).setCell ⟨w.heap.size, 1, none⟩ (.slice d.b.pa d.b.ps.length d.b.pc)).setCell ⟨w.heap.size, 2, none⟩ (.slice d.b.qa d.b.qs.length d.b.qc)).setCell ⟨w.heap.size, 3, none⟩ (.int .i64 d.b.cs)).setCell ⟨w.heap.size, 4, none⟩ (.int .i64 d.b.nx)).setCell ⟨w.heap.size, 5, none⟩ (.slice d.oa d.os.length d.oc)) lo m g g hi d) := (((((LX2.out.setr (a := ⟨w.heap.size, 0, none⟩) (by show g ≤ w.heap.size; omega) HOB.out _).setr (a := ⟨w.heap.size, 1, none⟩) (by show g ≤ w.heap.size; omega) HOB.out _).setr (a := ⟨w.heap.size, 2, none⟩) (by show g ≤ w.heap.size; omega) HOB.out _).setr (a := ⟨w.heap.size, 3, none⟩) (by show g ≤ w.heap.size; omega) HOB.out _).setr (a := ⟨w.heap.size, 4, none⟩) (by show g ≤ w.heap.size; omega) HOB.out _).setr (a := ⟨w.heap.size, 5, none⟩) (by show g ≤ w.heap.size; omega) HOB.out _
 have hs3 : w2.heap.size ≤ ((((((w2.setCell ⟨w.heap.size, 0, none⟩ (.slice d.b.va d.b.vs.length d.b.vc)).setCell ⟨w.heap.size, 1, none⟩ (.slice d.b.pa d.b.ps.length d.b.pc)).setCell ⟨w.heap.size, 2, none⟩ (.slice d.b.qa d.b.qs.length d.b.qc)).setCell ⟨w.heap.size, 3, none⟩ (.int .i64 d.b.cs)).setCell ⟨w.heap.size, 4, none⟩ (.int .i64 d.b.nx)).setCell ⟨w.heap.size, 5, none⟩ (.slice d.oa d.os.length d.oc)).heap.size := by simp [World.setCell]
 have HHI3 : Hid (hi ≤ ((((((w2.setCell ⟨w.heap.size, 0, none⟩ (.slice d.b.va d.b.vs.length d.b.vc)).setCell ⟨w.heap.size, 1, none⟩ (.slice d.b.pa d.b.ps.length d.b.pc)).setCell ⟨w.heap.size, 2, none⟩ (.slice d.b.qa d.b.qs.length d.b.qc)).setCell ⟨w.heap.size, 3, none⟩ (.int .i64 d.b.cs)).setCell ⟨w.heap.size, 4, none⟩ (.int .i64 d.b.nx)).setCell ⟨w.heap.size, 5, none⟩ (.slice d.oa d.os.length d.oc)).heap.size) := Nat.le_trans HHI.out hs3
 have HZ3 : Hid (Zn ib (g + 1) w ((((((w2.setCell ⟨w.heap.size, 0, none⟩ (.slice d.b.va d.b.vs.length d.b.vc)).setCell ⟨w.heap.size, 1, none⟩ (.slice d.b.pa d.b.ps.length d.b.pc)).setCell ⟨w.heap.size, 2, none⟩ (.slice d.b.qa d.b.qs.length d.b.qc)).setCell ⟨w.heap.size, 3, none⟩ (.int .i64 d.b.cs)).setCell ⟨w.heap.size, 4, none⟩ (.int .i64 d.b.nx)).setCell ⟨w.heap.size, 5, none⟩ (.slice d.oa d.os.length d.oc))) := by
  refine ⟨HZ2.out.os, HZ2.out.tape, HZ2.out.output, Nat.le_trans HZ2.out.size hs3, fun k hk hn => ?_⟩
  rw [Below.heap_setCell _ _ _ k (by show k ≠ w.heap.size; omega), Below.heap_setCell _ _ _ k (by show k ≠ w.heap.size; omega), Below.heap_setCell _ _ _ k (by show k ≠ w.heap.size; omega), Below.heap_setCell _ _ _ k (by show k ≠ w.heap.size; omega), Below.heap_setCell _ _ _ k (by show k ≠ w.heap.size; omega), Below.heap_setCell _ _ _ k (by show k ≠ w.heap.size; omega)]
  exact HZ2.out.block k hk hn
 clear BG2 BI2 BR2 LX2 HZ2 HHI hs3 x2 x3 x4 x5 x6 x7
 clear q0 fq0 q1 fq1 q2 fq2 q3 fq3 q4 fq4 q5 fq5
 generalize ((((((w2.setCell ⟨w.heap.size, 0, none⟩ (.slice d.b.va d.b.vs.length d.b.vc)).setCell ⟨w.heap.size, 1, none⟩ (.slice d.b.pa d.b.ps.length d.b.pc)).setCell ⟨w.heap.size, 2, none⟩ (.slice d.b.qa d.b.qs.length d.b.qc)).setCell ⟨w.heap.size, 3, none⟩ (.int .i64 d.b.cs)).setCell ⟨w.heap.size, 4, none⟩ (.int .i64 d.b.nx)).setCell ⟨w.heap.size, 5, none⟩ (.slice d.oa d.os.length d.oc)) = w3 at *
 refine leaves_cons (f := 73) (args := #[.pointer (some ⟨g, 0, none⟩)]) (by simp) (by simp [go_sem]) ?_
 refine (unlock_deferred Tryz.muLib ⟨g, 0, none⟩ .returning _ BG3.out.c0 (BG3.out.fz 0)).mono ?_
 rintro ex u' w4 ⟨rfl, rfl, rfl⟩
 have BR4 : Hid (Bx (w3.setCell ⟨g, 0, none⟩ (.int .i32 0)) w.heap.size [.slice d.b.va d.b.vs.length d.b.vc, .slice d.b.pa d.b.ps.length d.b.pc, .slice d.b.qa d.b.qs.length d.b.qc, .int .i64 d.b.cs, .int .i64 d.b.nx, .slice d.oa d.os.length d.oc]) := BR3.out.setO (p := ⟨g, 0, none⟩) (by show g ≠ w.heap.size; omega) _
 have q0 := BR4.out.c0
 have q1 := BR4.out.c1
 have q2 := BR4.out.c2
 have q3 := BR4.out.c3
 have q4 := BR4.out.c4
 have q5 := BR4.out.c5
 refine ⟨.tuple #[.agg #[.slice d.b.va d.b.vs.length d.b.vc, .slice d.b.pa d.b.ps.length d.b.pc, .slice d.b.qa d.b.qs.length d.b.qc, .int .i64 d.b.cs, .int .i64 d.b.nx, .slice d.oa d.os.length d.oc], .int .i64 (bgC c)], ?_, d, hi, rfl, SM.out, BI3.out.setO (p := ⟨g, 0, none⟩) (by show g ≠ ib; omega) _, LX3.out.setg 0 _, by have := HHI3.out; simp [World.setCell]; exact this, HZ3.out.trans ((zn_set w3 ⟨g, 0, none⟩ _).mono (by show ib ≤ g; omega) (Nat.le_refl _))⟩
 simp [results, Tryz.results31, go_sem, q0, q1, q2, q3, q4, q5]

end Go.Proofs.YtjeicgibddfifaaGreat

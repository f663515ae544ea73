/- One element more of each make of rows; sorting and compacting rows of texts. -/
import Derived.Sort.OwnSorted
import Derived.Lib.RowBridge
import Derived.Test.YtjeicgibddfifaaGreatPc15
import Derived.Test.YtjeicgibddfifaaGreatProg
import Derived.WalkKit
import Derived.Test.YtjeicgibddfifaaGreatPc01
import Derived.WalkSpells
import Derived.WalkLawsBesides
import Derived.Deep.QuietTactic
import Derived.BigQuiet
import Derived.Deep.RegionHeld3
import Derived.Deep.DrawnRows
import Derived.Deep.AppendLies
import Derived.Test.YtjeicgibddfifaaGreatPc02
import Derived.Test.YtjeicgibddfifaaGreatPc03
import Derived.Test.YtjeicgibddfifaaGreatPc05
import Derived.Test.YtjeicgibddfifaaGreatPc06
import Derived.Test.YtjeicgibddfifaaGreatPc17
import Derived.Test.YtjeicgibddfifaaGreatPc10
import Derived.Test.YtjeicgibddfifaaGreatPc07
import Derived.Test.YtjeicgibddfifaaGreatPc16
import Derived.Test.YtjeicgibddfifaaGreatPc08
import Derived.Test.YtjeicgibddfifaaGreatPc12
import Derived.Test.YtjeicgibddfifaaGreatPc09
import Derived.Deep.Cut
import Derived.Deep.CutRange
import Derived.Test.YtjeicgibddfifaaGreatPc14
import Derived.Laws.EntriesVeiled
namespace Go.Proofs.YtjeicgibddfifaaGreat
open Go.RowKit
open KM
open VM Go.Sort
attribute [local go_sem ↓] Go.wp_at_zero Go.wp_at_succ

theorem stepAppKV {ops : Array Oper} {o : Oper} {a : Act} {K : Act → World → Prop} {Q : Exit → Act → World → Prop} {E : Prop} (hgd : o.guard = none) (s x : Operand) (ho : o.op = .call { callee := .builtin .append, args := #[s, x], argTypes := #[30, 30] })
  {W : World} {base g : Nat} {v : Value} {xs : List Vr} (y : Vr) (hs : a.eval s = v) (hown : GOwn encV 85 W base v xs)
  (hx : a.eval x = .slice (some ⟨g, 0, none⟩) 1 1) (hblk : W.heap[g]? = some (.cells (encV.enc y).toArray 85 (0, 0))) (hlen : xs.length ≤ 100000000) (hB : base ≤ W.heap.size)
  (h : ∀ v' w', GOwn encV 85 w' base v' (xs ++ [y]) → Below base W w' → W.grownBy w' v.ownBlock → K (a.put o.dst v') w') :
  if Region.wanted o (yielded ops a.tmps) = true then Oper.wp Tryz.prog o a W K Q else E := by
 obtain ⟨i0, hi, hz0, hz1, hz2⟩ := info_parts Tryz.info85
 refine step_append_lies _ hgd s x 30 ho base 85 i0 _ 4 48 Tryz.underlying30 hi hz0 hz1 hz2 rfl (by omega) v xs.length (encV.cells xs) hs hown ⟨g, 0, none⟩ 1 1 (encV.enc y) hx rfl ?_ oneV (by omega) (by unfold maxLen; omega) ?_ hB _ rfl ?_
 ·intro j u hj
  rw [Addr.add_lit, Nat.zero_add, World.cell?, hblk]
  simpa using hj
 ·calc (xs.length + 1) * 48 ≤ 100000001 * 64 := Nat.mul_le_mul (by omega) (by omega)
   _ ≤ _ := by omega
 ·intro g' cap w' h1 h2 _ _
  refine h _ w' ?_ ((Below.refl _ _).grown h2 hB (fun j hj => (World.ownsRow.lt hown j hj).1)) h2
  have e : encV.cells (xs ++ [y]) = encV.cells xs ++ encV.enc y := by rw [encV.cells_app]; simp [Enc.cells]
  unfold GOwn
  rw [e, List.length_append]
  exact h1

end Go.Proofs.YtjeicgibddfifaaGreat

namespace Go.Proofs.YtjeicgibddfifaaGreat
open Go.RowKit
open KM
open VM
attribute [local go_sem ↓] Go.wp_at_zero Go.wp_at_succ

set_option maxRecDepth 100000 in
set_option maxHeartbeats 4000000 in
theorem vers47 (base c : Nat) (r : Nd) (ns : List Nd) (hn : ns.length ≤ 100000000) (hf : ∀ n ∈ ns, n.2.1.size ≤ 281474976710656 ∧ n.2.2.1.size ≤ 281474976710656) (w : World) (hc : Chn w base c (r :: ns)) :
  Calls Tryz.prog 114 #[.pointer (some ⟨c, 0, none⟩)] w fun e w' => ∃ a1 c1, e = .returned (.slice a1 (ns.map (·.2)).length c1) ∧ GOwn encV 85 w' w.heap.size (.slice a1 (ns.map (·.2)).length c1) (ns.map (·.2)) ∧ Below w.heap.size w w' := by
 have HF : Hid (∀ n ∈ ns, n.2.1.size ≤ 281474976710656 ∧ n.2.2.1.size ≤ 281474976710656) := hf
 clear hf
 have HC : Hid (Chn w base c (r :: ns)) := hc
 have b0 := hc.bx.c0
 have r4 := (Chn.at' (A := []) hc).c4
 simp only [ptq_cons] at b0
 clear hc
 obtain ⟨u0, hu0⟩ : ∃ u, u = ptq ns none := ⟨_, rfl⟩
 rw [← hu0] at r4
 have HU : Hid (u0 = ptq ns none) := hu0
 clear hu0
 go_enter Tryz.func114, Tryz.ntmps114
 go_wp2
 clear b0 r4
 go_loopg [3, 4] ns.length (fun g v t wr => ∃ A B : List Nd, Hid (ns = A ++ B) ∧ Hid (B.length = g) ∧ t = .pointer (ptq B none) ∧ Hid (GOwn encV 85 wr w.heap.size v (A.map (·.2))) ∧ Hid (Below w.heap.size w wr))
 case atStart => exact ⟨[], ns, rfl, rfl, by rw [HU.out], GOwn.nil _ _, belowRefl w⟩
 case round =>
  obtain ⟨A, B, HE, HG, h8, HO, HB⟩ := hrel
  cases B with
  | nil =>
   rw [ptq_nil] at h8
   have ho := HO.out
   rw [show A = ns by rw [HE.out, List.append_nil]] at ho
   obtain ⟨a1, c1, rfl, _⟩ := ho.row
   have HO1 := hide ho
   clear ho HO
   subst h8
   go_wp2
   go_ret
   exact ⟨a1, c1, rfl, HO1.out, HB.out⟩
  | cons n B =>
   rw [ptq_cons] at h8
   have hx := seg_at (HC.out.below HB.out) HE.out
   have n0 := hx.c0
   have n1 := hx.c1
   have n2 := hx.c2
   have n3 := hx.c3
   have HX : Hid (Bx wr n.1 (ndc n.2 (ptq B none))) := hx
   clear hx
   have HLt : Hid (n.1 < w.heap.size) := HC.out.lt n.1 (by rw [HE.out]; simp)
   obtain ⟨q, hq⟩ : ∃ q, q = ptq B none := ⟨_, rfl⟩
   rw [← hq] at HX
   have HQ : Hid (Value.pointer q = .pointer (ptq B none)) := by show _ = _; rw [hq]
   clear hq
   have HE2 : Hid (ns = (A ++ [n]) ++ B) := by show _ = _; rw [HE.out]; simp
   have HG2 : Hid (B.length < gk) := by show _ < _; rw [← HG.out]; simp
   have hl : (A.map (·.2)).length ≤ 100000000 := by
    rw [List.length_map]
    have h := congrArg List.length HE.out
    rw [List.length_append] at h
    omega
   have HZ : Hid (n.2.1.size ≤ 281474976710656 ∧ n.2.2.1.size ≤ 281474976710656) := HF.out n (by rw [HE.out]; simp)
   have HOb : Hid (∀ g, u3.ownBlock = some g → g < wr.heap.size) := fun g hg => (World.ownsRow.lt HO.out g hg).2
   have D1 : Hid (∀ w, Calls Tryz.prog 120 #[.string n.2.1] w fun e w' => e = .returned (.string n.2.1) ∧ Below w.heap.size w w') := fun w => clone49 _ HZ.out.1 w
   have D2 : Hid (∀ w, Calls Tryz.prog 120 #[.string n.2.2.1] w fun e w' => e = .returned (.string n.2.2.1) ∧ Below w.heap.size w w') := fun w => clone49 _ HZ.out.2 w
   have Y0 : Hid (Bx (wr.alloc (.cells #[.string n.2.1, .string n.2.2.1, .bool n.2.2.2.1, .int .i64 n.2.2.2.2] 85)) wr.heap.size [.string n.2.1, .string n.2.2.1, .bool n.2.2.2.1, .int .i64 n.2.2.2.2]) := Bx.new wr [.string n.2.1, .string n.2.2.1, .bool n.2.2.2.1, .int .i64 n.2.2.2.2] 85
   have O0 := hide (HO.out.alloc (.cells #[.string n.2.1, .string n.2.2.1, .bool n.2.2.2.1, .int .i64 n.2.2.2.2] 85))
   have B0 : Hid (Below w.heap.size w (wr.alloc (.cells #[.string n.2.1, .string n.2.2.1, .bool n.2.2.2.1, .int .i64 n.2.2.2.2] 85))) := HB.out.alloc HB.out.size _
   subst h8
   go_wp2
   clear n0 n1 n2 n3
   generalize (wr.alloc (.cells #[.string n.2.1, .string n.2.2.1, .bool n.2.2.2.1, .int .i64 n.2.2.2.2] 85)) = V0 at *
   refine wp_region_held_drew (S := fun w' => w'.cell? ⟨wr.heap.size, 0, none⟩ = some (.string n.2.1) ∧ w'.cell? ⟨wr.heap.size, 1, none⟩ = some (.string n.2.2.1) ∧ w'.cell? ⟨wr.heap.size, 2, none⟩ = some (.bool n.2.2.2.1) ∧ w'.cell? ⟨wr.heap.size, 3, none⟩ = some (.int .i64 n.2.2.2.2)) (by kernel_rfl) ⟨Y0.out.c0, Y0.out.c1, Y0.out.c2, Y0.out.c3⟩ (fun hHeld => ?_)
   (refine tk 0 ?_ rfl (Or.inl ⟨by rfl, ?_⟩) ?_; rotate_left; (focus (intro w h; (try dsimp only at h); go_simp; (try with_reducible rfl))); simp only [Act.put, tA, tB, tD, tE, tF])
   (refine tk 1 ?_ rfl (Or.inl ⟨by rfl, ?_⟩) ?_; rotate_left; (focus (intro w h; (try dsimp only at h); go_simp; (try with_reducible rfl))); simp only [Act.put, tA, tB, tC, tD, tE, tF])
   (refine tk 2 ?_ rfl (Or.inl ⟨by rfl, ?_⟩) ?_; rotate_left; (focus (intro w h; (try dsimp only at h); go_simp; (try with_reducible rfl))); simp only [Act.put, tA, tB, tC, tD, tE, tF])
   (refine tk 4 ?_ rfl (Or.inl ⟨by rfl, ?_⟩) ?_; rotate_left; (focus (intro w h; (try dsimp only at h); go_simp; (try with_reducible rfl))); simp only [Act.put, tA, tB, tC, tD, tE, tF])
   (refine tk 5 ?_ rfl (Or.inl ⟨by rfl, ?_⟩) ?_; rotate_left; (focus (intro w h; (try dsimp only at h); go_simp; (try with_reducible rfl))); simp only [Act.put, tA, tB, tC, tD, tE, tF])
   (refine tk 7 ?_ rfl (Or.inl ⟨by rfl, ?_⟩) ?_; rotate_left; (focus (intro w h; (try dsimp only at h); go_simp; (try with_reducible rfl))); simp only [Act.put, tA, tB, tC, tD, tE, tF])
   (refine tk 8 ?_ rfl (Or.inl ⟨by rfl, ?_⟩) ?_; rotate_left; (focus (intro w h; (try dsimp only at h); go_simp; (try with_reducible rfl))); simp only [Act.put, tA, tB, tC, tD, tE, tF])
   (refine tk 9 ?_ rfl (Or.inl ⟨by rfl, ?_⟩) ?_; rotate_left; (focus (intro w h; (try dsimp only at h); go_simp; (try with_reducible rfl))); simp only [Act.put, tA, tB, tC, tD, tE, tF])
   (refine tk 10 ?_ rfl (Or.inl ⟨by rfl, ?_⟩) ?_; rotate_left; (focus (intro w h; (try dsimp only at h); go_simp; (try with_reducible rfl))); simp only [Act.put, tA, tB, tC, tD, tE, tF])
   refine wpAnyH_ready (rs := [3]) (by kernel_rfl) (by simp) ?_
   refine AllReadyH.cons rfl (fun K hK => ?_) AllReadyH.nil
   go_simp
   go_wp2_with fail
   refine (D1.out _).mono ?_
   rintro e w1 ⟨rfl, hb1⟩
   have Y1 : Hid (Bx w1 wr.heap.size [.string n.2.1, .string n.2.2.1, .bool n.2.2.2.1, .int .i64 n.2.2.2.2]) := Y0.out.below (undrew hb1)
   have O1 := hide (O0.out.below (undrew hb1))
   have B1 : Hid (Below w.heap.size w w1) := B0.out.trans (((undrew hb1)).mono B0.out.size)
   clear hb1
   go_wp2_with fail
   refine hK.out _ _ ⟨Y1.out.c0, Y1.out.c1, Y1.out.c2, Y1.out.c3⟩ (fun hHeld1 => ?_)
   clear hK K
   refine wpAnyH_ready (rs := [6]) (by kernel_rfl) (by simp) ?_
   refine AllReadyH.cons rfl (fun K hK => ?_) AllReadyH.nil
   go_simp
   go_wp2_with fail
   refine (D2.out _).mono ?_
   rintro e w2 ⟨rfl, hb2⟩
   have Y2 : Hid (Bx w2 wr.heap.size [.string n.2.1, .string n.2.2.1, .bool n.2.2.2.1, .int .i64 n.2.2.2.2]) := Y1.out.below hb2
   have O2 := hide (O1.out.below hb2)
   have B2 : Hid (Below w.heap.size w w2) := B1.out.trans ((hb2).mono B1.out.size)
   clear hb2
   go_wp2_with fail
   refine hK.out _ _ ⟨Y2.out.c0, Y2.out.c1, Y2.out.c2, Y2.out.c3⟩ (fun hHeld2 => ?_)
   clear hK K
   (refine tk 11 ?_ rfl (Or.inl ⟨by rfl, ?_⟩) ?_; rotate_left; (focus (intro w h; (try dsimp only at h); go_simp; (try with_reducible rfl))); simp only [Act.put, tA, tB, tC, tD, tE, tF])
   refine wpAnyH_ready (rs := [12]) (by kernel_rfl) (by simp) ?_
   refine AllReadyH.cons rfl (fun K hK => ?_) AllReadyH.nil
   go_simp
   have Y3 : Hid (Bx (w2.alloc (.cells #[.string n.2.1, .string n.2.2.1, .bool n.2.2.2.1, .int .i64 n.2.2.2.2] 85)) wr.heap.size [.string n.2.1, .string n.2.2.1, .bool n.2.2.2.1, .int .i64 n.2.2.2.2]) := Y2.out.alloc _
   go_wp2_with fail
   refine hK.out _ _ ⟨Y3.out.c0, Y3.out.c1, Y3.out.c2, Y3.out.c3⟩ (fun hHeld3 => ?_)
   clear hK K
   refine wpAnyH_ready (rs := [13]) (by kernel_rfl) (by simp) ?_
   refine AllReadyH.cons rfl (fun K hK => ?_) AllReadyH.nil
   refine stepAppKV (by rfl) _ _ (by rfl) n.2 (by rfl) (O2.out.alloc _) (by rfl) (heapAllocNew w2 [.string n.2.1, .string n.2.2.1, .bool n.2.2.2.1, .int .i64 n.2.2.2.2] 85) hl (Nat.le_trans B2.out.size (by rw [World.size_alloc]; omega)) ?_
   intro v4 w4 ho4 hb4 hg4
   have O4 : Hid (GOwn encV 85 w4 w.heap.size v4 ((A ++ [n]).map (·.2))) := by
    show GOwn _ _ _ _ _ _
    rw [List.map_append]; exact ho4
   have B4 : Hid (Below w.heap.size w w4) := (B2.out.alloc B2.out.size _).trans hb4
   have Y4 : Hid (Bx w4 wr.heap.size [.string n.2.1, .string n.2.2.1, .bool n.2.2.2.1, .int .i64 n.2.2.2.2]) := bx_marked Y3.out hg4 (fun e => by have := HOb.out _ e; omega)
   clear ho4 hb4 hg4
   go_wp2_with fail
   refine hK.out _ _ ⟨Y4.out.c0, Y4.out.c1, Y4.out.c2, Y4.out.c3⟩ (fun hHeld4 => ?_)
   clear hK K
   (refine tk 14 ?_ rfl (Or.inl ⟨by rfl, ?_⟩) ?_; rotate_left; (focus (intro w h; (try dsimp only at h); go_simp; (try with_reducible rfl))); simp only [Act.put, tA, tB, tC, tD, tE, tF])
   refine wpAnyH_done (by kernel_rfl) ?_ _
   have n4 : w4.cell? ⟨n.1, 4, none⟩ = some (.pointer q) := (B4.out.cell (p := ⟨n.1, 4, none⟩) HLt.out).trans ((HB.out.cell (p := ⟨n.1, 4, none⟩) HLt.out).symm.trans HX.out.c4)
   go_wp2
   go_roundg B.length
   case measure => exact HG2.out
   case rel => exact ⟨A ++ [n], B, HE2, rfl, HQ.out, O4, B4⟩
end Go.Proofs.YtjeicgibddfifaaGreat

namespace Go.Proofs.YtjeicgibddfifaaGreat
open Go.RowKit
open KM
attribute [local go_sem ↓] Go.wp_at_zero Go.wp_at_succ

end Go.Proofs.YtjeicgibddfifaaGreat

namespace Go.Proofs.YtjeicgibddfifaaGreat
open Go.RowKit
open KM
open VM
attribute [local go_sem ↓] Go.wp_at_zero Go.wp_at_succ

theorem TLie.grown {w w' : World} {lo hi : Nat} {t : Tx} {ra wa : Option Addr} {rc wc : Nat} {row : Option Nat} (h : TLie w lo hi t ra rc wa wc) (hg : w.grownBy w' row) (hne : ∀ g, row = some g → g < lo ∨ hi ≤ g) : TLie w' lo hi t ra rc wa wc := by
 obtain ⟨m, p, q, h1, h2⟩ := h.ex
 exact ⟨m, p, q, h1.marked2 hg (fun g e => by have := hne g e; omega), h2.marked2 hg (fun g e => by have := hne g e; omega)⟩
theorem Zs.grown {w w' : World} {v : Value} (hg : w.grownBy w' v.ownBlock) : ∀ {ys : List Ta} {lo hi : Nat}, Zs w v lo hi ys → Zs w' v lo hi ys
 | [], _, _, h => h
 | _ :: _, _, _, ⟨p, q, h1, h2, h3, h4, h5⟩ => ⟨p, q, h1, h2, h3.grown hg h4, h4, h5.grown hg⟩
theorem LLie.more {w w2 w3 : World} {lo c0 n0 : Nat} {v : Value} {ys : List Ta} {y : Ta} {o : Obj} {g' cap p : Nat} (h : LLie w lo w.heap.size v ys) (hb : Below w.heap.size w w2) (hp : w.heap.size ≤ p) (hpq : p ≤ w2.heap.size) (hT : TLie w2 p w2.heap.size y.t y.ra y.rc y.wa y.wc)
  (ho : GOwn encT 56 w3 lo (.slice (some ⟨g', 0, none⟩) n0 cap) (ys ++ [y])) (hg : (w2.alloc o).grownBy w3 v.ownBlock) (hg2 : v.ownBlock = some g' ∨ g' = w2.heap.size + 1) (hc : c0 = n0) : LLie w3 lo w3.heap.size (.slice (some ⟨g', 0, none⟩) c0 cap) (ys ++ [y]) := by
 subst hc
 have hba : Below w2.heap.size w2 (w2.alloc o) := (belowRefl w2).alloc (Nat.le_refl _) _
 have hsz : (w2.alloc o).heap.size = w2.heap.size + 1 := by simp
 have h3 : w2.heap.size + 1 ≤ w3.heap.size := by have := hg.size; omega
 have hup := h.own.up
 have z1 : Zs w3 v lo w.heap.size ys := ((h.zs.below hb).below hba).grown hg
 have z2 : Zs w3 (.slice (some ⟨g', 0, none⟩) c0 cap) lo w.heap.size ys := z1.av (fun a b _ hbq hav g e => by
  have e' : g' = g := Option.some.inj e
  subst e'
  rcases hg2 with h4 | h4
  ·exact hav _ h4
  ·right; have := hb.size; omega)
 refine ⟨Lies.of ho, Zs.snoc (y := y) hp hpq (by omega) ((hT.below hba).grown hg (fun g e => ?_)) (fun g e => ?_) z2⟩
 ·have := hup g e; omega
 ·have e' : g' = g := Option.some.inj e
  subst e'
  rcases hg2 with h4 | h4
  ·have := hup _ h4; omega
  ·right; omega

set_option maxRecDepth 100000 in
set_option maxHeartbeats 4000000 in
theorem copyTs (xs : List Ta) (a : Option Addr) (c n : Nat) (hx : n = xs.length) (hn : n ≤ 10000000) (fx : LFit (txs xs)) (w : World) (hp : TRows w a xs) :
  Calls Tryz.prog 71 #[.slice a n c] w fun e w' => ∃ (ys : List Ta) (a1 : Option Addr) (c1 : Nat), e = .returned (.slice a1 n c1) ∧ txs ys = txs xs ∧ ys.length = n ∧ LLie w' w.heap.size w'.heap.size (.slice a1 ys.length c1) ys ∧ Below w.heap.size w w' := by
 have HP : Hid (TRows w a xs) := hp
 have HX : Hid (n = xs.length) := hx
 have HF : Hid (LFit (txs xs)) := fx
 clear hp hx fx
 go_enter Tryz.func71, Tryz.ntmps71
 go_wp2
 go_loopw [3, 8] (fun v t wr => ∃ (k : Nat) (ys : List Ta), k ≤ n ∧ t = .int .i64 k ∧ Hid (ys.length = k) ∧ Hid (txs ys = (txs xs).take k) ∧ Hid (LLie wr w.heap.size wr.heap.size v ys) ∧ Hid (Below w.heap.size w wr)) (fun _ t _ => n - (intOf t).toNat)
 case atStart => exact ⟨0, [], Nat.zero_le _, rfl, rfl, rfl, ⟨Lies.of (GOwn.nil _ _), (show w.heap.size ≤ w.heap.size from Nat.le_refl _)⟩, belowRefl w⟩
 case round =>
  obtain ⟨k, ys, hk, rfl, HYL, HYT, HL, HB⟩ := hrel
  by_cases hlt : k < n
  ·have hlt' : (k : Int) < (n : Int) := by omega
   have h0 : (0 : Int) ≤ (k : Int) := by omega
   have hkx : k < xs.length := by rw [← HX.out]; exact hlt
   obtain ⟨b, o, rfl, hbl, hc, hrow⟩ := (HP.out.below HB.out).cls k hkx
   have hfx : TFit xs[k].t := HF.out.2 _ (List.mem_map.2 ⟨_, List.getElem_mem hkx, rfl⟩)
   obtain ⟨x, hx⟩ : ∃ x, x = xs[k] := ⟨_, rfl⟩
   rw [← hx] at hc hfx hrow
   have HXX : Hid (x = xs[k]) := hx
   have HNT : Hid ((txs xs).take (k + 1) = (txs xs).take k ++ [x.t]) := by
    show _ = _
    rw [List.take_add_one, hx]
    simp [txs, List.getElem?_eq_getElem hkx]
   clear hx
   have r0 := hc.c0
   have r1 := hc.c1
   have r2 := hc.c2
   have r3 := hc.c3
   have r4 := hc.c4
   have r5 := hc.c5
   have r6 := hc.c6
   have r7 := hc.c7
   clear hc
   have hln : ys.length ≤ 100000000 := by rw [HYL.out]; omega
   have HB1 : Hid (Below wr.heap.size wr (wr.alloc (.cells #[.int .i64 x.t.id, .int .i64 x.t.st, .int .i64 x.t.snap, .int .i64 x.t.cs, .slice x.ra x.t.rs.length x.rc, .slice x.wa x.t.ws.length x.wc, .bool x.t.out, .string x.t.nm] 56))) := (belowRefl wr).alloc (Nat.le_refl _) _
   have BX1 : Hid (Bx (wr.alloc (.cells #[.int .i64 x.t.id, .int .i64 x.t.st, .int .i64 x.t.snap, .int .i64 x.t.cs, .slice x.ra x.t.rs.length x.rc, .slice x.wa x.t.ws.length x.wc, .bool x.t.out, .string x.t.nm] 56)) wr.heap.size [.int .i64 x.t.id, .int .i64 x.t.st, .int .i64 x.t.snap, .int .i64 x.t.cs, .slice x.ra x.t.rs.length x.rc, .slice x.wa x.t.ws.length x.wc, .bool x.t.out, .string x.t.nm]) := Bx.new wr [.int .i64 x.t.id, .int .i64 x.t.st, .int .i64 x.t.snap, .int .i64 x.t.cs, .slice x.ra x.t.rs.length x.rc, .slice x.wa x.t.ws.length x.wc, .bool x.t.out, .string x.t.nm] 56
   have HC := hide (icopyT x.t x.ra x.wa x.rc x.wc hfx (wr.alloc (.cells #[.int .i64 x.t.id, .int .i64 x.t.st, .int .i64 x.t.snap, .int .i64 x.t.cs, .slice x.ra x.t.rs.length x.rc, .slice x.wa x.t.ws.length x.wc, .bool x.t.out, .string x.t.nm] 56)) (hrow.below HB1.out))
   have hs1 : wr.heap.size ≤ (wr.alloc (.cells #[.int .i64 x.t.id, .int .i64 x.t.st, .int .i64 x.t.snap, .int .i64 x.t.cs, .slice x.ra x.t.rs.length x.rc, .slice x.wa x.t.ws.length x.wc, .bool x.t.out, .string x.t.nm] 56)).heap.size := by simp
   clear hrow hfx
   go_upto_region 5 with fail
   clear r0 r1 r2 r3 r4 r5 r6 r7
   generalize (wr.alloc (.cells #[.int .i64 x.t.id, .int .i64 x.t.st, .int .i64 x.t.snap, .int .i64 x.t.cs, .slice x.ra x.t.rs.length x.rc, .slice x.wa x.t.ws.length x.wc, .bool x.t.out, .string x.t.nm] 56)) = w1 at *
   have x0 := BX1.out.c0
   have x1 := BX1.out.c1
   have x2 := BX1.out.c2
   have x3 := BX1.out.c3
   have x4 := BX1.out.c4
   have x5 := BX1.out.c5
   have x6 := BX1.out.c6
   have x7 := BX1.out.c7
   go_wp2_with fail
   refine HC.out.mono ?_
   rintro e w2 ⟨ra1, rc1, wa1, wc1, rfl, ht, hb2⟩
   have HB2 : Hid (Below wr.heap.size wr w2) := HB1.out.trans (hb2.mono HB1.out.size)
   have HT : Hid (TLie w2 w1.heap.size w2.heap.size x.t ra1 rc1 wa1 wc1) := ht
   have hs2 : w1.heap.size ≤ w2.heap.size := hb2.size
   have O2 := hide (HL.out.own.own.below HB2.out)
   have HSB := hide HB.out.size
   clear x0 x1 x2 x3 x4 x5 x6 x7 hb2 ht HC BX1 HB1
   have HBK : Hid ((w2.alloc (.cells #[.int .i64 x.t.id, .int .i64 x.t.st, .int .i64 x.t.snap, .int .i64 x.t.cs, .slice ra1 x.t.rs.length rc1, .slice wa1 x.t.ws.length wc1, .bool x.t.out, .string x.t.nm] 56)).heap[w2.heap.size]? = some (.cells (encT.enc ⟨x.t, ra1, rc1, wa1, wc1⟩).toArray 56 (0, 0))) := heap_alloc_new w2 _
   have O2a := hide (O2.out.alloc (.cells #[.int .i64 x.t.id, .int .i64 x.t.st, .int .i64 x.t.snap, .int .i64 x.t.cs, .slice ra1 x.t.rs.length rc1, .slice wa1 x.t.ws.length wc1, .bool x.t.out, .string x.t.nm] 56))
   have hbb : w.heap.size ≤ (w2.alloc (.cells #[.int .i64 x.t.id, .int .i64 x.t.st, .int .i64 x.t.snap, .int .i64 x.t.cs, .slice ra1 x.t.rs.length rc1, .slice wa1 x.t.ws.length wc1, .bool x.t.out, .string x.t.nm] 56)).heap.size := by have := HSB.out; have := HB2.out.size; simp; omega
   go_wp2_with (at_builtin; refine wpAppK (E := encT) 31 56 104 _ Tryz.underlying31 Tryz.info56 rfl (by omega) rfl _ _ rfl ⟨x.t, ra1, rc1, wa1, wc1⟩ tone rfl O2a.out rfl HBK.out hln hbb ?_)
   intro g' cap w3 ho3 hg3 hg4 hlt3
   have HL3 : Hid (LLie w3 w.heap.size w3.heap.size (.slice (some ⟨g', 0, none⟩) (ys.length + 1) cap) (ys ++ [⟨x.t, ra1, rc1, wa1, wc1⟩])) := LLie.more (y := ⟨x.t, ra1, rc1, wa1, wc1⟩) HL.out HB2.out hs1 hs2 HT.out ho3 hg3 hg4 rfl
   have hb3 : Below w.heap.size w2 w3 := (((belowRefl w2).alloc (Nat.le_refl _) _).mono (by have := HSB.out; have := HB2.out.size; omega)).trans ((Below.refl _ _).grown hg3 hbb (fun j hj => (World.ownsRow.lt O2a.out j hj).1))
   have HB3 : Hid (Below w.heap.size w w3) := (HB.out.trans (HB2.out.mono HSB.out)).trans hb3
   have HYL2 : Hid ((ys ++ [(⟨x.t, ra1, rc1, wa1, wc1⟩ : Ta)]).length = k + 1) := by show _ = _; simp [HYL.out]
   have HYT2 : Hid (txs (ys ++ [(⟨x.t, ra1, rc1, wa1, wc1⟩ : Ta)]) = (txs xs).take (k + 1)) := by show _ = _; rw [HNT.out, ← HYT.out]; simp [txs]
   clear ho3 hg3 hg4 hlt3 hb3 O2a O2 HBK HT HL HB2 HSB hs1 hs2 hbb HB
   go_wp2
   go_roundw
   case rel => exact ⟨k + 1, _, by omega, by go_num, HYL2, HYT2, HL3, HB3⟩
   case measure => simp [intOf]; omega
  ·have hd : ¬ (k : Int) < (n : Int) := by omega
   have HE : Hid (txs ys = txs xs) := by show _ = _; rw [HYT.out, List.take_of_length_le (by rw [txs_len, ← HX.out]; omega)]
   have HLn : Hid (ys.length = n) := by show _ = _; rw [HYL.out]; omega
   obtain ⟨a1, c1, rfl, _⟩ := HL.out.own.own.row
   rw [HLn.out]
   have HLL := hide HL.out
   clear HYL HYT HL
   go_wp2
   go_ret
   exact ⟨ys, a1, c1, rfl, HE.out, HLn.out, by have h := HLL.out; rw [HLn.out] at h ⊢; exact h, HB.out⟩

end Go.Proofs.YtjeicgibddfifaaGreat

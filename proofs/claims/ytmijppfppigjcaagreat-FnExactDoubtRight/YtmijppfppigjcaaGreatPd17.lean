/- What impl.copyOfRange and copyOfTxn return. -/
import Derived.Test.YtmijppfppigjcaaGreatPd01
import Derived.Test.YtmijppfppigjcaaGreatProg
import Derived.WalkKit
import Derived.WalkSpells
import Derived.WalkLawsBesides
import Derived.Deep.QuietTactic
import Derived.BigQuiet
import Derived.Deep.RegionHeld3
import Derived.Deep.DrawnRows
import Derived.Test.YtmijppfppigjcaaGreatPd07
import Derived.Deep.AppendLies
import Derived.Test.YtmijppfppigjcaaGreatPd02
import Derived.Test.YtmijppfppigjcaaGreatPd03
import Derived.Deep.RegionHeld
import Derived.Sort.OwnSorted
import Derived.Lib.RowBridge
import Derived.Test.YtmijppfppigjcaaGreatPd04
import Derived.Test.YtmijppfppigjcaaGreatPd16
import Derived.Test.YtmijppfppigjcaaGreatPd11
namespace Go.Proofs.YtmijppfppigjcaaGreat
open Go.RowKit
open KM
attribute [local go_sem ↓] Go.wp_at_zero Go.wp_at_succ

theorem stepAppKR {ops : Array Oper} {o : Oper} {a : Act} {K : Act → World → Prop} {Q : Exit → Act → World → Prop} {E : Prop} (hgd : o.guard = none) (s x : Operand) (ho : o.op = .call { callee := .builtin .append, args := #[s, x], argTypes := #[59, 59] })
  {W : World} {base g : Nat} {v : Value} {xs : List Rg} (y : Rg) (hs : a.eval s = v) (hown : GOwn encR 156 W base v xs)
  (hx : a.eval x = .slice (some ⟨g, 0, none⟩) 1 1) (hblk : W.heap[g]? = some (.cells (encR.enc y).toArray 156 (0, 0))) (hlen : xs.length ≤ 100000000) (hB : base ≤ W.heap.size)
  (h : ∀ v' w', GOwn encR 156 w' base v' (xs ++ [y]) → Below base W w' → W.grownBy w' v.ownBlock → K (a.put o.dst v') w') :
  if Region.wanted o (yielded ops a.tmps) = true then Oper.wp Tryz.prog o a W K Q else E := by
 obtain ⟨i0, hi, hz0, hz1, hz2⟩ := info_parts Tryz.info156
 refine step_append_lies _ hgd s x 59 ho base 156 i0 _ 2 32 Tryz.underlying59 hi hz0 hz1 hz2 rfl (by omega) v xs.length (encR.cells xs) hs hown ⟨g, 0, none⟩ 1 1 (encR.enc y) hx rfl ?_ oneP (by omega) (by unfold maxLen; omega) ?_ hB _ rfl ?_
 ·intro j u hj
  rw [Addr.add_lit, Nat.zero_add, World.cell?, hblk]
  simpa using hj
 ·calc (xs.length + 1) * 32 ≤ 100000001 * 64 := Nat.mul_le_mul (by omega) (by omega)
   _ ≤ _ := by omega
 ·intro g' cap w' h1 h2 _ _
  refine h _ w' ?_ ((Below.refl _ _).grown h2 hB (fun j hj => (World.ownsRow.lt hown j hj).1)) h2
  have e : encR.cells (xs ++ [y]) = encR.cells xs ++ encR.enc y := by rw [encR.cells_app]; simp [Enc.cells]
  unfold GOwn
  rw [e, List.length_append]
  exact h1

set_option maxRecDepth 100000 in
set_option maxHeartbeats 2000000 in
theorem icopyR (x : Rg) (h1 : x.1.size ≤ 1048576) (h2 : x.2.size ≤ 1048576) (w : World) :
  Calls Tryz.prog 119 #[.agg #[.string x.1, .string x.2]] w fun e w' => e = .returned (.agg #[.string x.1, .string x.2]) ∧ Below w.heap.size w w' := by
 have X0 : Hid (Bx ((w.alloc (.cells #[.string x.1, .string x.2] 156)).alloc (.cells #[.string ⟨#[]⟩, .string ⟨#[]⟩] 156)).drew w.heap.size [.string x.1, .string x.2]) := ((Bx.new w _ 156).alloc _).drew
 have Y0 : Hid (Bx ((w.alloc (.cells #[.string x.1, .string x.2] 156)).alloc (.cells #[.string ⟨#[]⟩, .string ⟨#[]⟩] 156)).drew (w.heap.size + 1) [.string ⟨#[]⟩, .string ⟨#[]⟩]) := by
  have h := (Bx.new (w.alloc (.cells #[.string x.1, .string x.2] 156)) [.string ⟨#[]⟩, .string ⟨#[]⟩] 156).drew
  rw [World.size_alloc] at h
  exact h
 have HB0 : Hid (Below w.heap.size w ((w.alloc (.cells #[.string x.1, .string x.2] 156)).alloc (.cells #[.string ⟨#[]⟩, .string ⟨#[]⟩] 156)).drew) := (((belowRefl w).alloc (Nat.le_refl _) _).alloc (by simp) _).drew
 go_enter Tryz.func119, Tryz.ntmps119
 go_wp2
 refine wp_region_held_drew (S := fun w' => w'.cell? ⟨w.heap.size, 0, none⟩ = some (.string x.1) ∧ w'.cell? ⟨w.heap.size, 1, none⟩ = some (.string x.2)) (by kernel_rfl) ⟨X0.out.c0, X0.out.c1⟩ (fun hHeld => ?_)
 (refine ti 0 ?_; simp only [Act.put, tA, tB, tD, tE, tF])
 (refine ti 1 ?_; simp only [Act.put, tA, tB, tC, tD, tE, tF])
 (refine ti 3 ?_; simp only [Act.put, tA, tB, tC, tD, tE, tF])
 (refine ti 4 ?_; simp only [Act.put, tA, tB, tC, tD, tE, tF])
 refine wpAnyH_ready (rs := [2]) (by kernel_rfl) (by simp) ?_
 refine AllReadyH.cons rfl (fun K hK => ?_) AllReadyH.nil
 go_simp
 go_wp2_with fail
 refine (clone49 x.1 (by omega) _).mono ?_
 rintro e w1 ⟨rfl, hb⟩
 have X1 : Hid (Bx w1 w.heap.size [.string x.1, .string x.2]) := X0.out.below hb
 have Y1 : Hid (Bx w1 (w.heap.size + 1) [.string ⟨#[]⟩, .string ⟨#[]⟩]) := Y0.out.below hb
 have HB1 : Hid (Below w.heap.size w w1) := HB0.out.trans (hb.mono HB0.out.size)
 clear hb X0 Y0 HB0
 go_wp2_with fail
 refine hK.out _ _ ⟨X1.out.c0, X1.out.c1⟩ (fun hHeld1 => ?_)
 clear hK K
 refine wpAnyH_ready (rs := [5]) (by kernel_rfl) (by simp) ?_
 refine AllReadyH.cons rfl (fun K hK => ?_) AllReadyH.nil
 go_simp
 go_wp2_with fail
 refine (clone49 x.2 (by omega) _).mono ?_
 rintro e w2 ⟨rfl, hb⟩
 have X2 : Hid (Bx w2 w.heap.size [.string x.1, .string x.2]) := X1.out.below hb
 have Y2 : Hid (Bx w2 (w.heap.size + 1) [.string ⟨#[]⟩, .string ⟨#[]⟩]) := Y1.out.below hb
 have HB2 : Hid (Below w.heap.size w w2) := HB1.out.trans (hb.mono HB1.out.size)
 clear hb X1 Y1 HB1
 go_wp2_with fail
 refine hK.out _ _ ⟨X2.out.c0, X2.out.c1⟩ (fun hHeld2 => ?_)
 clear hK K
 (refine ti 6 ?_; simp only [Act.put, tA, tB, tC, tD, tE, tF])
 have y0 := Y2.out.c0
 have y1 := Y2.out.c1
 have yf := Y2.out.fz
 refine wpAnyH_ready (rs := [7]) (by kernel_rfl) (by simp) ?_
 refine AllReadyH.cons rfl (fun K hK => ?_) AllReadyH.nil
 go_simp
 have X3 := (X2.out.setO (p := ⟨w.heap.size + 1, 0, none⟩) (by simp) (.string x.1)).setO (p := ⟨w.heap.size + 1, 1, none⟩) (by simp) (.string x.2)
 refine hK.out _ _ ⟨X3.c0, X3.c1⟩ (fun hHeld3 => ?_)
 clear hK K
 refine wpAnyH_done (by kernel_rfl) ?_ _
 have BF := (Y2.out.set 0 (.string x.1)).set 1 (.string x.2)
 have e0 := BF.c0
 have e1 := BF.c1
 go_wp2
 exact bodyPost_ret (v := .agg #[.string x.1, .string x.2]) (by simp [results, Tryz.results119, go_sem, e0, e1]) rfl ⟨rfl, (HB2.out.setCell (by show _ ≤ _ + 1; omega) _).setCell (by show _ ≤ _ + 1; omega) _⟩

set_option maxRecDepth 100000 in
set_option maxHeartbeats 4000000 in
theorem icopyT (t : Tx) (ra wa : Option Addr) (rc wc : Nat) (hf : TFit t) (w : World) (hp : TRow w t ra wa) :
  Calls Tryz.prog 90 #[.agg #[.int .i64 t.id, .int .i64 t.st, .int .i64 t.snap, .int .i64 t.cs, .slice ra t.rs.length rc, .slice wa t.ws.length wc, .bool t.out, .string t.nm]] w fun e w' => ∃ ra1 rc1 wa1 wc1, e = .returned (.agg #[.int .i64 t.id, .int .i64 t.st, .int .i64 t.snap, .int .i64 t.cs, .slice ra1 t.rs.length rc1, .slice wa1 t.ws.length wc1, .bool t.out, .string t.nm]) ∧ TLie w' w.heap.size w'.heap.size t ra1 rc1 wa1 wc1 ∧ Below w.heap.size w w' := by
 obtain ⟨hr, hrf, hw, hwf, hnm⟩ := hf
 have HRF : Hid (RFit t.rs) := hrf
 have HWF : Hid (WFit t.ws) := hwf
 have HP : Hid (TRow w t ra wa) := hp
 clear hrf hwf hp
 have BA0 : Hid (Bx (((w.alloc (.cells #[.int .i64 t.id, .int .i64 t.st, .int .i64 t.snap, .int .i64 t.cs, .slice ra t.rs.length rc, .slice wa t.ws.length wc, .bool t.out, .string t.nm] 62)).alloc (.cells #[.int .i64 0, .int .i64 0, .int .i64 0, .int .i64 0, .slice none 0 0, .slice none 0 0, .bool false, .string ⟨#[]⟩] 62)).alloc (.cells #[.int .i64 t.id, .int .i64 t.st, .int .i64 t.snap, .int .i64 t.cs, .slice none 0 0, .slice wa t.ws.length wc, .bool t.out, .string t.nm] 62)) w.heap.size [.int .i64 t.id, .int .i64 t.st, .int .i64 t.snap, .int .i64 t.cs, .slice ra t.rs.length rc, .slice wa t.ws.length wc, .bool t.out, .string t.nm]) := ((Bx.new w [.int .i64 t.id, .int .i64 t.st, .int .i64 t.snap, .int .i64 t.cs, .slice ra t.rs.length rc, .slice wa t.ws.length wc, .bool t.out, .string t.nm] 62).alloc _).alloc _
 have BR0 : Hid (Bx (((w.alloc (.cells #[.int .i64 t.id, .int .i64 t.st, .int .i64 t.snap, .int .i64 t.cs, .slice ra t.rs.length rc, .slice wa t.ws.length wc, .bool t.out, .string t.nm] 62)).alloc (.cells #[.int .i64 0, .int .i64 0, .int .i64 0, .int .i64 0, .slice none 0 0, .slice none 0 0, .bool false, .string ⟨#[]⟩] 62)).alloc (.cells #[.int .i64 t.id, .int .i64 t.st, .int .i64 t.snap, .int .i64 t.cs, .slice none 0 0, .slice wa t.ws.length wc, .bool t.out, .string t.nm] 62)) (w.heap.size + 1) [.int .i64 0, .int .i64 0, .int .i64 0, .int .i64 0, .slice none 0 0, .slice none 0 0, .bool false, .string ⟨#[]⟩]) := by
  have h := (Bx.new (w.alloc (.cells #[.int .i64 t.id, .int .i64 t.st, .int .i64 t.snap, .int .i64 t.cs, .slice ra t.rs.length rc, .slice wa t.ws.length wc, .bool t.out, .string t.nm] 62)) [.int .i64 0, .int .i64 0, .int .i64 0, .int .i64 0, .slice none 0 0, .slice none 0 0, .bool false, .string ⟨#[]⟩] 62).alloc (.cells #[.int .i64 t.id, .int .i64 t.st, .int .i64 t.snap, .int .i64 t.cs, .slice none 0 0, .slice wa t.ws.length wc, .bool t.out, .string t.nm] 62)
  rw [show (w.alloc (.cells #[.int .i64 t.id, .int .i64 t.st, .int .i64 t.snap, .int .i64 t.cs, .slice ra t.rs.length rc, .slice wa t.ws.length wc, .bool t.out, .string t.nm] 62)).heap.size = w.heap.size + 1 by simp] at h
  exact h
 have BO0 : Hid (Bx (((w.alloc (.cells #[.int .i64 t.id, .int .i64 t.st, .int .i64 t.snap, .int .i64 t.cs, .slice ra t.rs.length rc, .slice wa t.ws.length wc, .bool t.out, .string t.nm] 62)).alloc (.cells #[.int .i64 0, .int .i64 0, .int .i64 0, .int .i64 0, .slice none 0 0, .slice none 0 0, .bool false, .string ⟨#[]⟩] 62)).alloc (.cells #[.int .i64 t.id, .int .i64 t.st, .int .i64 t.snap, .int .i64 t.cs, .slice none 0 0, .slice wa t.ws.length wc, .bool t.out, .string t.nm] 62)) (w.heap.size + 1 + 1) [.int .i64 t.id, .int .i64 t.st, .int .i64 t.snap, .int .i64 t.cs, .slice none 0 0, .slice wa t.ws.length wc, .bool t.out, .string t.nm]) := by
  have h := Bx.new ((w.alloc (.cells #[.int .i64 t.id, .int .i64 t.st, .int .i64 t.snap, .int .i64 t.cs, .slice ra t.rs.length rc, .slice wa t.ws.length wc, .bool t.out, .string t.nm] 62)).alloc (.cells #[.int .i64 0, .int .i64 0, .int .i64 0, .int .i64 0, .slice none 0 0, .slice none 0 0, .bool false, .string ⟨#[]⟩] 62)) [.int .i64 t.id, .int .i64 t.st, .int .i64 t.snap, .int .i64 t.cs, .slice none 0 0, .slice wa t.ws.length wc, .bool t.out, .string t.nm] 62
  rw [show ((w.alloc (.cells #[.int .i64 t.id, .int .i64 t.st, .int .i64 t.snap, .int .i64 t.cs, .slice ra t.rs.length rc, .slice wa t.ws.length wc, .bool t.out, .string t.nm] 62)).alloc (.cells #[.int .i64 0, .int .i64 0, .int .i64 0, .int .i64 0, .slice none 0 0, .slice none 0 0, .bool false, .string ⟨#[]⟩] 62)).heap.size = w.heap.size + 1 + 1 by simp] at h
  exact h
 have HB0 : Hid (Below w.heap.size w (((w.alloc (.cells #[.int .i64 t.id, .int .i64 t.st, .int .i64 t.snap, .int .i64 t.cs, .slice ra t.rs.length rc, .slice wa t.ws.length wc, .bool t.out, .string t.nm] 62)).alloc (.cells #[.int .i64 0, .int .i64 0, .int .i64 0, .int .i64 0, .slice none 0 0, .slice none 0 0, .bool false, .string ⟨#[]⟩] 62)).alloc (.cells #[.int .i64 t.id, .int .i64 t.st, .int .i64 t.snap, .int .i64 t.cs, .slice none 0 0, .slice wa t.ws.length wc, .bool t.out, .string t.nm] 62))) := (((belowRefl w).alloc (Nat.le_refl _) _).alloc (by simp) _).alloc (by simp; omega) _
 have S0 : Hid (w.heap.size + 1 + 1 + 1 ≤ (((w.alloc (.cells #[.int .i64 t.id, .int .i64 t.st, .int .i64 t.snap, .int .i64 t.cs, .slice ra t.rs.length rc, .slice wa t.ws.length wc, .bool t.out, .string t.nm] 62)).alloc (.cells #[.int .i64 0, .int .i64 0, .int .i64 0, .int .i64 0, .slice none 0 0, .slice none 0 0, .bool false, .string ⟨#[]⟩] 62)).alloc (.cells #[.int .i64 t.id, .int .i64 t.st, .int .i64 t.snap, .int .i64 t.cs, .slice none 0 0, .slice wa t.ws.length wc, .bool t.out, .string t.nm] 62)).heap.size) := by show _ ≤ _; simp
 have x4 := BA0.out.c4
 go_enter Tryz.func90, Tryz.ntmps90
 go_wp2
 clear x4
 generalize ((w.alloc (.cells #[.int .i64 t.id, .int .i64 t.st, .int .i64 t.snap, .int .i64 t.cs, .slice ra t.rs.length rc, .slice wa t.ws.length wc, .bool t.out, .string t.nm] 62)).alloc (.cells #[.int .i64 0, .int .i64 0, .int .i64 0, .int .i64 0, .slice none 0 0, .slice none 0 0, .bool false, .string ⟨#[]⟩] 62)).alloc (.cells #[.int .i64 t.id, .int .i64 t.st, .int .i64 t.snap, .int .i64 t.cs, .slice none 0 0, .slice wa t.ws.length wc, .bool t.out, .string t.nm] 62) = W0 at *
 go_loopw [11] (fun v wr => ∃ (k : Nat) (u : Value), k ≤ t.rs.length ∧ v = .int .i64 k ∧ Hid (GOwn encR 156 wr (w.heap.size + 1 + 1 + 1) u (t.rs.take k)) ∧ Hid (Bx wr w.heap.size [.int .i64 t.id, .int .i64 t.st, .int .i64 t.snap, .int .i64 t.cs, .slice ra t.rs.length rc, .slice wa t.ws.length wc, .bool t.out, .string t.nm]) ∧ Hid (Bx wr (w.heap.size + 1) [.int .i64 0, .int .i64 0, .int .i64 0, .int .i64 0, .slice none 0 0, .slice none 0 0, .bool false, .string ⟨#[]⟩]) ∧ Hid (Bx wr (w.heap.size + 1 + 1) [.int .i64 t.id, .int .i64 t.st, .int .i64 t.snap, .int .i64 t.cs, u, .slice wa t.ws.length wc, .bool t.out, .string t.nm]) ∧ Hid (Below w.heap.size w wr) ∧ Hid (w.heap.size + 1 + 1 + 1 ≤ wr.heap.size)) (fun v _ => t.rs.length - (intOf v).toNat)
 case atStart => exact ⟨0, .slice none 0 0, Nat.zero_le _, rfl, GOwn.nil _ _, BA0, BR0, BO0, HB0, S0⟩
 case round =>
  clear BA0 BR0 BO0 HB0 S0
  obtain ⟨k, u, hk, rfl, HO, BA, BR, BO, HB, SZ⟩ := hrel
  by_cases hlt : k < t.rs.length
  ·have hlt' : (k : Int) < (t.rs.length : Int) := by omega
   have h0 : (0 : Int) ≤ (k : Int) := by omega
   have HPr := hide (HP.out.r.below HB.out)
   obtain ⟨b, off, hra, hbl, q⟩ := HPr.out (by omega)
   have r0 := ((rat q) k hlt).1
   have r1 := ((rat q) k hlt).2
   clear q
   have HZ : Hid (t.rs[k].1.size ≤ 1048576 ∧ t.rs[k].2.size ≤ 1048576) := HRF.out _ (List.getElem_mem hlt)
   have hll : (t.rs.take k).length ≤ 100000000 := by rw [List.length_take]; omega
   have HE : Hid (t.rs.take (k + 1) = t.rs.take k ++ [t.rs[k]]) := List.take_succ_eq_append_getElem hlt
   generalize t.rs.take k = pre at HO hll HE
   subst hra
   go_wp2
   clear r0 r1
   have BE1 : Hid (Bx (wr.alloc (.cells #[.string t.rs[k].1, .string t.rs[k].2] 156)) wr.heap.size [.string t.rs[k].1, .string t.rs[k].2]) := Bx.new wr [.string t.rs[k].1, .string t.rs[k].2] 156
   have HO1 := hide (HO.out.alloc (.cells #[.string t.rs[k].1, .string t.rs[k].2] 156))
   have BA1 := hide (BA.out.alloc (.cells #[.string t.rs[k].1, .string t.rs[k].2] 156))
   have BR1 := hide (BR.out.alloc (.cells #[.string t.rs[k].1, .string t.rs[k].2] 156))
   have BO1 := hide (BO.out.alloc (.cells #[.string t.rs[k].1, .string t.rs[k].2] 156))
   have HB1 : Hid (Below w.heap.size w (wr.alloc (.cells #[.string t.rs[k].1, .string t.rs[k].2] 156))) := HB.out.alloc HB.out.size _
   have SZ1 : Hid (w.heap.size + 1 + 1 + 1 ≤ (wr.alloc (.cells #[.string t.rs[k].1, .string t.rs[k].2] 156)).heap.size) := by show _ ≤ _; rw [World.size_alloc]; have := SZ.out; omega
   have SE : Hid (w.heap.size + 1 + 1 + 1 ≤ wr.heap.size) := SZ.out
   have UB : Hid (∀ g, u.ownBlock = some g → g < wr.heap.size) := fun g hg => (World.ownsRow.lt HO.out g hg).2
   obtain ⟨e0, he0⟩ : ∃ e0, e0 = wr.heap.size := ⟨_, rfl⟩
   rw [← he0] at BE1 SE UB ⊢
   clear he0
   clear HO BA BR BO HB SZ HPr
   generalize wr.alloc (.cells #[.string t.rs[k].1, .string t.rs[k].2] 156) = W1 at *
   refine wp_region_held_drew (S := fun w' => w'.cell? ⟨e0, 0, none⟩ = some (.string t.rs[k].1) ∧ w'.cell? ⟨e0, 1, none⟩ = some (.string t.rs[k].2)) (by kernel_rfl) ⟨BE1.out.c0, BE1.out.c1⟩ (fun hHeld => ?_)
   (refine ti 0 ?_; simp only [Act.put, tA, tB, tD, tE, tF])
   (refine ti 2 ?_; simp only [Act.put, tA, tB, tC, tD, tE, tF])
   refine wpAnyH_ready (rs := [1, 3]) (by kernel_rfl) (by simp) ?_
   refine AllReadyH.cons rfl (fun K hK => ?_) (AllReadyH.cons rfl (fun K hK => ?_) AllReadyH.nil)
   ·have o4 := BO1.out.drew.c4
    go_simp
    refine hK.out _ _ ⟨BE1.out.drew.c0, BE1.out.drew.c1⟩ (fun hHeld1 => ?_)
    clear hK K o4
    refine wpAnyH_ready (rs := [3]) (by kernel_rfl) (by simp) ?_
    refine AllReadyH.cons rfl (fun K hK => ?_) AllReadyH.nil
    go_simp
    go_wp2_with fail
    refine (icopyR t.rs[k] HZ.out.1 HZ.out.2 _).mono ?_
    rintro e w2 ⟨rfl, hb2'⟩
    have hb2 := undrew hb2'
    have HO2 := hide (HO1.out.below hb2)
    have BA2 := hide (BA1.out.below hb2)
    have BR2 := hide (BR1.out.below hb2)
    have BO2 := hide (BO1.out.below hb2)
    have BE2 := hide (BE1.out.below hb2)
    have HB2 : Hid (Below w.heap.size w w2) := HB1.out.trans (hb2.mono HB1.out.size)
    have SZ2 : Hid (w.heap.size + 1 + 1 + 1 ≤ w2.heap.size) := Nat.le_trans SZ1.out hb2.size
    have SE2 : Hid (e0 < w2.heap.size) := BE2.out.lt
    clear hb2 hb2' HO1 BA1 BR1 BO1 BE1 HB1 SZ1
    go_wp2_with fail
    refine hK.out _ _ ⟨BE2.out.c0, BE2.out.c1⟩ (fun hHeld2 => ?_)
    clear hK K
    refine wpAnyH_ready (rs := [4]) (by kernel_rfl) (by simp) ?_
    refine AllReadyH.cons rfl (fun K hK => ?_) AllReadyH.nil
    go_simp
    have BE3 := hide (BE2.out.alloc (.cells #[.string t.rs[k].1, .string t.rs[k].2] 156))
    go_wp2_with fail
    refine hK.out _ _ ⟨BE3.out.c0, BE3.out.c1⟩ (fun hHeld3 => ?_)
    clear hK K
    refine wpAnyH_ready (rs := [5]) (by kernel_rfl) (by simp) ?_
    refine AllReadyH.cons rfl (fun K hK => ?_) AllReadyH.nil
    refine stepAppKR (by rfl) _ _ (by rfl) t.rs[k] (by rfl) (HO2.out.alloc _) (by rfl) (heapAllocNew w2 [.string t.rs[k].1, .string t.rs[k].2] 156) hll (Nat.le_trans SZ2.out (by rw [World.size_alloc]; omega)) ?_
    intro v7 w7 ho7 hb7 hg7
    have BE7 := hide (bx_marked BE3.out hg7 (fun e => by have := UB.out _ e; omega))
    have HO7 : Hid (GOwn encR 156 w7 (w.heap.size + 1 + 1 + 1) v7 (t.rs.take (k + 1))) := by
     show GOwn _ _ _ _ _ _
     rw [HE.out]; exact ho7
    have BA7 := hide ((BA2.out.alloc (.cells #[.string t.rs[k].1, .string t.rs[k].2] 156)).belowB hb7 (by omega))
    have BR7 := hide ((BR2.out.alloc (.cells #[.string t.rs[k].1, .string t.rs[k].2] 156)).belowB hb7 (by omega))
    have BO7 := hide ((BO2.out.alloc (.cells #[.string t.rs[k].1, .string t.rs[k].2] 156)).belowB hb7 (by omega))
    have HB7 : Hid (Below w.heap.size w w7) := (HB2.out.alloc HB2.out.size _).trans (hb7.mono (by omega))
    have SZ7 : Hid (w.heap.size + 1 + 1 + 1 ≤ w7.heap.size) := Nat.le_trans SZ2.out (Nat.le_trans (by rw [World.size_alloc]; omega) hb7.size)
    clear ho7 hb7 hg7 HO2 BA2 BR2 BO2 BE2 BE3 HB2 SZ2 HE
    go_wp2_with fail
    refine hK.out _ _ ⟨BE7.out.c0, BE7.out.c1⟩ (fun hHeld7 => ?_)
    clear hK K
    (refine ti 6 ?_; simp only [Act.put, tA, tB, tC, tD, tE, tF])
    obtain ⟨a7, n7, c7, rfl⟩ : ∃ a n c, v7 = .slice a n c := by obtain ⟨ao, cap, e, _⟩ := HO7.out.row; exact ⟨_, _, _, e⟩
    have o4 := BO7.out.c4
    have f4 := BO7.out.fz 4
    refine wpAnyH_ready (rs := [7]) (by kernel_rfl) (by simp) ?_
    refine AllReadyH.cons rfl (fun K hK => ?_) AllReadyH.nil
    go_simp
    clear o4 f4
    have hne0 : w.heap.size + 1 + 1 ≠ e0 := by have := SE.out; omega
    have BE8 := BE7.out.setO (p := ⟨w.heap.size + 1 + 1, 4, none⟩) hne0 (.slice a7 n7 c7)
    refine hK.out _ _ ⟨BE8.c0, BE8.c1⟩ (fun hHeld8 => ?_)
    clear hK K
    refine wpAnyH_done (by kernel_rfl) ?_ _
    have HO8 : Hid (GOwn encR 156 (w7.setCell ⟨w.heap.size + 1 + 1, 4, none⟩ (.slice a7 n7 c7)) (w.heap.size + 1 + 1 + 1) (.slice a7 n7 c7) (t.rs.take (k + 1))) := HO7.out.set (by show _ + 1 + 1 < _; omega) _
    have BA8 : Hid (Bx (w7.setCell ⟨w.heap.size + 1 + 1, 4, none⟩ (.slice a7 n7 c7)) w.heap.size [.int .i64 t.id, .int .i64 t.st, .int .i64 t.snap, .int .i64 t.cs, .slice (some ⟨b, off, none⟩) t.rs.length rc, .slice wa t.ws.length wc, .bool t.out, .string t.nm]) := BA7.out.setO (by show w.heap.size + 1 + 1 ≠ w.heap.size; omega) _
    have BR8 : Hid (Bx (w7.setCell ⟨w.heap.size + 1 + 1, 4, none⟩ (.slice a7 n7 c7)) (w.heap.size + 1) [.int .i64 0, .int .i64 0, .int .i64 0, .int .i64 0, .slice none 0 0, .slice none 0 0, .bool false, .string ⟨#[]⟩]) := BR7.out.setO (by show w.heap.size + 1 + 1 ≠ w.heap.size + 1; omega) _
    have BO8 : Hid (Bx (w7.setCell ⟨w.heap.size + 1 + 1, 4, none⟩ (.slice a7 n7 c7)) (w.heap.size + 1 + 1) [.int .i64 t.id, .int .i64 t.st, .int .i64 t.snap, .int .i64 t.cs, .slice a7 n7 c7, .slice wa t.ws.length wc, .bool t.out, .string t.nm]) := BO7.out.set 4 _
    have HB8 : Hid (Below w.heap.size w (w7.setCell ⟨w.heap.size + 1 + 1, 4, none⟩ (.slice a7 n7 c7))) := HB7.out.setCell (by show _ ≤ _ + 1 + 1; omega) _
    have SZ8 : Hid (w.heap.size + 1 + 1 + 1 ≤ (w7.setCell ⟨w.heap.size + 1 + 1, 4, none⟩ (.slice a7 n7 c7)).heap.size) := by show _ ≤ _; simpa [World.setCell] using SZ7.out
    clear BE8 BE7 HO7 BA7 BR7 BO7 HB7 SZ7
    go_wp2
    go_roundw
    case rel => exact ⟨k + 1, (.slice a7 n7 c7), by omega, by go_num, HO8, BA8, BR8, BO8, HB8, SZ8⟩
    case measure => simp [intOf]; omega
   ·go_simp
    go_wp2_with fail
    refine (icopyR t.rs[k] HZ.out.1 HZ.out.2 _).mono ?_
    rintro e w2 ⟨rfl, hb2'⟩
    have hb2 := undrew hb2'
    have HO2 := hide (HO1.out.below hb2)
    have BA2 := hide (BA1.out.below hb2)
    have BR2 := hide (BR1.out.below hb2)
    have BO2 := hide (BO1.out.below hb2)
    have BE2 := hide (BE1.out.below hb2)
    have HB2 : Hid (Below w.heap.size w w2) := HB1.out.trans (hb2.mono HB1.out.size)
    have SZ2 : Hid (w.heap.size + 1 + 1 + 1 ≤ w2.heap.size) := Nat.le_trans SZ1.out hb2.size
    have SE2 : Hid (e0 < w2.heap.size) := BE2.out.lt
    clear hb2 hb2' HO1 BA1 BR1 BO1 BE1 HB1 SZ1
    go_wp2_with fail
    refine hK.out _ _ ⟨BE2.out.c0, BE2.out.c1⟩ (fun hHeld2 => ?_)
    clear hK K
    refine wpAnyH_ready (rs := [1, 4]) (by kernel_rfl) (by simp) ?_
    refine AllReadyH.cons rfl (fun K hK => ?_) (AllReadyH.cons rfl (fun K hK => ?_) AllReadyH.nil)
    ·have o4 := BO2.out.c4
     go_simp
     refine hK.out _ _ ⟨BE2.out.c0, BE2.out.c1⟩ (fun hHeld1 => ?_)
     clear hK K o4
     refine wpAnyH_ready (rs := [4]) (by kernel_rfl) (by simp) ?_
     refine AllReadyH.cons rfl (fun K hK => ?_) AllReadyH.nil
     go_simp
     have BE3 := hide (BE2.out.alloc (.cells #[.string t.rs[k].1, .string t.rs[k].2] 156))
     go_wp2_with fail
     refine hK.out _ _ ⟨BE3.out.c0, BE3.out.c1⟩ (fun hHeld3 => ?_)
     clear hK K
     refine wpAnyH_ready (rs := [5]) (by kernel_rfl) (by simp) ?_
     refine AllReadyH.cons rfl (fun K hK => ?_) AllReadyH.nil
     refine stepAppKR (by rfl) _ _ (by rfl) t.rs[k] (by rfl) (HO2.out.alloc _) (by rfl) (heapAllocNew w2 [.string t.rs[k].1, .string t.rs[k].2] 156) hll (Nat.le_trans SZ2.out (by rw [World.size_alloc]; omega)) ?_
     intro v7 w7 ho7 hb7 hg7
     have BE7 := hide (bx_marked BE3.out hg7 (fun e => by have := UB.out _ e; omega))
     have HO7 : Hid (GOwn encR 156 w7 (w.heap.size + 1 + 1 + 1) v7 (t.rs.take (k + 1))) := by
      show GOwn _ _ _ _ _ _
      rw [HE.out]; exact ho7
     have BA7 := hide ((BA2.out.alloc (.cells #[.string t.rs[k].1, .string t.rs[k].2] 156)).belowB hb7 (by omega))
     have BR7 := hide ((BR2.out.alloc (.cells #[.string t.rs[k].1, .string t.rs[k].2] 156)).belowB hb7 (by omega))
     have BO7 := hide ((BO2.out.alloc (.cells #[.string t.rs[k].1, .string t.rs[k].2] 156)).belowB hb7 (by omega))
     have HB7 : Hid (Below w.heap.size w w7) := (HB2.out.alloc HB2.out.size _).trans (hb7.mono (by omega))
     have SZ7 : Hid (w.heap.size + 1 + 1 + 1 ≤ w7.heap.size) := Nat.le_trans SZ2.out (Nat.le_trans (by rw [World.size_alloc]; omega) hb7.size)
     clear ho7 hb7 hg7 HO2 BA2 BR2 BO2 BE2 BE3 HB2 SZ2 HE
     go_wp2_with fail
     refine hK.out _ _ ⟨BE7.out.c0, BE7.out.c1⟩ (fun hHeld7 => ?_)
     clear hK K
     (refine ti 6 ?_; simp only [Act.put, tA, tB, tC, tD, tE, tF])
     obtain ⟨a7, n7, c7, rfl⟩ : ∃ a n c, v7 = .slice a n c := by obtain ⟨ao, cap, e, _⟩ := HO7.out.row; exact ⟨_, _, _, e⟩
     have o4 := BO7.out.c4
     have f4 := BO7.out.fz 4
     refine wpAnyH_ready (rs := [7]) (by kernel_rfl) (by simp) ?_
     refine AllReadyH.cons rfl (fun K hK => ?_) AllReadyH.nil
     go_simp
     clear o4 f4
     have hne0 : w.heap.size + 1 + 1 ≠ e0 := by have := SE.out; omega
     have BE8 := BE7.out.setO (p := ⟨w.heap.size + 1 + 1, 4, none⟩) hne0 (.slice a7 n7 c7)
     refine hK.out _ _ ⟨BE8.c0, BE8.c1⟩ (fun hHeld8 => ?_)
     clear hK K
     refine wpAnyH_done (by kernel_rfl) ?_ _
     have HO8 : Hid (GOwn encR 156 (w7.setCell ⟨w.heap.size + 1 + 1, 4, none⟩ (.slice a7 n7 c7)) (w.heap.size + 1 + 1 + 1) (.slice a7 n7 c7) (t.rs.take (k + 1))) := HO7.out.set (by show _ + 1 + 1 < _; omega) _
     have BA8 : Hid (Bx (w7.setCell ⟨w.heap.size + 1 + 1, 4, none⟩ (.slice a7 n7 c7)) w.heap.size [.int .i64 t.id, .int .i64 t.st, .int .i64 t.snap, .int .i64 t.cs, .slice (some ⟨b, off, none⟩) t.rs.length rc, .slice wa t.ws.length wc, .bool t.out, .string t.nm]) := BA7.out.setO (by show w.heap.size + 1 + 1 ≠ w.heap.size; omega) _
     have BR8 : Hid (Bx (w7.setCell ⟨w.heap.size + 1 + 1, 4, none⟩ (.slice a7 n7 c7)) (w.heap.size + 1) [.int .i64 0, .int .i64 0, .int .i64 0, .int .i64 0, .slice none 0 0, .slice none 0 0, .bool false, .string ⟨#[]⟩]) := BR7.out.setO (by show w.heap.size + 1 + 1 ≠ w.heap.size + 1; omega) _
     have BO8 : Hid (Bx (w7.setCell ⟨w.heap.size + 1 + 1, 4, none⟩ (.slice a7 n7 c7)) (w.heap.size + 1 + 1) [.int .i64 t.id, .int .i64 t.st, .int .i64 t.snap, .int .i64 t.cs, .slice a7 n7 c7, .slice wa t.ws.length wc, .bool t.out, .string t.nm]) := BO7.out.set 4 _
     have HB8 : Hid (Below w.heap.size w (w7.setCell ⟨w.heap.size + 1 + 1, 4, none⟩ (.slice a7 n7 c7))) := HB7.out.setCell (by show _ ≤ _ + 1 + 1; omega) _
     have SZ8 : Hid (w.heap.size + 1 + 1 + 1 ≤ (w7.setCell ⟨w.heap.size + 1 + 1, 4, none⟩ (.slice a7 n7 c7)).heap.size) := by show _ ≤ _; simpa [World.setCell] using SZ7.out
     clear BE8 BE7 HO7 BA7 BR7 BO7 HB7 SZ7
     go_wp2
     go_roundw
     case rel => exact ⟨k + 1, (.slice a7 n7 c7), by omega, by go_num, HO8, BA8, BR8, BO8, HB8, SZ8⟩
     case measure => simp [intOf]; omega
    ·go_simp
     have BE3 := hide (BE2.out.alloc (.cells #[.string t.rs[k].1, .string t.rs[k].2] 156))
     go_wp2_with fail
     refine hK.out _ _ ⟨BE3.out.c0, BE3.out.c1⟩ (fun hHeld3 => ?_)
     clear hK K
     refine wpAnyH_ready (rs := [1]) (by kernel_rfl) (by simp) ?_
     refine AllReadyH.cons rfl (fun K hK => ?_) AllReadyH.nil
     have o4 := (BO2.out.alloc (.cells #[.string t.rs[k].1, .string t.rs[k].2] 156)).c4
     go_simp
     refine hK.out _ _ ⟨BE3.out.c0, BE3.out.c1⟩ (fun hHeld1 => ?_)
     clear hK K o4
     refine wpAnyH_ready (rs := [5]) (by kernel_rfl) (by simp) ?_
     refine AllReadyH.cons rfl (fun K hK => ?_) AllReadyH.nil
     refine stepAppKR (by rfl) _ _ (by rfl) t.rs[k] (by rfl) (HO2.out.alloc _) (by rfl) (heapAllocNew w2 [.string t.rs[k].1, .string t.rs[k].2] 156) hll (Nat.le_trans SZ2.out (by rw [World.size_alloc]; omega)) ?_
     intro v7 w7 ho7 hb7 hg7
     have BE7 := hide (bx_marked BE3.out hg7 (fun e => by have := UB.out _ e; omega))
     have HO7 : Hid (GOwn encR 156 w7 (w.heap.size + 1 + 1 + 1) v7 (t.rs.take (k + 1))) := by
      show GOwn _ _ _ _ _ _
      rw [HE.out]; exact ho7
     have BA7 := hide ((BA2.out.alloc (.cells #[.string t.rs[k].1, .string t.rs[k].2] 156)).belowB hb7 (by omega))
     have BR7 := hide ((BR2.out.alloc (.cells #[.string t.rs[k].1, .string t.rs[k].2] 156)).belowB hb7 (by omega))
     have BO7 := hide ((BO2.out.alloc (.cells #[.string t.rs[k].1, .string t.rs[k].2] 156)).belowB hb7 (by omega))
     have HB7 : Hid (Below w.heap.size w w7) := (HB2.out.alloc HB2.out.size _).trans (hb7.mono (by omega))
     have SZ7 : Hid (w.heap.size + 1 + 1 + 1 ≤ w7.heap.size) := Nat.le_trans SZ2.out (Nat.le_trans (by rw [World.size_alloc]; omega) hb7.size)
     clear ho7 hb7 hg7 HO2 BA2 BR2 BO2 BE2 BE3 HB2 SZ2 HE
     go_wp2_with fail
     refine hK.out _ _ ⟨BE7.out.c0, BE7.out.c1⟩ (fun hHeld7 => ?_)
     clear hK K
     (refine ti 6 ?_; simp only [Act.put, tA, tB, tC, tD, tE, tF])
     obtain ⟨a7, n7, c7, rfl⟩ : ∃ a n c, v7 = .slice a n c := by obtain ⟨ao, cap, e, _⟩ := HO7.out.row; exact ⟨_, _, _, e⟩
     have o4 := BO7.out.c4
     have f4 := BO7.out.fz 4
     refine wpAnyH_ready (rs := [7]) (by kernel_rfl) (by simp) ?_
     refine AllReadyH.cons rfl (fun K hK => ?_) AllReadyH.nil
     go_simp
     clear o4 f4
     have hne0 : w.heap.size + 1 + 1 ≠ e0 := by have := SE.out; omega
     have BE8 := BE7.out.setO (p := ⟨w.heap.size + 1 + 1, 4, none⟩) hne0 (.slice a7 n7 c7)
     refine hK.out _ _ ⟨BE8.c0, BE8.c1⟩ (fun hHeld8 => ?_)
     clear hK K
     refine wpAnyH_done (by kernel_rfl) ?_ _
     have HO8 : Hid (GOwn encR 156 (w7.setCell ⟨w.heap.size + 1 + 1, 4, none⟩ (.slice a7 n7 c7)) (w.heap.size + 1 + 1 + 1) (.slice a7 n7 c7) (t.rs.take (k + 1))) := HO7.out.set (by show _ + 1 + 1 < _; omega) _
     have BA8 : Hid (Bx (w7.setCell ⟨w.heap.size + 1 + 1, 4, none⟩ (.slice a7 n7 c7)) w.heap.size [.int .i64 t.id, .int .i64 t.st, .int .i64 t.snap, .int .i64 t.cs, .slice (some ⟨b, off, none⟩) t.rs.length rc, .slice wa t.ws.length wc, .bool t.out, .string t.nm]) := BA7.out.setO (by show w.heap.size + 1 + 1 ≠ w.heap.size; omega) _
     have BR8 : Hid (Bx (w7.setCell ⟨w.heap.size + 1 + 1, 4, none⟩ (.slice a7 n7 c7)) (w.heap.size + 1) [.int .i64 0, .int .i64 0, .int .i64 0, .int .i64 0, .slice none 0 0, .slice none 0 0, .bool false, .string ⟨#[]⟩]) := BR7.out.setO (by show w.heap.size + 1 + 1 ≠ w.heap.size + 1; omega) _
     have BO8 : Hid (Bx (w7.setCell ⟨w.heap.size + 1 + 1, 4, none⟩ (.slice a7 n7 c7)) (w.heap.size + 1 + 1) [.int .i64 t.id, .int .i64 t.st, .int .i64 t.snap, .int .i64 t.cs, .slice a7 n7 c7, .slice wa t.ws.length wc, .bool t.out, .string t.nm]) := BO7.out.set 4 _
     have HB8 : Hid (Below w.heap.size w (w7.setCell ⟨w.heap.size + 1 + 1, 4, none⟩ (.slice a7 n7 c7))) := HB7.out.setCell (by show _ ≤ _ + 1 + 1; omega) _
     have SZ8 : Hid (w.heap.size + 1 + 1 + 1 ≤ (w7.setCell ⟨w.heap.size + 1 + 1, 4, none⟩ (.slice a7 n7 c7)).heap.size) := by show _ ≤ _; simpa [World.setCell] using SZ7.out
     clear BE8 BE7 HO7 BA7 BR7 BO7 HB7 SZ7
     go_wp2
     go_roundw
     case rel => exact ⟨k + 1, (.slice a7 n7 c7), by omega, by go_num, HO8, BA8, BR8, BO8, HB8, SZ8⟩
     case measure => simp [intOf]; omega
  ·have hlt' : ¬ (k : Int) < (t.rs.length : Int) := by omega
   have ho := HO.out
   rw [List.take_of_length_le (by omega)] at ho
   obtain ⟨ra1, rc1, rfl, _⟩ := ho.row
   have L1 : Hid (Lies encR 156 wr (w.heap.size + 1 + 1 + 1) wr.heap.size (.slice ra1 t.rs.length rc1) t.rs) := Lies.of ho
   clear ho HO
   have x5 := BA.out.c5
   go_wp2_with fail
   refine (icopyWs t.ws wa wc hw HWF.out _ (HP.out.w.below HB.out)).mono ?_
   rintro e w2 ⟨wa1, wc1, rfl, hd2, hb2⟩
   have L2 : Hid (TLie w2 (w.heap.size + 1 + 1 + 1) w2.heap.size t ra1 rc1 wa1 wc1) := ⟨wr.heap.size, SZ.out, hb2.size, L1.out.below hb2, Lies.of hd2⟩
   have BA2 := hide (BA.out.below hb2)
   have BR2 := hide (BR.out.below hb2)
   have BO2 := hide (BO.out.below hb2)
   have HB2 : Hid (Below w.heap.size w w2) := HB.out.trans (hb2.mono HB.out.size)
   clear hb2 hd2 L1 BA BR BO HB x5
   have x7 := BA2.out.c7
   have o5 := BO2.out.c5
   have f5 := BO2.out.fz 5
   go_wp2_with fail
   clear x7 o5 f5
   refine (clone49 t.nm (by omega) _).mono ?_
   have L3 : Hid (TLie (w2.setCell ⟨w.heap.size + 1 + 1, 5, none⟩ (.slice wa1 t.ws.length wc1)) (w.heap.size + 1 + 1 + 1) w2.heap.size t ra1 rc1 wa1 wc1) := L2.out.set (by show _ + 1 + 1 < _; omega) _
   have BR3 : Hid (Bx (w2.setCell ⟨w.heap.size + 1 + 1, 5, none⟩ (.slice wa1 t.ws.length wc1)) (w.heap.size + 1) [.int .i64 0, .int .i64 0, .int .i64 0, .int .i64 0, .slice none 0 0, .slice none 0 0, .bool false, .string ⟨#[]⟩]) := BR2.out.setO (by show w.heap.size + 1 + 1 ≠ w.heap.size + 1; omega) _
   have BO3 : Hid (Bx (w2.setCell ⟨w.heap.size + 1 + 1, 5, none⟩ (.slice wa1 t.ws.length wc1)) (w.heap.size + 1 + 1) [.int .i64 t.id, .int .i64 t.st, .int .i64 t.snap, .int .i64 t.cs, .slice ra1 t.rs.length rc1, .slice wa1 t.ws.length wc1, .bool t.out, .string t.nm]) := BO2.out.set 5 _
   have HB3 : Hid (Below w.heap.size w (w2.setCell ⟨w.heap.size + 1 + 1, 5, none⟩ (.slice wa1 t.ws.length wc1))) := HB2.out.setCell (by show _ ≤ _ + 1 + 1; omega) _
   have Z3 : Hid ((w2.setCell ⟨w.heap.size + 1 + 1, 5, none⟩ (.slice wa1 t.ws.length wc1)).heap.size = w2.heap.size) := by show _ = _; simp [World.setCell]
   rintro e w3 ⟨rfl, hb3⟩
   have L4 : Hid (TLie w3 (w.heap.size + 1 + 1 + 1) w3.heap.size t ra1 rc1 wa1 wc1) := (L3.out.below hb3).mono (Nat.le_refl _) (by have := hb3.size; rw [Z3.out] at this; exact this)
   have BR4 := hide (BR3.out.below hb3)
   have BO4 := hide (BO3.out.below hb3)
   have HB4 : Hid (Below w.heap.size w w3) := HB3.out.trans (hb3.mono HB3.out.size)
   clear hb3 L2 L3 BA2 BR2 BO2 BR3 BO3 HB2 HB3 Z3
   have o0 := BO4.out.c0
   have q0 := BR4.out.c0
   have fq0 := BR4.out.fz 0
   have o1 := BO4.out.c1
   have q1 := BR4.out.c1
   have fq1 := BR4.out.fz 1
   have o2 := BO4.out.c2
   have q2 := BR4.out.c2
   have fq2 := BR4.out.fz 2
   have o3 := BO4.out.c3
   have q3 := BR4.out.c3
   have fq3 := BR4.out.fz 3
   have o4 := BO4.out.c4
   have q4 := BR4.out.c4
   have fq4 := BR4.out.fz 4
   have o5 := BO4.out.c5
   have q5 := BR4.out.c5
   have fq5 := BR4.out.fz 5
   have o6 := BO4.out.c6
   have q6 := BR4.out.c6
   have fq6 := BR4.out.fz 6
   have o7 := BO4.out.c7
   have q7 := BR4.out.c7
   have fq7 := BR4.out.fz 7
   have f7 := BO4.out.fz 7
   go_wp2
   refine bodyPost_ret (v := .agg #[.int .i64 t.id, .int .i64 t.st, .int .i64 t.snap, .int .i64 t.cs, .slice ra1 t.rs.length rc1, .slice wa1 t.ws.length wc1, .bool t.out, .string t.nm]) (by simp [results, Tryz.results90, go_sem, q0, q1, q2, q3, q4, q5, q6, q7]) rfl ⟨ra1, rc1, wa1, wc1, rfl, ?_, ?_⟩
   ·exact (((((((((L4.out.set (by show _ + 1 + 1 < _; omega) _).set (by show _ + 1 < _; omega) _).set (by show _ + 1 < _; omega) _).set (by show _ + 1 < _; omega) _).set (by show _ + 1 < _; omega) _).set (by show _ + 1 < _; omega) _).set (by show _ + 1 < _; omega) _).set (by show _ + 1 < _; omega) _).set (by show _ + 1 < _; omega) _).mono (by omega) (by simp [World.setCell])
   ·exact (((((((((HB4.out.setCell (by show _ ≤ _ + 1 + 1; omega) _).setCell (by show _ ≤ _ + 1; omega) _).setCell (by show _ ≤ _ + 1; omega) _).setCell (by show _ ≤ _ + 1; omega) _).setCell (by show _ ≤ _ + 1; omega) _).setCell (by show _ ≤ _ + 1; omega) _).setCell (by show _ ≤ _ + 1; omega) _).setCell (by show _ ≤ _ + 1; omega) _).setCell (by show _ ≤ _ + 1; omega) _)
end Go.Proofs.YtmijppfppigjcaaGreat

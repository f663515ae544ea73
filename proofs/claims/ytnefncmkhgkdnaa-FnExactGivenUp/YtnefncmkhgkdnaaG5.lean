/- What stays: copies of lists, by the document. -/
import Derived.Test.YtnefncmkhgkdnaaG1
import Derived.Test.YtnefncmkhgkdnaaC2
import Derived.Deep.RegionHeld3
import Derived.Deep.Cut
import Derived.Deep.CutRange
namespace Go.Proofs.Ytnefncmkhgkdnaa
open Go.RowKit
open KM
attribute [local go_sem ↓] Go.wp_at_zero Go.wp_at_succ

theorem Zs.mem {w : World} {v : Value} : ∀ {ys : List Ta} {lo hi : Nat}, Zs w v lo hi ys → ∀ y ∈ ys, ∃ p q, TLie w p q y.t y.ra y.rc y.wa y.wc
  | [], _, _, _, _, hy => by cases hy
  | _ :: _, _, _, ⟨p, q, _, _, h3, _, h5⟩, y, hy => by
    rcases List.mem_cons.1 hy with rfl | hy
    · exact ⟨p, q, h3⟩
    · exact h5.mem y hy

set_option maxRecDepth 100000 in
set_option maxHeartbeats 4000000 in
theorem sTs (xs : List Ta) (a : Option Addr) (c n lo hi : Nat) (hx : n = xs.length) (hn : n ≤ 10000000) (fx : LFit (txs xs)) (w : World) (hp : LLie w lo hi (.slice a n c) xs) :
    Calls Try.prog 102 #[.slice a n c] w fun e w' => ∃ (ys : List Ta) (a1 : Option Addr) (c1 : Nat), e = .returned (.slice a1 n c1) ∧ txs ys = txs xs ∧ ys.length = n ∧ LLie w' w.heap.size w'.heap.size (.slice a1 ys.length c1) ys ∧ Below w.heap.size w w' := by
  have HP : Hid (LLie w lo hi (.slice a n c) xs) := hp
  have HX : Hid (n = xs.length) := hx
  have HF : Hid (LFit (txs xs)) := fx
  have HR : Hid (TRows w a xs) := by have h := hp; rw [hx] at h; exact h.rows
  clear hp hx fx
  go_enter Try.func102, Try.ntmps102
  go_wp2
  go_loopw [3, 4] (fun v t wr => ∃ (k : Nat) (ys : List Ta), k ≤ n ∧ t = .int .i64 k ∧ Hid (ys.length = k) ∧ Hid (txs ys = (txs xs).take k) ∧ Hid (LLie wr w.heap.size wr.heap.size v ys) ∧ Hid (Below w.heap.size w wr)) (fun _ t _ => n - (intOf t).toNat)
  case atStart => exact ⟨0, [], Nat.zero_le _, rfl, rfl, rfl, ⟨Lies.of (GOwn.empty w w.heap.size (Nat.le_refl _)), (show w.heap.size ≤ _ by simp)⟩, (belowRefl w).alloc (Nat.le_refl _) _⟩
  case round =>
    obtain ⟨k, ys, hk, rfl, HYL, HYT, HL, HB⟩ := hrel
    by_cases hlt : k < n
    · have hlt' : (k : Int) < (n : Int) := by omega
      have h0 : (0 : Int) ≤ (k : Int) := by omega
      have hkx : k < xs.length := by rw [← HX.out]; exact hlt
      obtain ⟨zp, zq, hT⟩ := HP.out.zs.mem _ (List.getElem_mem hkx)
      obtain ⟨b, o, rfl, hbl, hc, -⟩ := (HR.out.below HB.out).cls k hkx
      have hfx : TFit xs[k].t := HF.out.2 _ (List.mem_map.2 ⟨_, List.getElem_mem hkx, rfl⟩)
      obtain ⟨x, hx⟩ : ∃ x, x = xs[k] := ⟨_, rfl⟩
      rw [← hx] at hc hfx hT
      have HNT : Hid ((txs xs).take (k + 1) = (txs xs).take k ++ [x.t]) := by
        show _ = _
        rw [List.take_add_one, hx]
        simp [txs, List.getElem?_eq_getElem hkx]
      clear hx
      obtain ⟨zm, _, _, hR, hW⟩ := hT.ex
      have HC := hide (scopyT x.t x.ra x.wa x.rc x.wc zp zm (Nat.le_trans hfx.1 (by omega)) (Nat.le_trans hfx.2.2.1 (by omega)) wr (hR.own.below HB.out) (hW.own.below HB.out))
      have r0 := hc.c0
      have r1 := hc.c1
      have r2 := hc.c2
      have r3 := hc.c3
      have r4 := hc.c4
      have r5 := hc.c5
      have r6 := hc.c6
      have r7 := hc.c7
      clear hc hT hR hW hfx
      have hln : ys.length ≤ 100000000 := by rw [HYL.out]; omega
      go_wp2_with fail
      refine HC.out.mono ?_
      rintro e w2 ⟨ra1, rc1, wa1, wc1, rfl, ht, hb2⟩
      have HB2 : Hid (Below wr.heap.size wr w2) := hb2
      have HT : Hid (TLie w2 wr.heap.size w2.heap.size x.t ra1 rc1 wa1 wc1) := ht
      have O2 := hide (HL.out.own.own.below HB2.out)
      have HSB := hide HB.out.size
      clear r0 r1 r2 r3 r4 r5 r6 r7 hb2 ht HC
      have HBK : Hid ((w2.alloc (.cells #[.int .i64 x.t.id, .int .i64 x.t.st, .int .i64 x.t.snap, .int .i64 x.t.cs, .slice ra1 x.t.rs.length rc1, .slice wa1 x.t.ws.length wc1, .bool x.t.out, .string x.t.nm] 27)).heap[w2.heap.size]? = some (.cells (encT.enc ⟨x.t, ra1, rc1, wa1, wc1⟩).toArray 27 (0, 0))) := heap_alloc_new w2 _
      have O2a := hide (O2.out.alloc (.cells #[.int .i64 x.t.id, .int .i64 x.t.st, .int .i64 x.t.snap, .int .i64 x.t.cs, .slice ra1 x.t.rs.length rc1, .slice wa1 x.t.ws.length wc1, .bool x.t.out, .string x.t.nm] 27))
      have hbb : w.heap.size ≤ (w2.alloc (.cells #[.int .i64 x.t.id, .int .i64 x.t.st, .int .i64 x.t.snap, .int .i64 x.t.cs, .slice ra1 x.t.rs.length rc1, .slice wa1 x.t.ws.length wc1, .bool x.t.out, .string x.t.nm] 27)).heap.size := by have := HSB.out; have := HB2.out.size; simp; omega
      go_wp2_with (at_builtin; refine wpAppK (E := encT) 28 27 104 _ Try.underlying28 Try.info27 rfl (by omega) rfl _ _ rfl ⟨x.t, ra1, rc1, wa1, wc1⟩ tone rfl O2a.out rfl HBK.out hln hbb ?_)
      intro g' cap w3 ho3 hg3 hg4 hlt3
      have HL3 : Hid (LLie w3 w.heap.size w3.heap.size (.slice (some ⟨g', 0, none⟩) (ys.length + 1) cap) (ys ++ [⟨x.t, ra1, rc1, wa1, wc1⟩])) := LLie.more (y := ⟨x.t, ra1, rc1, wa1, wc1⟩) HL.out HB2.out (Nat.le_refl _) HB2.out.size HT.out ho3 hg3 hg4 rfl
      have hb3 : Below w.heap.size w2 w3 := (((belowRefl w2).alloc (Nat.le_refl _) _).mono (by have := HSB.out; have := HB2.out.size; omega)).trans ((Below.refl _ _).grown hg3 hbb (fun j hj => (World.ownsRow.lt O2a.out j hj).1))
      have HB3 : Hid (Below w.heap.size w w3) := (HB.out.trans (HB2.out.mono HSB.out)).trans hb3
      have HYL2 : Hid ((ys ++ [(⟨x.t, ra1, rc1, wa1, wc1⟩ : Ta)]).length = k + 1) := by show _ = _; simp [HYL.out]
      have HYT2 : Hid (txs (ys ++ [(⟨x.t, ra1, rc1, wa1, wc1⟩ : Ta)]) = (txs xs).take (k + 1)) := by show _ = _; rw [HNT.out, ← HYT.out]; simp [txs]
      clear ho3 hg3 hg4 hlt3 hb3 O2a O2 HBK HT HL HB2 HSB hbb HB
      go_wp2
      go_roundw
      case rel => exact ⟨k + 1, _, by omega, by go_num, HYL2, HYT2, HL3, HB3⟩
      case measure => simp [intOf]; omega
    · have hd : ¬ (k : Int) < (n : Int) := by omega
      have HE : Hid (txs ys = txs xs) := by show _ = _; rw [HYT.out, List.take_of_length_le (by rw [txs_len, ← HX.out]; omega)]
      have HLn : Hid (ys.length = n) := by show _ = _; rw [HYL.out]; omega
      obtain ⟨a1, c1, rfl, _⟩ := HL.out.own.own.row
      rw [HLn.out]
      have HLL := hide HL.out
      clear HYL HYT HL
      go_wp2
      go_ret
      exact ⟨ys, a1, c1, rfl, HE.out, HLn.out, by have h := HLL.out; rw [HLn.out] at h ⊢; exact h, HB.out⟩


end Go.Proofs.Ytnefncmkhgkdnaa

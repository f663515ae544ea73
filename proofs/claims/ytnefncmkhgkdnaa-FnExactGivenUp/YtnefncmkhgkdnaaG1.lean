/- What stays: copies of lists and of bases, by the program. -/
import Derived.Test.YtnefncmkhgkdnaaB3
import Derived.Test.YtnefncmkhgkdnaaP2a
import Derived.Test.YtnefncmkhgkdnaaN8
import Derived.Test.YtnefncmkhgkdnaaVC1
import Derived.Test.YtnefncmkhgkdnaaChD1
import Derived.Test.YtnefncmkhgkdnaaB4
import Derived.Laws.EntriesVeiled
import Derived.Deep.RegionHeld3
import Derived.Deep.Cut
import Derived.Deep.CutRange
namespace Go.Proofs.Ytnefncmkhgkdnaa
open Go.RowKit
open KM
open VM
attribute [local go_sem ↓] Go.wp_at_zero Go.wp_at_succ

theorem TLie.grown {w w' : World} {lo hi : Nat} {t : Tx} {ra wa : Option Addr} {rc wc : Nat} {row : Option Nat} (h : TLie w lo hi t ra rc wa wc) (hg : w.grownBy w' row) (hne : ∀ g, row = some g → g < lo ∨ hi ≤ g) : TLie w' lo hi t ra rc wa wc := by
  obtain ⟨m, p, q, h1, h2⟩ := h.ex
  exact ⟨m, p, q, h1.marked2 hg (fun g e => by have := hne g e; omega), h2.marked2 hg (fun g e => by have := hne g e; omega)⟩
theorem Zs.grown {w w' : World} {v : Value} (hg : w.grownBy w' v.ownBlock) : ∀ {ys : List Ta} {lo hi : Nat}, Zs w v lo hi ys → Zs w' v lo hi ys
  | [], _, _, h => h
  | _ :: _, _, _, ⟨p, q, h1, h2, h3, h4, h5⟩ => ⟨p, q, h1, h2, h3.grown hg h4, h4, h5.grown hg⟩
/-- one more, behind all -/
theorem LLie.more {w w2 w3 : World} {lo c0 n0 : Nat} {v : Value} {ys : List Ta} {y : Ta} {o : Obj} {g' cap p : Nat} (h : LLie w lo w.heap.size v ys) (hb : Below w.heap.size w w2) (hp : w.heap.size ≤ p) (hpq : p ≤ w2.heap.size) (hT : TLie w2 p w2.heap.size y.t y.ra y.rc y.wa y.wc)
    (ho : GOwn encT 27 w3 lo (.slice (some ⟨g', 0, none⟩) n0 cap) (ys ++ [y])) (hg : (w2.alloc o).grownBy w3 v.ownBlock) (hg2 : v.ownBlock = some g' ∨ g' = w2.heap.size + 1) (hc : c0 = n0) : LLie w3 lo w3.heap.size (.slice (some ⟨g', 0, none⟩) c0 cap) (ys ++ [y]) := by
  subst hc
  have hba : Below w2.heap.size w2 (w2.alloc o) := (belowRefl w2).alloc (Nat.le_refl _) _
  have hsz : (w2.alloc o).heap.size = w2.heap.size + 1 := by simp
  have h3 : w2.heap.size + 1 ≤ w3.heap.size := by have := hg.size; omega
  have hup := h.own.up
  have z1 : Zs w3 v lo w.heap.size ys := ((h.zs.below hb).below hba).grown hg
  have z2 : Zs w3 (.slice (some ⟨g', 0, none⟩) c0 cap) lo w.heap.size ys := z1.av (fun a b _ hbq hav g e => by
    have e' : g' = g := Option.some.inj e
    subst e'
    rcases hg2 with h4 | h4
    · exact hav _ h4
    · right; have := hb.size; omega)
  refine ⟨Lies.of ho, Zs.snoc (y := y) hp hpq (by omega) ((hT.below hba).grown hg (fun g e => ?_)) (fun g e => ?_) z2⟩
  · have := hup g e; omega
  · have e' : g' = g := Option.some.inj e
    subst e'
    rcases hg2 with h4 | h4
    · have := hup _ h4; omega
    · right; omega

set_option maxRecDepth 100000 in
set_option maxHeartbeats 4000000 in
theorem copyTs (xs : List Ta) (a : Option Addr) (c n : Nat) (hx : n = xs.length) (hn : n ≤ 10000000) (fx : LFit (txs xs)) (w : World) (hp : TRows w a xs) :
    Calls Try.prog 106 #[.slice a n c] w fun e w' => ∃ (ys : List Ta) (a1 : Option Addr) (c1 : Nat), e = .returned (.slice a1 n c1) ∧ txs ys = txs xs ∧ ys.length = n ∧ LLie w' w.heap.size w'.heap.size (.slice a1 ys.length c1) ys ∧ Below w.heap.size w w' := by
  have HP : Hid (TRows w a xs) := hp
  have HX : Hid (n = xs.length) := hx
  have HF : Hid (LFit (txs xs)) := fx
  clear hp hx fx
  go_enter Try.func106, Try.ntmps106
  go_wp2
  go_loopw [3, 8] (fun v t wr => ∃ (k : Nat) (ys : List Ta), k ≤ n ∧ t = .int .i64 k ∧ Hid (ys.length = k) ∧ Hid (txs ys = (txs xs).take k) ∧ Hid (LLie wr w.heap.size wr.heap.size v ys) ∧ Hid (Below w.heap.size w wr)) (fun _ t _ => n - (intOf t).toNat)
  case atStart => exact ⟨0, [], Nat.zero_le _, rfl, rfl, rfl, ⟨Lies.of (GOwn.nil _ _), (show w.heap.size ≤ w.heap.size from Nat.le_refl _)⟩, belowRefl w⟩
  case round =>
    obtain ⟨k, ys, hk, rfl, HYL, HYT, HL, HB⟩ := hrel
    by_cases hlt : k < n
    · have hlt' : (k : Int) < (n : Int) := by omega
      have h0 : (0 : Int) ≤ (k : Int) := by omega
      have hkx : k < xs.length := by rw [← HX.out]; exact hlt
      obtain ⟨b, o, rfl, hbl, hc, hrow⟩ := (HP.out.below HB.out).cls k hkx
      have hfx : TFit xs[k].t := HF.out.2 _ (List.mem_map.2 ⟨_, List.getElem_mem hkx, rfl⟩)
      obtain ⟨x, hx⟩ : ∃ x, x = xs[k] := ⟨_, rfl⟩
      rw [← hx] at hc hfx hrow
      have HXX : Hid (x = xs[k]) := hx
      have HNT : Hid ((txs xs).take (k + 1) = (txs xs).take k ++ [x.t]) := by
        show _ = _
        rw [List.take_add_one, hx]
        simp [txs, List.getElem?_eq_getElem hkx]
      clear hx
      have r0 := hc.c0
      have r1 := hc.c1
      have r2 := hc.c2
      have r3 := hc.c3
      have r4 := hc.c4
      have r5 := hc.c5
      have r6 := hc.c6
      have r7 := hc.c7
      clear hc
      have hln : ys.length ≤ 100000000 := by rw [HYL.out]; omega
      have HB1 : Hid (Below wr.heap.size wr (wr.alloc (.cells #[.int .i64 x.t.id, .int .i64 x.t.st, .int .i64 x.t.snap, .int .i64 x.t.cs, .slice x.ra x.t.rs.length x.rc, .slice x.wa x.t.ws.length x.wc, .bool x.t.out, .string x.t.nm] 27))) := (belowRefl wr).alloc (Nat.le_refl _) _
      have BX1 : Hid (Bx (wr.alloc (.cells #[.int .i64 x.t.id, .int .i64 x.t.st, .int .i64 x.t.snap, .int .i64 x.t.cs, .slice x.ra x.t.rs.length x.rc, .slice x.wa x.t.ws.length x.wc, .bool x.t.out, .string x.t.nm] 27)) wr.heap.size [.int .i64 x.t.id, .int .i64 x.t.st, .int .i64 x.t.snap, .int .i64 x.t.cs, .slice x.ra x.t.rs.length x.rc, .slice x.wa x.t.ws.length x.wc, .bool x.t.out, .string x.t.nm]) := Bx.new wr [.int .i64 x.t.id, .int .i64 x.t.st, .int .i64 x.t.snap, .int .i64 x.t.cs, .slice x.ra x.t.rs.length x.rc, .slice x.wa x.t.ws.length x.wc, .bool x.t.out, .string x.t.nm] 27
      have HC := hide (icopyT x.t x.ra x.wa x.rc x.wc hfx (wr.alloc (.cells #[.int .i64 x.t.id, .int .i64 x.t.st, .int .i64 x.t.snap, .int .i64 x.t.cs, .slice x.ra x.t.rs.length x.rc, .slice x.wa x.t.ws.length x.wc, .bool x.t.out, .string x.t.nm] 27)) (hrow.below HB1.out))
      have hs1 : wr.heap.size ≤ (wr.alloc (.cells #[.int .i64 x.t.id, .int .i64 x.t.st, .int .i64 x.t.snap, .int .i64 x.t.cs, .slice x.ra x.t.rs.length x.rc, .slice x.wa x.t.ws.length x.wc, .bool x.t.out, .string x.t.nm] 27)).heap.size := by simp
      clear hrow hfx
      go_upto_region 5 with fail
      clear r0 r1 r2 r3 r4 r5 r6 r7
      generalize (wr.alloc (.cells #[.int .i64 x.t.id, .int .i64 x.t.st, .int .i64 x.t.snap, .int .i64 x.t.cs, .slice x.ra x.t.rs.length x.rc, .slice x.wa x.t.ws.length x.wc, .bool x.t.out, .string x.t.nm] 27)) = w1 at *
      have x0 := BX1.out.c0
      have x1 := BX1.out.c1
      have x2 := BX1.out.c2
      have x3 := BX1.out.c3
      have x4 := BX1.out.c4
      have x5 := BX1.out.c5
      have x6 := BX1.out.c6
      have x7 := BX1.out.c7
      go_wp2_with fail
      refine HC.out.mono ?_
      rintro e w2 ⟨ra1, rc1, wa1, wc1, rfl, ht, hb2⟩
      have HB2 : Hid (Below wr.heap.size wr w2) := HB1.out.trans (hb2.mono HB1.out.size)
      have HT : Hid (TLie w2 w1.heap.size w2.heap.size x.t ra1 rc1 wa1 wc1) := ht
      have hs2 : w1.heap.size ≤ w2.heap.size := hb2.size
      have O2 := hide (HL.out.own.own.below HB2.out)
      have HSB := hide HB.out.size
      clear x0 x1 x2 x3 x4 x5 x6 x7 hb2 ht HC BX1 HB1
      have HBK : Hid ((w2.alloc (.cells #[.int .i64 x.t.id, .int .i64 x.t.st, .int .i64 x.t.snap, .int .i64 x.t.cs, .slice ra1 x.t.rs.length rc1, .slice wa1 x.t.ws.length wc1, .bool x.t.out, .string x.t.nm] 27)).heap[w2.heap.size]? = some (.cells (encT.enc ⟨x.t, ra1, rc1, wa1, wc1⟩).toArray 27 (0, 0))) := heap_alloc_new w2 _
      have O2a := hide (O2.out.alloc (.cells #[.int .i64 x.t.id, .int .i64 x.t.st, .int .i64 x.t.snap, .int .i64 x.t.cs, .slice ra1 x.t.rs.length rc1, .slice wa1 x.t.ws.length wc1, .bool x.t.out, .string x.t.nm] 27))
      have hbb : w.heap.size ≤ (w2.alloc (.cells #[.int .i64 x.t.id, .int .i64 x.t.st, .int .i64 x.t.snap, .int .i64 x.t.cs, .slice ra1 x.t.rs.length rc1, .slice wa1 x.t.ws.length wc1, .bool x.t.out, .string x.t.nm] 27)).heap.size := by have := HSB.out; have := HB2.out.size; simp; omega
      go_wp2_with (at_builtin; refine wpAppK (E := encT) 28 27 104 _ Try.underlying28 Try.info27 rfl (by omega) rfl _ _ rfl ⟨x.t, ra1, rc1, wa1, wc1⟩ tone rfl O2a.out rfl HBK.out hln hbb ?_)
      intro g' cap w3 ho3 hg3 hg4 hlt3
      have HL3 : Hid (LLie w3 w.heap.size w3.heap.size (.slice (some ⟨g', 0, none⟩) (ys.length + 1) cap) (ys ++ [⟨x.t, ra1, rc1, wa1, wc1⟩])) := LLie.more (y := ⟨x.t, ra1, rc1, wa1, wc1⟩) HL.out HB2.out hs1 hs2 HT.out ho3 hg3 hg4 rfl
      have hb3 : Below w.heap.size w2 w3 := (((belowRefl w2).alloc (Nat.le_refl _) _).mono (by have := HSB.out; have := HB2.out.size; omega)).trans ((Below.refl _ _).grown hg3 hbb (fun j hj => (World.ownsRow.lt O2a.out j hj).1))
      have HB3 : Hid (Below w.heap.size w w3) := (HB.out.trans (HB2.out.mono HSB.out)).trans hb3
      have HYL2 : Hid ((ys ++ [(⟨x.t, ra1, rc1, wa1, wc1⟩ : Ta)]).length = k + 1) := by show _ = _; simp [HYL.out]
      have HYT2 : Hid (txs (ys ++ [(⟨x.t, ra1, rc1, wa1, wc1⟩ : Ta)]) = (txs xs).take (k + 1)) := by show _ = _; rw [HNT.out, ← HYT.out]; simp [txs]
      clear ho3 hg3 hg4 hlt3 hb3 O2a O2 HBK HT HL HB2 HSB hs1 hs2 hbb HB
      go_wp2
      go_roundw
      case rel => exact ⟨k + 1, _, by omega, by go_num, HYL2, HYT2, HL3, HB3⟩
      case measure => simp [intOf]; omega
    · have hd : ¬ (k : Int) < (n : Int) := by omega
      have HE : Hid (txs ys = txs xs) := by show _ = _; rw [HYT.out, List.take_of_length_le (by rw [txs_len, ← HX.out]; omega)]
      have HLn : Hid (ys.length = n) := by show _ = _; rw [HYL.out]; omega
      obtain ⟨a1, c1, rfl, _⟩ := HL.out.own.own.row
      rw [HLn.out]
      have HLL := hide HL.out
      clear HYL HYT HL
      go_wp2
      go_ret
      exact ⟨ys, a1, c1, rfl, HE.out, HLn.out, by have h := HLL.out; rw [HLn.out] at h ⊢; exact h, HB.out⟩


end Go.Proofs.Ytnefncmkhgkdnaa

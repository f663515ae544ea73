/- Drawn lists of those that look and change: l08List, l08Some, DrawDanger, DrawOthers. -/
import Derived.Test.YtnefncmkhgkdnaaP3
import Derived.Test.YtnefncmkhgkdnaaN8
namespace Go.Proofs.Ytnefncmkhgkdnaa
open Go.RowKit
open KM
attribute [local go_sem ↓] Go.wp_at_zero Go.wp_at_succ

theorem own_apart {w : World} {b b' e e' s s' n n' : Nat} {v v' : Value} {xs xs' : List Value} (h : w.ownsRow b e s v n xs) (h' : w.ownsRow b' e' s' v' n' xs') (hne : e ≠ e') : ∀ g, v.ownBlock = some g → v'.ownBlock ≠ some g := by
  intro g hg hg'
  rcases h.2 with ⟨rfl, _⟩ | ⟨g1, cap, cur, rfl, _, hh, _⟩
  · cases hg
  · rcases h'.2 with ⟨rfl, _⟩ | ⟨g2, cap', cur', rfl, _, hh', _⟩
    · cases hg'
    · have e1 : g1 = g := by simpa [Value.ownBlock] using hg
      have e2 : g2 = g := by simpa [Value.ownBlock] using hg'
      rw [e1] at hh
      rw [e2, hh] at hh'
      cases hh'
      exact hne rfl
theorem own_grown {α : Type} {E : Enc α} {e : TypeId} {w w' : World} {base : Nat} {v : Value} {xs : List α} {row : Option Nat} (h : GOwn E e w base v xs) (hg : w.grownBy w' row) (hne : ∀ g, v.ownBlock = some g → row ≠ some g) : GOwn E e w' base v xs := by
  obtain ⟨h1, h2⟩ := h
  refine ⟨h1, ?_⟩
  rcases h2 with h2 | ⟨g, cap, cur, hv, hg', hh, r⟩
  · exact Or.inl h2
  · refine Or.inr ⟨g, cap, cur, hv, hg', ?_, r⟩
    have hlt : g < w.heap.size := (Array.getElem?_eq_some_iff.1 hh).1
    rw [hg.block g hlt (fun e => hne g (by rw [hv]; rfl) e.symm)]
    exact hh
theorem TOwn.grown {w w' : World} {base b : Nat} {x : Ta} {v : Value} {xs : List Ta} (h : TOwn w base x) (hv : GOwn encT 27 w b v xs) (hg : w.grownBy w' v.ownBlock) : TOwn w' base x :=
  ⟨own_grown h.r hg (own_apart h.r hv (by decide)), own_grown h.w hg (own_apart h.w hv (by decide))⟩
theorem TOwn.keptD {w w' : World} {base g len cap : Nat} {a : Option Addr} {x : Ta} (h : TOwn w base x) (d : Dn w w' g a len cap) (hlt : g < base) : TOwn w' base x := ⟨h.r.keptD d hlt, h.w.keptD d hlt⟩
/-- drawn ones, each with an Id from 10 on -/
def LsD (ys : List Ta) : Prop := ys.length ≤ 4 ∧ ∀ y ∈ ys, TxA y.t ∧ 10 ≤ y.t.id
theorem LsD.fit {ys : List Ta} (h : LsD ys) : LFit (txs ys) := ⟨by rw [txs_len]; exact Nat.le_trans h.1 (by omega), fun t ht => by
  obtain ⟨y, hy, rfl⟩ := List.mem_map.1 ht
  exact (h.2 y hy).1.fit⟩
/-- a drawn list, all of it owned -/
structure LOwn (w : World) (base : Nat) (v : Value) (ys : List Ta) : Prop where
  row : GOwn encT 27 w base v ys
  each : ∀ y ∈ ys, TOwn w base y
theorem LOwn.below {w w' : World} {base : Nat} {v : Value} {ys : List Ta} (h : LOwn w base v ys) (hb : Below w.heap.size w w') : LOwn w' base v ys := ⟨h.row.below hb, fun y hy => (h.each y hy).below hb⟩
theorem LOwn.keptD {w w' : World} {base g len cap : Nat} {a : Option Addr} {v : Value} {ys : List Ta} (h : LOwn w base v ys) (d : Dn w w' g a len cap) (hlt : g < base) : LOwn w' base v ys := ⟨h.row.keptD d hlt, fun y hy => (h.each y hy).keptD d hlt⟩
theorem LOwn.mono {w : World} {base base' : Nat} {v : Value} {ys : List Ta} (h : LOwn w base v ys) (hb : base' ≤ base) : LOwn w base' v ys := ⟨h.row.mono hb, fun y hy => (h.each y hy).mono hb⟩
theorem LOwn.rows {w : World} {base c : Nat} {a : Option Addr} {ys : List Ta} (h : LOwn w base (.slice a ys.length c) ys) : TRows w a ys := ⟨h.row.grow, fun y hy => (h.each y hy).row⟩

set_option maxRecDepth 100000 in
set_option maxHeartbeats 4000000 in
theorem drList (g len cap : Nat) (a : Option Addr) (w : World) (hc : CurI w g a len cap) :
    Calls Try.prog 43 #[.pointer (some ⟨g, 0, none⟩)] w fun e w' => ∃ (ys : List Ta) (a1 : Option Addr) (c1 : Nat), LsD ys ∧ e = .returned (.slice a1 ys.length c1) ∧ LOwn w' w.heap.size (.slice a1 ys.length c1) ys ∧ Dn w w' g a len cap := by
  have HC : Hid (CurI w g a len cap) := hc
  have hgl : g < w.heap.size := hc.lt
  clear hc
  go_enter Try.func43, Try.ntmps43
  go_wp2
  go_loopw [3, 4] (fun v t wr => ∃ (k : Nat) (ys : List Ta), k ≤ 4 ∧ t = .int .i64 k ∧ ys.length ≤ k ∧ Hid (∀ y ∈ ys, TxA y.t ∧ 10 ≤ y.t.id) ∧ Hid (LOwn wr w.heap.size v ys) ∧ Hid (Dn w wr g a len cap)) (fun _ t _ => 5 - (intOf t).toNat)
  case atStart => exact ⟨0, [], by omega, rfl, Nat.le_refl _, (fun y hy => by simp at hy), ⟨GOwn.empty _ _ (Nat.le_refl _), fun y hy => by simp at hy⟩, (Dn.start HC.out).alloc _⟩
  case round =>
    obtain ⟨k, ys, hk, rfl, hyl, HS, HO, HD⟩ := hrel
    obtain ⟨a0, c0, rfl, _⟩ := HO.out.row.row
    go_wp2_with fail
    refine (drBelow g len cap a 5 (by omega) (by omega) _ HD.out.c).mono ?_
    rintro e w1 ⟨n, hn, rfl, d1⟩
    have D1 : Hid (Dn w w1 g a len cap) := HD.out.step d1
    have O1 := hide (HO.out.keptD d1 hgl)
    clear d1
    by_cases hlt : k < n
    · have hlt' : (k : Int) < (n : Int) := by omega
      go_wp2_with fail
      refine (drTxn g len cap a _ D1.out.c).mono ?_
      rintro e w2 ⟨t, ra, rc, wa, wc, ht, rfl, ho1, ho2, d2⟩
      have D2 : Hid (Dn w w2 g a len cap) := D1.out.step d2
      have O2 := hide (O1.out.keptD d2 hgl)
      have hs1 := D1.out.size
      have hs2 := D2.out.size
      have HT := hide ht
      have TN : Hid (TOwn w2 w.heap.size ⟨⟨10 + (k : Int), t.st, t.snap, t.cs, t.rs, t.ws, t.out, t.nm⟩, ra, rc, wa, wc⟩) := ⟨ho1.mono hs1, ho2.mono hs1⟩
      clear d2 ht ho1 ho2
      have ew : IntKind.i64.wrap (10 + (k : Int)) = 10 + (k : Int) := by rw [IntKind.wrap_i64]; omega
      have hb3 : Below w2.heap.size w2 (w2.alloc (.cells #[.int .i64 (10 + (k : Int)), .int .i64 t.st, .int .i64 t.snap, .int .i64 t.cs, .slice ra t.rs.length rc, .slice wa t.ws.length wc, .bool t.out, .string t.nm] 27)) := (belowRefl w2).alloc (Nat.le_refl _) _
      have hb4 : Below w2.heap.size w2 ((w2.alloc (.cells #[.int .i64 (10 + (k : Int)), .int .i64 t.st, .int .i64 t.snap, .int .i64 t.cs, .slice ra t.rs.length rc, .slice wa t.ws.length wc, .bool t.out, .string t.nm] 27)).alloc (.cells #[.int .i64 (10 + (k : Int)), .int .i64 t.st, .int .i64 t.snap, .int .i64 t.cs, .slice ra t.rs.length rc, .slice wa t.ws.length wc, .bool t.out, .string t.nm] 27)) := hb3.alloc (by simp) _
      have O4 := hide (O2.out.below hb4)
      have T4 := hide (TN.out.below hb4)
      have D4 := hide (D2.out.below hb4)
      have hs4 : w.heap.size ≤ ((w2.alloc (.cells #[.int .i64 (10 + (k : Int)), .int .i64 t.st, .int .i64 t.snap, .int .i64 t.cs, .slice ra t.rs.length rc, .slice wa t.ws.length wc, .bool t.out, .string t.nm] 27)).alloc (.cells #[.int .i64 (10 + (k : Int)), .int .i64 t.st, .int .i64 t.snap, .int .i64 t.cs, .slice ra t.rs.length rc, .slice wa t.ws.length wc, .bool t.out, .string t.nm] 27)).heap.size := Nat.le_trans hs2 hb4.size
      have HBK : Hid (((w2.alloc (.cells #[.int .i64 (10 + (k : Int)), .int .i64 t.st, .int .i64 t.snap, .int .i64 t.cs, .slice ra t.rs.length rc, .slice wa t.ws.length wc, .bool t.out, .string t.nm] 27)).alloc (.cells #[.int .i64 (10 + (k : Int)), .int .i64 t.st, .int .i64 t.snap, .int .i64 t.cs, .slice ra t.rs.length rc, .slice wa t.ws.length wc, .bool t.out, .string t.nm] 27)).heap[w2.heap.size + 1]? = some (.cells #[.int .i64 (10 + (k : Int)), .int .i64 t.st, .int .i64 t.snap, .int .i64 t.cs, .slice ra t.rs.length rc, .slice wa t.ws.length wc, .bool t.out, .string t.nm] 27)) := by
        have h := heap_alloc_new (w2.alloc (.cells #[.int .i64 (10 + (k : Int)), .int .i64 t.st, .int .i64 t.snap, .int .i64 t.cs, .slice ra t.rs.length rc, .slice wa t.ws.length wc, .bool t.out, .string t.nm] 27)) (.cells #[.int .i64 (10 + (k : Int)), .int .i64 t.st, .int .i64 t.snap, .int .i64 t.cs, .slice ra t.rs.length rc, .slice wa t.ws.length wc, .bool t.out, .string t.nm] 27)
        rw [show (w2.alloc (.cells #[.int .i64 (10 + (k : Int)), .int .i64 t.st, .int .i64 t.snap, .int .i64 t.cs, .slice ra t.rs.length rc, .slice wa t.ws.length wc, .bool t.out, .string t.nm] 27)).heap.size = w2.heap.size + 1 by simp] at h
        exact h
      clear hb3 hb4
      go_wp2_with (at_builtin; refine wpAppK (E := encT) 28 27 104 _ Try.underlying28 Try.info27 rfl (by omega) rfl _ _ rfl (base := w.heap.size) (v := .slice a0 ys.length c0) (xs := ys) ⟨⟨10 + (k : Int), t.st, t.snap, t.cs, t.rs, t.ws, t.out, t.nm⟩, ra, rc, wa, wc⟩ tone rfl O4.out.row rfl HBK.out (by omega) hs4 ?_)
      intro g2 c2 w3 ho hg _ _
      have TA3 : Hid (∀ y ∈ ys ++ [(⟨⟨10 + (k : Int), t.st, t.snap, t.cs, t.rs, t.ws, t.out, t.nm⟩, ra, rc, wa, wc⟩ : Ta)], TOwn w3 w.heap.size y) := fun y hy => by
        rcases List.mem_append.1 hy with h | h
        · exact (O4.out.each y h).grown O4.out.row hg
        · rw [List.mem_singleton.1 h]; exact T4.out.grown O4.out.row hg
      have HS3 : Hid (∀ y ∈ ys ++ [(⟨⟨10 + (k : Int), t.st, t.snap, t.cs, t.rs, t.ws, t.out, t.nm⟩, ra, rc, wa, wc⟩ : Ta)], TxA y.t ∧ 10 ≤ y.t.id) := fun y hy => by
        rcases List.mem_append.1 hy with h | h
        · exact HS.out y h
        · rw [List.mem_singleton.1 h]; exact ⟨⟨HT.out.any.fit, HT.out.any.rl, HT.out.any.wl⟩, by show (10 : Int) ≤ 10 + (k : Int); omega⟩
      have D3 : Hid (Dn w w3 g a len cap) := D4.out.belowB (grown_low hg (fun b hb => (World.ownsRow.lt O4.out.row b hb).1) hs4)
      obtain ⟨zs, hzs⟩ : ∃ zs, zs = ys ++ [(⟨⟨10 + (k : Int), t.st, t.snap, t.cs, t.rs, t.ws, t.out, t.nm⟩, ra, rc, wa, wc⟩ : Ta)] := ⟨_, rfl⟩
      have hzl : ys.length + 1 = zs.length := by rw [hzs]; simp
      rw [← hzs] at ho TA3 HS3
      rw [hzl] at ho
      have HZ : Hid (ys.length + 1 = zs.length) := hzl
      have O3 : Hid (LOwn w3 w.heap.size (.slice (some ⟨g2, 0, none⟩) zs.length c2) zs) := ⟨ho, TA3.out⟩
      have hzk : zs.length ≤ k + 1 := by omega
      clear hg ho hzs hzl TA3 O4 T4 D4
      rw [HZ.out]
      go_wp2
      go_roundw
      case rel => exact ⟨k + 1, zs, by omega, by go_num, hzk, HS3, O3, D3⟩
      case measure => simp [intOf]; omega
    · have hlt' : ¬ (k : Int) < (n : Int) := by omega
      go_wp2
      go_ret
      exact ⟨ys, a0, c0, ⟨by omega, HS.out⟩, rfl, O1.out, D1.out⟩

theorem LOwn.s8P {w : World} {base : Nat} {v : Value} {ys : List Ta} (h : LOwn w base v ys) {ob : Nat} (hb : ob < base) (v0 v1 v2 v3 v4 v5 v6 v7 : Value) : LOwn ((((((((w.setCell ⟨ob, 0, none⟩ v0).setCell ⟨ob, 1, none⟩ v1).setCell ⟨ob, 2, none⟩ v2).setCell ⟨ob, 3, none⟩ v3).setCell ⟨ob, 4, none⟩ v4).setCell ⟨ob, 5, none⟩ v5).setCell ⟨ob, 6, none⟩ v6).setCell ⟨ob, 7, none⟩ v7) base v ys :=
  ⟨own_s8P h.row hb _ _ _ _ _ _ _ _, fun y hy => ⟨own_s8P (h.each y hy).r hb _ _ _ _ _ _ _ _, own_s8P (h.each y hy).w hb _ _ _ _ _ _ _ _⟩⟩

set_option maxRecDepth 100000 in
set_option maxHeartbeats 4000000 in
theorem dSome (len cap : Nat) (a : Option Addr) (hl : len ≤ 1048576) (w : World) (hr : CodeRow w a len) :
    Calls Try.prog 48 #[.slice a len cap] w fun e w' => ∃ (x : Ta) (ys : List Ta) (a1 : Option Addr) (c1 : Nat), TxA x.t ∧ LsD ys ∧ e = .returned (.tuple #[.agg #[.int .i64 x.t.id, .int .i64 x.t.st, .int .i64 x.t.snap, .int .i64 x.t.cs, .slice x.ra x.t.rs.length x.rc, .slice x.wa x.t.ws.length x.wc, .bool x.t.out, .string x.t.nm], .slice a1 ys.length c1]) ∧ TOwn w' w.heap.size x ∧ LOwn w' w.heap.size (.slice a1 ys.length c1) ys ∧ Below w.heap.size w w' := by
  have R10 : Hid (Bx (w.alloc (.cells #[.int .i64 0, .int .i64 0, .int .i64 0, .int .i64 0, .slice none 0 0, .slice none 0 0, .bool false, .string ⟨#[]⟩] 27)) (w.heap.size) [.int .i64 0, .int .i64 0, .int .i64 0, .int .i64 0, .slice none 0 0, .slice none 0 0, .bool false, .string ⟨#[]⟩]) := Bx.new w [.int .i64 0, .int .i64 0, .int .i64 0, .int .i64 0, .slice none 0 0, .slice none 0 0, .bool false, .string ⟨#[]⟩] 27
  have HB0 : Hid (Below w.heap.size w (w.alloc (.cells #[.int .i64 0, .int .i64 0, .int .i64 0, .int .i64 0, .slice none 0 0, .slice none 0 0, .bool false, .string ⟨#[]⟩] 27))) := (belowRefl w).alloc (Nat.le_refl _) _
  have HR : Hid (CodeRow (w.alloc (.cells #[.int .i64 0, .int .i64 0, .int .i64 0, .int .i64 0, .slice none 0 0, .slice none 0 0, .bool false, .string ⟨#[]⟩] 27)) a len) := hr.below HB0.out
  have hz0 : w.heap.size < (w.alloc (.cells #[.int .i64 0, .int .i64 0, .int .i64 0, .int .i64 0, .slice none 0 0, .slice none 0 0, .bool false, .string ⟨#[]⟩] 27)).heap.size := by simp
  clear hr
  go_enter Try.func48, Try.ntmps48
  go_wp2_with fail
  generalize (w.alloc (.cells #[.int .i64 0, .int .i64 0, .int .i64 0, .int .i64 0, .slice none 0 0, .slice none 0 0, .bool false, .string ⟨#[]⟩] 27)) = v0 at *
  refine (drNew len cap a hl _ HR.out).mono ?_
  rintro e v1 ⟨rfl, hc, hb⟩
  have hz1 : v0.heap.size ≤ v1.heap.size := hb.size
  have hlc := hc.lt
  have R11 : Hid (Bx v1 (w.heap.size) [.int .i64 0, .int .i64 0, .int .i64 0, .int .i64 0, .slice none 0 0, .slice none 0 0, .bool false, .string ⟨#[]⟩]) := R10.out.below hb
  have HB1 : Hid (Below w.heap.size w v1) := HB0.out.trans (hb.mono HB0.out.size)
  clear R10 HB0
  have D1 : Hid (Dn v1 v1 (v0.heap.size) a len cap) := Dn.start hc
  clear hb hc HR
  go_wp2_with fail
  refine (drAnyT v0.heap.size len cap a _ D1.out.c).mono ?_
  rintro e v2 ⟨t1, ra1, rc1, wa1, wc1, ht, rfl, ho1, ho2, d⟩
  have HT1 := hide ht
  have hsv2 := d.size
  have R12 : Hid (Bx v2 (w.heap.size) [.int .i64 0, .int .i64 0, .int .i64 0, .int .i64 0, .slice none 0 0, .slice none 0 0, .bool false, .string ⟨#[]⟩]) := R11.out.keptD d (by omega)
  have HB2 : Hid (Below w.heap.size w v2) := d.out HB1.out (by omega) (by omega)
  have D2 : Hid (Dn v1 v2 (v0.heap.size) a len cap) := D1.out.step d
  clear R11 HB1 D1
  clear d ht
  have OR12 : Hid (Lies encR 92 v2 (v1.heap.size) (v2.heap.size) (.slice ra1 t1.rs.length rc1) (t1.rs)) := Lies.of ho1
  have OW12 : Hid (Lies encW 96 v2 (v1.heap.size) (v2.heap.size) (.slice wa1 t1.ws.length wc1) (t1.ws)) := Lies.of ho2
  clear ho1 ho2
  go_upto_region 3 with fail
  have hb : Below v2.heap.size v2 (v2.alloc (.cells #[.int .i64 t1.id, .int .i64 t1.st, .int .i64 t1.snap, .int .i64 t1.cs, .slice ra1 t1.rs.length rc1, .slice wa1 t1.ws.length wc1, .bool t1.out, .string t1.nm] 27)) := (belowRefl v2).alloc (Nat.le_refl _) _
  have R13 : Hid (Bx (v2.alloc (.cells #[.int .i64 t1.id, .int .i64 t1.st, .int .i64 t1.snap, .int .i64 t1.cs, .slice ra1 t1.rs.length rc1, .slice wa1 t1.ws.length wc1, .bool t1.out, .string t1.nm] 27)) (w.heap.size) [.int .i64 0, .int .i64 0, .int .i64 0, .int .i64 0, .slice none 0 0, .slice none 0 0, .bool false, .string ⟨#[]⟩]) := R12.out.below hb
  have HB3 : Hid (Below w.heap.size w (v2.alloc (.cells #[.int .i64 t1.id, .int .i64 t1.st, .int .i64 t1.snap, .int .i64 t1.cs, .slice ra1 t1.rs.length rc1, .slice wa1 t1.ws.length wc1, .bool t1.out, .string t1.nm] 27))) := HB2.out.trans (hb.mono HB2.out.size)
  have D3 : Hid (Dn v1 (v2.alloc (.cells #[.int .i64 t1.id, .int .i64 t1.st, .int .i64 t1.snap, .int .i64 t1.cs, .slice ra1 t1.rs.length rc1, .slice wa1 t1.ws.length wc1, .bool t1.out, .string t1.nm] 27)) (v0.heap.size) a len cap) := D2.out.below hb
  have OR13 : Hid (Lies encR 92 (v2.alloc (.cells #[.int .i64 t1.id, .int .i64 t1.st, .int .i64 t1.snap, .int .i64 t1.cs, .slice ra1 t1.rs.length rc1, .slice wa1 t1.ws.length wc1, .bool t1.out, .string t1.nm] 27)) (v1.heap.size) (v2.heap.size) (.slice ra1 t1.rs.length rc1) (t1.rs)) := OR12.out.below hb
  have OW13 : Hid (Lies encW 96 (v2.alloc (.cells #[.int .i64 t1.id, .int .i64 t1.st, .int .i64 t1.snap, .int .i64 t1.cs, .slice ra1 t1.rs.length rc1, .slice wa1 t1.ws.length wc1, .bool t1.out, .string t1.nm] 27)) (v1.heap.size) (v2.heap.size) (.slice wa1 t1.ws.length wc1) (t1.ws)) := OW12.out.below hb
  clear R12 HB2 D2 OR12 OW12
  have B13 : Hid (Bx (v2.alloc (.cells #[.int .i64 t1.id, .int .i64 t1.st, .int .i64 t1.snap, .int .i64 t1.cs, .slice ra1 t1.rs.length rc1, .slice wa1 t1.ws.length wc1, .bool t1.out, .string t1.nm] 27)) (v2.heap.size) [.int .i64 t1.id, .int .i64 t1.st, .int .i64 t1.snap, .int .i64 t1.cs, .slice ra1 t1.rs.length rc1, .slice wa1 t1.ws.length wc1, .bool t1.out, .string t1.nm]) := Bx.new v2 [.int .i64 t1.id, .int .i64 t1.st, .int .i64 t1.snap, .int .i64 t1.cs, .slice ra1 t1.rs.length rc1, .slice wa1 t1.ws.length wc1, .bool t1.out, .string t1.nm] 27
  clear hb
  generalize (v2.alloc (.cells #[.int .i64 t1.id, .int .i64 t1.st, .int .i64 t1.snap, .int .i64 t1.cs, .slice ra1 t1.rs.length rc1, .slice wa1 t1.ws.length wc1, .bool t1.out, .string t1.nm] 27)) = v3 at *
  have hlv3 : v2.heap.size < v3.heap.size := B13.out.lt
  refine wp_region_held_drew (S := fun w' => w'.cell? ⟨v2.heap.size, 0, none⟩ = some (.int .i64 t1.id) ∧ w'.cell? ⟨v2.heap.size, 1, none⟩ = some (.int .i64 t1.st) ∧ w'.cell? ⟨v2.heap.size, 2, none⟩ = some (.int .i64 t1.snap) ∧ w'.cell? ⟨v2.heap.size, 3, none⟩ = some (.int .i64 t1.cs) ∧ w'.cell? ⟨v2.heap.size, 4, none⟩ = some (.slice ra1 t1.rs.length rc1) ∧ w'.cell? ⟨v2.heap.size, 5, none⟩ = some (.slice wa1 t1.ws.length wc1) ∧ w'.cell? ⟨v2.heap.size, 6, none⟩ = some (.bool t1.out) ∧ w'.cell? ⟨v2.heap.size, 7, none⟩ = some (.string t1.nm)) (by kernel_rfl) ⟨B13.out.c0, B13.out.c1, B13.out.c2, B13.out.c3, B13.out.c4, B13.out.c5, B13.out.c6, B13.out.c7⟩ (fun hHeld => ?_)
  (refine wpAnyH_take (i := 0) (v := ?_) rfl (by kernel_rfl) (by kernel_rfl) (by kernel_rfl) (fun _ _ _ h => h) (Or.inl ⟨by rfl, ?_⟩) (by assumption) ?_; rotate_left; (focus (intro w hSw; (try dsimp only at hSw); go_simp; (try with_reducible rfl); done)); simp only [Act.put, List.getElem_toArray, List.getElem_cons_zero, List.setIfInBounds_toArray, List.set_cons_zero, List.set_cons_succ])
  (refine wpAnyH_take (i := 1) (v := ?_) rfl (by kernel_rfl) (by kernel_rfl) (by kernel_rfl) (fun _ _ _ h => h) (Or.inl ⟨by rfl, ?_⟩) (by assumption) ?_; rotate_left; (focus (intro w hSw; (try dsimp only at hSw); go_simp; (try with_reducible rfl); done)); simp only [Act.put, List.getElem_toArray, List.getElem_cons_zero, List.getElem_cons_succ, List.setIfInBounds_toArray, List.set_cons_zero, List.set_cons_succ])
  refine wpAnyH_ready (rs := [2]) (by kernel_rfl) (by simp) ?_
  refine AllReadyH.cons rfl (fun K hK => ?_) AllReadyH.nil
  go_simp
  go_wp2_with fail
  have R14 : Hid (Bx v3.drew (w.heap.size) [.int .i64 0, .int .i64 0, .int .i64 0, .int .i64 0, .slice none 0 0, .slice none 0 0, .bool false, .string ⟨#[]⟩]) := R13.out.below (belowRefl v3).drew
  have HB4 : Hid (Below w.heap.size w v3.drew) := HB3.out.trans ((belowRefl v3).drew.mono HB3.out.size)
  have D4 : Hid (Dn v1 v3.drew (v0.heap.size) a len cap) := D3.out.below (belowRefl v3).drew
  have OR14 : Hid (Lies encR 92 v3.drew (v1.heap.size) (v2.heap.size) (.slice ra1 t1.rs.length rc1) (t1.rs)) := OR13.out.below (belowRefl v3).drew
  have OW14 : Hid (Lies encW 96 v3.drew (v1.heap.size) (v2.heap.size) (.slice wa1 t1.ws.length wc1) (t1.ws)) := OW13.out.below (belowRefl v3).drew
  have B14 : Hid (Bx v3.drew (v2.heap.size) [.int .i64 t1.id, .int .i64 t1.st, .int .i64 t1.snap, .int .i64 t1.cs, .slice ra1 t1.rs.length rc1, .slice wa1 t1.ws.length wc1, .bool t1.out, .string t1.nm]) := B13.out.below (belowRefl v3).drew
  clear R13 HB3 D3 OR13 OW13 B13
  have hd6 : v3.heap.size ≤ v3.drew.heap.size := Nat.le_refl _
  clear hHeld
  generalize v3.drew = u1 at *
  refine (drList v0.heap.size len cap a _ D4.out.c).mono ?_
  rintro e u2 ⟨ys, a1, c1, hys, rfl, lo, d⟩
  have HYS := hide hys
  have hsu2 := d.size
  have R15 : Hid (Bx u2 (w.heap.size) [.int .i64 0, .int .i64 0, .int .i64 0, .int .i64 0, .slice none 0 0, .slice none 0 0, .bool false, .string ⟨#[]⟩]) := R14.out.keptD d (by omega)
  have HB5 : Hid (Below w.heap.size w u2) := d.out HB4.out (by omega) (by omega)
  have D5 : Hid (Dn v1 u2 (v0.heap.size) a len cap) := D4.out.step d
  have OR15 : Hid (Lies encR 92 u2 (v1.heap.size) (v2.heap.size) (.slice ra1 t1.rs.length rc1) (t1.rs)) := ⟨OR14.out.own.keptD d (by omega), OR14.out.up⟩
  have OW15 : Hid (Lies encW 96 u2 (v1.heap.size) (v2.heap.size) (.slice wa1 t1.ws.length wc1) (t1.ws)) := ⟨OW14.out.own.keptD d (by omega), OW14.out.up⟩
  have B15 : Hid (Bx u2 (v2.heap.size) [.int .i64 t1.id, .int .i64 t1.st, .int .i64 t1.snap, .int .i64 t1.cs, .slice ra1 t1.rs.length rc1, .slice wa1 t1.ws.length wc1, .bool t1.out, .string t1.nm]) := B14.out.keptD d (by omega)
  clear R14 HB4 D4 OR14 OW14 B14
  have LO5 : Hid (LOwn u2 (u1.heap.size) (.slice a1 ys.length c1) ys) := lo
  clear d hys lo
  go_wp2_with fail
  refine hK.out _ _ ⟨B15.out.c0, B15.out.c1, B15.out.c2, B15.out.c3, B15.out.c4, B15.out.c5, B15.out.c6, B15.out.c7⟩ (fun hHeld => ?_)
  clear hK K
  clear D5
  have q0_ := R15.out.c0
  have fq0 := R15.out.fz 0
  have q1_ := R15.out.c1
  have fq1 := R15.out.fz 1
  have q2_ := R15.out.c2
  have fq2 := R15.out.fz 2
  have q3_ := R15.out.c3
  have fq3 := R15.out.fz 3
  have q4_ := R15.out.c4
  have fq4 := R15.out.fz 4
  have q5_ := R15.out.c5
  have fq5 := R15.out.fz 5
  have q6_ := R15.out.c6
  have fq6 := R15.out.fz 6
  have q7_ := R15.out.c7
  have fq7 := R15.out.fz 7
  refine wpAnyH_ready (rs := [3]) (by kernel_rfl) (by simp) ?_
  refine AllReadyH.cons rfl (fun K hK => ?_) AllReadyH.nil
  go_simp
  clear q0_ fq0 q1_ fq1 q2_ fq2 q3_ fq3 q4_ fq4 q5_ fq5 q6_ fq6 q7_ fq7
  have R16 : Hid (Bx ((((((((u2.setCell ⟨w.heap.size, 0, none⟩ (.int .i64 t1.id)).setCell ⟨w.heap.size, 1, none⟩ (.int .i64 t1.st)).setCell ⟨w.heap.size, 2, none⟩ (.int .i64 t1.snap)).setCell ⟨w.heap.size, 3, none⟩ (.int .i64 t1.cs)).setCell ⟨w.heap.size, 4, none⟩ (.slice ra1 t1.rs.length rc1)).setCell ⟨w.heap.size, 5, none⟩ (.slice wa1 t1.ws.length wc1)).setCell ⟨w.heap.size, 6, none⟩ (.bool t1.out)).setCell ⟨w.heap.size, 7, none⟩ (.string t1.nm)) (w.heap.size) [.int .i64 t1.id, .int .i64 t1.st, .int .i64 t1.snap, .int .i64 t1.cs, .slice ra1 t1.rs.length rc1, .slice wa1 t1.ws.length wc1, .bool t1.out, .string t1.nm]) := R15.out.s8P (.int .i64 t1.id) (.int .i64 t1.st) (.int .i64 t1.snap) (.int .i64 t1.cs) (.slice ra1 t1.rs.length rc1) (.slice wa1 t1.ws.length wc1) (.bool t1.out) (.string t1.nm)
  have HB6 : Hid (Below w.heap.size w ((((((((u2.setCell ⟨w.heap.size, 0, none⟩ (.int .i64 t1.id)).setCell ⟨w.heap.size, 1, none⟩ (.int .i64 t1.st)).setCell ⟨w.heap.size, 2, none⟩ (.int .i64 t1.snap)).setCell ⟨w.heap.size, 3, none⟩ (.int .i64 t1.cs)).setCell ⟨w.heap.size, 4, none⟩ (.slice ra1 t1.rs.length rc1)).setCell ⟨w.heap.size, 5, none⟩ (.slice wa1 t1.ws.length wc1)).setCell ⟨w.heap.size, 6, none⟩ (.bool t1.out)).setCell ⟨w.heap.size, 7, none⟩ (.string t1.nm))) := below_s8P HB5.out (ob := w.heap.size) (by omega) (.int .i64 t1.id) (.int .i64 t1.st) (.int .i64 t1.snap) (.int .i64 t1.cs) (.slice ra1 t1.rs.length rc1) (.slice wa1 t1.ws.length wc1) (.bool t1.out) (.string t1.nm)
  have OR16 : Hid (Lies encR 92 ((((((((u2.setCell ⟨w.heap.size, 0, none⟩ (.int .i64 t1.id)).setCell ⟨w.heap.size, 1, none⟩ (.int .i64 t1.st)).setCell ⟨w.heap.size, 2, none⟩ (.int .i64 t1.snap)).setCell ⟨w.heap.size, 3, none⟩ (.int .i64 t1.cs)).setCell ⟨w.heap.size, 4, none⟩ (.slice ra1 t1.rs.length rc1)).setCell ⟨w.heap.size, 5, none⟩ (.slice wa1 t1.ws.length wc1)).setCell ⟨w.heap.size, 6, none⟩ (.bool t1.out)).setCell ⟨w.heap.size, 7, none⟩ (.string t1.nm)) (v1.heap.size) (v2.heap.size) (.slice ra1 t1.rs.length rc1) (t1.rs)) := ⟨own_s8P OR15.out.own (ob := w.heap.size) (by omega) (.int .i64 t1.id) (.int .i64 t1.st) (.int .i64 t1.snap) (.int .i64 t1.cs) (.slice ra1 t1.rs.length rc1) (.slice wa1 t1.ws.length wc1) (.bool t1.out) (.string t1.nm), OR15.out.up⟩
  have OW16 : Hid (Lies encW 96 ((((((((u2.setCell ⟨w.heap.size, 0, none⟩ (.int .i64 t1.id)).setCell ⟨w.heap.size, 1, none⟩ (.int .i64 t1.st)).setCell ⟨w.heap.size, 2, none⟩ (.int .i64 t1.snap)).setCell ⟨w.heap.size, 3, none⟩ (.int .i64 t1.cs)).setCell ⟨w.heap.size, 4, none⟩ (.slice ra1 t1.rs.length rc1)).setCell ⟨w.heap.size, 5, none⟩ (.slice wa1 t1.ws.length wc1)).setCell ⟨w.heap.size, 6, none⟩ (.bool t1.out)).setCell ⟨w.heap.size, 7, none⟩ (.string t1.nm)) (v1.heap.size) (v2.heap.size) (.slice wa1 t1.ws.length wc1) (t1.ws)) := ⟨own_s8P OW15.out.own (ob := w.heap.size) (by omega) (.int .i64 t1.id) (.int .i64 t1.st) (.int .i64 t1.snap) (.int .i64 t1.cs) (.slice ra1 t1.rs.length rc1) (.slice wa1 t1.ws.length wc1) (.bool t1.out) (.string t1.nm), OW15.out.up⟩
  have B16 : Hid (Bx ((((((((u2.setCell ⟨w.heap.size, 0, none⟩ (.int .i64 t1.id)).setCell ⟨w.heap.size, 1, none⟩ (.int .i64 t1.st)).setCell ⟨w.heap.size, 2, none⟩ (.int .i64 t1.snap)).setCell ⟨w.heap.size, 3, none⟩ (.int .i64 t1.cs)).setCell ⟨w.heap.size, 4, none⟩ (.slice ra1 t1.rs.length rc1)).setCell ⟨w.heap.size, 5, none⟩ (.slice wa1 t1.ws.length wc1)).setCell ⟨w.heap.size, 6, none⟩ (.bool t1.out)).setCell ⟨w.heap.size, 7, none⟩ (.string t1.nm)) (v2.heap.size) [.int .i64 t1.id, .int .i64 t1.st, .int .i64 t1.snap, .int .i64 t1.cs, .slice ra1 t1.rs.length rc1, .slice wa1 t1.ws.length wc1, .bool t1.out, .string t1.nm]) := B15.out.o8P (ob := w.heap.size) (by omega) (.int .i64 t1.id) (.int .i64 t1.st) (.int .i64 t1.snap) (.int .i64 t1.cs) (.slice ra1 t1.rs.length rc1) (.slice wa1 t1.ws.length wc1) (.bool t1.out) (.string t1.nm)
  have LO6 : Hid (LOwn ((((((((u2.setCell ⟨w.heap.size, 0, none⟩ (.int .i64 t1.id)).setCell ⟨w.heap.size, 1, none⟩ (.int .i64 t1.st)).setCell ⟨w.heap.size, 2, none⟩ (.int .i64 t1.snap)).setCell ⟨w.heap.size, 3, none⟩ (.int .i64 t1.cs)).setCell ⟨w.heap.size, 4, none⟩ (.slice ra1 t1.rs.length rc1)).setCell ⟨w.heap.size, 5, none⟩ (.slice wa1 t1.ws.length wc1)).setCell ⟨w.heap.size, 6, none⟩ (.bool t1.out)).setCell ⟨w.heap.size, 7, none⟩ (.string t1.nm)) (u1.heap.size) (.slice a1 ys.length c1) ys) := LO5.out.s8P (ob := w.heap.size) (by omega) (.int .i64 t1.id) (.int .i64 t1.st) (.int .i64 t1.snap) (.int .i64 t1.cs) (.slice ra1 t1.rs.length rc1) (.slice wa1 t1.ws.length wc1) (.bool t1.out) (.string t1.nm)
  clear R15 HB5 OR15 OW15 B15 LO5
  generalize ((((((((u2.setCell ⟨w.heap.size, 0, none⟩ (.int .i64 t1.id)).setCell ⟨w.heap.size, 1, none⟩ (.int .i64 t1.st)).setCell ⟨w.heap.size, 2, none⟩ (.int .i64 t1.snap)).setCell ⟨w.heap.size, 3, none⟩ (.int .i64 t1.cs)).setCell ⟨w.heap.size, 4, none⟩ (.slice ra1 t1.rs.length rc1)).setCell ⟨w.heap.size, 5, none⟩ (.slice wa1 t1.ws.length wc1)).setCell ⟨w.heap.size, 6, none⟩ (.bool t1.out)).setCell ⟨w.heap.size, 7, none⟩ (.string t1.nm)) = u3 at *
  (try go_wp2_with fail)
  refine hK.out _ _ ⟨B16.out.c0, B16.out.c1, B16.out.c2, B16.out.c3, B16.out.c4, B16.out.c5, B16.out.c6, B16.out.c7⟩ (fun hHeld => ?_)
  clear hK K
  (refine wpAnyH_take (i := 4) (v := ?_) rfl (by kernel_rfl) (by kernel_rfl) (by kernel_rfl) (fun _ _ _ h => h) (Or.inl ⟨by rfl, ?_⟩) (by assumption) ?_; rotate_left; (focus (intro w hSw; (try dsimp only at hSw); go_simp; (try with_reducible rfl); done)); simp only [Act.put, List.getElem_toArray, List.getElem_cons_zero, List.getElem_cons_succ, List.setIfInBounds_toArray, List.set_cons_zero, List.set_cons_succ])
  refine wpAnyH_done (by kernel_rfl) ?_ _
  go_wp2
  have q0_ := R16.out.c0
  have fq0 := R16.out.fz 0
  have q1_ := R16.out.c1
  have fq1 := R16.out.fz 1
  have q2_ := R16.out.c2
  have fq2 := R16.out.fz 2
  have q3_ := R16.out.c3
  have fq3 := R16.out.fz 3
  have q4_ := R16.out.c4
  have fq4 := R16.out.fz 4
  have q5_ := R16.out.c5
  have fq5 := R16.out.fz 5
  have q6_ := R16.out.c6
  have fq6 := R16.out.fz 6
  have q7_ := R16.out.c7
  have fq7 := R16.out.fz 7
  refine bodyPost_ret (v := .tuple #[.agg #[.int .i64 t1.id, .int .i64 t1.st, .int .i64 t1.snap, .int .i64 t1.cs, .slice ra1 t1.rs.length rc1, .slice wa1 t1.ws.length wc1, .bool t1.out, .string t1.nm], .slice a1 ys.length c1]) (by simp [results, Try.results48, go_sem, q0_, q1_, q2_, q3_, q4_, q5_, q6_, q7_]) rfl ⟨⟨t1, ra1, rc1, wa1, wc1⟩, ys, a1, c1, HT1.out, HYS.out, rfl, ⟨OR16.out.own.mono (by omega), OW16.out.own.mono (by omega)⟩, LO6.out.mono (by omega), HB6.out⟩

set_option maxRecDepth 100000 in
set_option maxHeartbeats 4000000 in
theorem dDanger (len cap : Nat) (a : Option Addr) (hl : len ≤ 1048576) (w : World) (hr : CodeRow w a len) :
    Calls Try.prog 13 #[.slice a len cap] w fun e w' => ∃ (x : Ta) (ys : List Ta) (a1 : Option Addr) (c1 : Nat), TxA x.t ∧ LsD ys ∧ e = .returned (.tuple #[.agg #[.int .i64 x.t.id, .int .i64 x.t.st, .int .i64 x.t.snap, .int .i64 x.t.cs, .slice x.ra x.t.rs.length x.rc, .slice x.wa x.t.ws.length x.wc, .bool x.t.out, .string x.t.nm], .slice a1 ys.length c1]) ∧ TOwn w' w.heap.size x ∧ LOwn w' w.heap.size (.slice a1 ys.length c1) ys ∧ Below w.heap.size w w' := by
  have R10 : Hid (Bx (w.alloc (.cells #[.int .i64 0, .int .i64 0, .int .i64 0, .int .i64 0, .slice none 0 0, .slice none 0 0, .bool false, .string ⟨#[]⟩] 27)) (w.heap.size) [.int .i64 0, .int .i64 0, .int .i64 0, .int .i64 0, .slice none 0 0, .slice none 0 0, .bool false, .string ⟨#[]⟩]) := Bx.new w [.int .i64 0, .int .i64 0, .int .i64 0, .int .i64 0, .slice none 0 0, .slice none 0 0, .bool false, .string ⟨#[]⟩] 27
  have HB0 : Hid (Below w.heap.size w (w.alloc (.cells #[.int .i64 0, .int .i64 0, .int .i64 0, .int .i64 0, .slice none 0 0, .slice none 0 0, .bool false, .string ⟨#[]⟩] 27))) := (belowRefl w).alloc (Nat.le_refl _) _
  have HR : Hid (CodeRow (w.alloc (.cells #[.int .i64 0, .int .i64 0, .int .i64 0, .int .i64 0, .slice none 0 0, .slice none 0 0, .bool false, .string ⟨#[]⟩] 27)) a len) := hr.below HB0.out
  have hz0 : w.heap.size < (w.alloc (.cells #[.int .i64 0, .int .i64 0, .int .i64 0, .int .i64 0, .slice none 0 0, .slice none 0 0, .bool false, .string ⟨#[]⟩] 27)).heap.size := by simp
  clear hr
  go_enter Try.func13, Try.ntmps13
  go_wp2_with fail
  generalize (w.alloc (.cells #[.int .i64 0, .int .i64 0, .int .i64 0, .int .i64 0, .slice none 0 0, .slice none 0 0, .bool false, .string ⟨#[]⟩] 27)) = v0 at *
  refine (dSome len cap a hl _ HR.out).mono ?_
  rintro e v1 ⟨x, ys, a1, c1, hx, hys, rfl, tx, lo, hb⟩
  have HX := hide hx
  have HYS := hide hys
  have R11 : Hid (Bx v1 (w.heap.size) [.int .i64 0, .int .i64 0, .int .i64 0, .int .i64 0, .slice none 0 0, .slice none 0 0, .bool false, .string ⟨#[]⟩]) := R10.out.below hb
  have HB1 : Hid (Below w.heap.size w v1) := HB0.out.trans (hb.mono HB0.out.size)
  clear R10 HB0
  have TX1 : Hid (TOwn v1 (v0.heap.size) x) := tx
  have LO1 : Hid (LOwn v1 (v0.heap.size) (.slice a1 ys.length c1) ys) := lo
  have hs1 := hb.size
  clear hb hx hys tx lo
  have q0_ := R11.out.c0
  have fq0 := R11.out.fz 0
  have q1_ := R11.out.c1
  have fq1 := R11.out.fz 1
  have q2_ := R11.out.c2
  have fq2 := R11.out.fz 2
  have q3_ := R11.out.c3
  have fq3 := R11.out.fz 3
  have q4_ := R11.out.c4
  have fq4 := R11.out.fz 4
  have q5_ := R11.out.c5
  have fq5 := R11.out.fz 5
  have q6_ := R11.out.c6
  have fq6 := R11.out.fz 6
  have q7_ := R11.out.c7
  have fq7 := R11.out.fz 7
  go_wp2
  clear q0_ fq0 q1_ fq1 q2_ fq2 q3_ fq3 q4_ fq4 q5_ fq5 q6_ fq6 q7_ fq7
  have R12 : Hid (Bx ((((((((v1.setCell ⟨w.heap.size, 0, none⟩ (.int .i64 x.t.id)).setCell ⟨w.heap.size, 1, none⟩ (.int .i64 x.t.st)).setCell ⟨w.heap.size, 2, none⟩ (.int .i64 x.t.snap)).setCell ⟨w.heap.size, 3, none⟩ (.int .i64 x.t.cs)).setCell ⟨w.heap.size, 4, none⟩ (.slice x.ra x.t.rs.length x.rc)).setCell ⟨w.heap.size, 5, none⟩ (.slice x.wa x.t.ws.length x.wc)).setCell ⟨w.heap.size, 6, none⟩ (.bool x.t.out)).setCell ⟨w.heap.size, 7, none⟩ (.string x.t.nm)) (w.heap.size) [.int .i64 x.t.id, .int .i64 x.t.st, .int .i64 x.t.snap, .int .i64 x.t.cs, .slice x.ra x.t.rs.length x.rc, .slice x.wa x.t.ws.length x.wc, .bool x.t.out, .string x.t.nm]) := R11.out.s8P (.int .i64 x.t.id) (.int .i64 x.t.st) (.int .i64 x.t.snap) (.int .i64 x.t.cs) (.slice x.ra x.t.rs.length x.rc) (.slice x.wa x.t.ws.length x.wc) (.bool x.t.out) (.string x.t.nm)
  have HB2 : Hid (Below w.heap.size w ((((((((v1.setCell ⟨w.heap.size, 0, none⟩ (.int .i64 x.t.id)).setCell ⟨w.heap.size, 1, none⟩ (.int .i64 x.t.st)).setCell ⟨w.heap.size, 2, none⟩ (.int .i64 x.t.snap)).setCell ⟨w.heap.size, 3, none⟩ (.int .i64 x.t.cs)).setCell ⟨w.heap.size, 4, none⟩ (.slice x.ra x.t.rs.length x.rc)).setCell ⟨w.heap.size, 5, none⟩ (.slice x.wa x.t.ws.length x.wc)).setCell ⟨w.heap.size, 6, none⟩ (.bool x.t.out)).setCell ⟨w.heap.size, 7, none⟩ (.string x.t.nm))) := below_s8P HB1.out (ob := w.heap.size) (by omega) (.int .i64 x.t.id) (.int .i64 x.t.st) (.int .i64 x.t.snap) (.int .i64 x.t.cs) (.slice x.ra x.t.rs.length x.rc) (.slice x.wa x.t.ws.length x.wc) (.bool x.t.out) (.string x.t.nm)
  have TX2 : Hid (TOwn ((((((((v1.setCell ⟨w.heap.size, 0, none⟩ (.int .i64 x.t.id)).setCell ⟨w.heap.size, 1, none⟩ (.int .i64 x.t.st)).setCell ⟨w.heap.size, 2, none⟩ (.int .i64 x.t.snap)).setCell ⟨w.heap.size, 3, none⟩ (.int .i64 x.t.cs)).setCell ⟨w.heap.size, 4, none⟩ (.slice x.ra x.t.rs.length x.rc)).setCell ⟨w.heap.size, 5, none⟩ (.slice x.wa x.t.ws.length x.wc)).setCell ⟨w.heap.size, 6, none⟩ (.bool x.t.out)).setCell ⟨w.heap.size, 7, none⟩ (.string x.t.nm)) (v0.heap.size) x) := ⟨own_s8P TX1.out.r (ob := w.heap.size) (by omega) (.int .i64 x.t.id) (.int .i64 x.t.st) (.int .i64 x.t.snap) (.int .i64 x.t.cs) (.slice x.ra x.t.rs.length x.rc) (.slice x.wa x.t.ws.length x.wc) (.bool x.t.out) (.string x.t.nm), own_s8P TX1.out.w (ob := w.heap.size) (by omega) (.int .i64 x.t.id) (.int .i64 x.t.st) (.int .i64 x.t.snap) (.int .i64 x.t.cs) (.slice x.ra x.t.rs.length x.rc) (.slice x.wa x.t.ws.length x.wc) (.bool x.t.out) (.string x.t.nm)⟩
  have LO2 : Hid (LOwn ((((((((v1.setCell ⟨w.heap.size, 0, none⟩ (.int .i64 x.t.id)).setCell ⟨w.heap.size, 1, none⟩ (.int .i64 x.t.st)).setCell ⟨w.heap.size, 2, none⟩ (.int .i64 x.t.snap)).setCell ⟨w.heap.size, 3, none⟩ (.int .i64 x.t.cs)).setCell ⟨w.heap.size, 4, none⟩ (.slice x.ra x.t.rs.length x.rc)).setCell ⟨w.heap.size, 5, none⟩ (.slice x.wa x.t.ws.length x.wc)).setCell ⟨w.heap.size, 6, none⟩ (.bool x.t.out)).setCell ⟨w.heap.size, 7, none⟩ (.string x.t.nm)) (v0.heap.size) (.slice a1 ys.length c1) ys) := LO1.out.s8P (ob := w.heap.size) (by omega) (.int .i64 x.t.id) (.int .i64 x.t.st) (.int .i64 x.t.snap) (.int .i64 x.t.cs) (.slice x.ra x.t.rs.length x.rc) (.slice x.wa x.t.ws.length x.wc) (.bool x.t.out) (.string x.t.nm)
  clear R11 HB1 TX1 LO1
  generalize ((((((((v1.setCell ⟨w.heap.size, 0, none⟩ (.int .i64 x.t.id)).setCell ⟨w.heap.size, 1, none⟩ (.int .i64 x.t.st)).setCell ⟨w.heap.size, 2, none⟩ (.int .i64 x.t.snap)).setCell ⟨w.heap.size, 3, none⟩ (.int .i64 x.t.cs)).setCell ⟨w.heap.size, 4, none⟩ (.slice x.ra x.t.rs.length x.rc)).setCell ⟨w.heap.size, 5, none⟩ (.slice x.wa x.t.ws.length x.wc)).setCell ⟨w.heap.size, 6, none⟩ (.bool x.t.out)).setCell ⟨w.heap.size, 7, none⟩ (.string x.t.nm)) = v2 at *
  have q0_ := R12.out.c0
  have fq0 := R12.out.fz 0
  have q1_ := R12.out.c1
  have fq1 := R12.out.fz 1
  have q2_ := R12.out.c2
  have fq2 := R12.out.fz 2
  have q3_ := R12.out.c3
  have fq3 := R12.out.fz 3
  have q4_ := R12.out.c4
  have fq4 := R12.out.fz 4
  have q5_ := R12.out.c5
  have fq5 := R12.out.fz 5
  have q6_ := R12.out.c6
  have fq6 := R12.out.fz 6
  have q7_ := R12.out.c7
  have fq7 := R12.out.fz 7
  refine bodyPost_ret (v := .tuple #[.agg #[.int .i64 x.t.id, .int .i64 x.t.st, .int .i64 x.t.snap, .int .i64 x.t.cs, .slice x.ra x.t.rs.length x.rc, .slice x.wa x.t.ws.length x.wc, .bool x.t.out, .string x.t.nm], .slice a1 ys.length c1]) (by simp [results, Try.results13, go_sem, q0_, q1_, q2_, q3_, q4_, q5_, q6_, q7_]) rfl ⟨x, ys, a1, c1, HX.out, HYS.out, rfl, TX2.out.mono (by omega), LO2.out.mono (by omega), HB2.out⟩

set_option maxRecDepth 100000 in
set_option maxHeartbeats 4000000 in
theorem dOthers (len cap : Nat) (a : Option Addr) (hl : len ≤ 1048576) (w : World) (hr : CodeRow w a len) :
    Calls Try.prog 10 #[.slice a len cap] w fun e w' => ∃ (x : Ta) (ys : List Ta) (a1 : Option Addr) (c1 : Nat), TxA x.t ∧ (x.t.id = 1 ∧ x.t.st = 1) ∧ LsD ys ∧ e = .returned (.tuple #[.agg #[.int .i64 x.t.id, .int .i64 x.t.st, .int .i64 x.t.snap, .int .i64 x.t.cs, .slice x.ra x.t.rs.length x.rc, .slice x.wa x.t.ws.length x.wc, .bool x.t.out, .string x.t.nm], .slice a1 ys.length c1]) ∧ TOwn w' w.heap.size x ∧ LOwn w' w.heap.size (.slice a1 ys.length c1) ys ∧ Below w.heap.size w w' := by
  have R10 : Hid (Bx (w.alloc (.cells #[.int .i64 0, .int .i64 0, .int .i64 0, .int .i64 0, .slice none 0 0, .slice none 0 0, .bool false, .string ⟨#[]⟩] 27)) (w.heap.size) [.int .i64 0, .int .i64 0, .int .i64 0, .int .i64 0, .slice none 0 0, .slice none 0 0, .bool false, .string ⟨#[]⟩]) := Bx.new w [.int .i64 0, .int .i64 0, .int .i64 0, .int .i64 0, .slice none 0 0, .slice none 0 0, .bool false, .string ⟨#[]⟩] 27
  have HB0 : Hid (Below w.heap.size w (w.alloc (.cells #[.int .i64 0, .int .i64 0, .int .i64 0, .int .i64 0, .slice none 0 0, .slice none 0 0, .bool false, .string ⟨#[]⟩] 27))) := (belowRefl w).alloc (Nat.le_refl _) _
  have HR : Hid (CodeRow (w.alloc (.cells #[.int .i64 0, .int .i64 0, .int .i64 0, .int .i64 0, .slice none 0 0, .slice none 0 0, .bool false, .string ⟨#[]⟩] 27)) a len) := hr.below HB0.out
  have hz0 : w.heap.size < (w.alloc (.cells #[.int .i64 0, .int .i64 0, .int .i64 0, .int .i64 0, .slice none 0 0, .slice none 0 0, .bool false, .string ⟨#[]⟩] 27)).heap.size := by simp
  clear hr
  go_enter Try.func10, Try.ntmps10
  go_wp2_with fail
  generalize (w.alloc (.cells #[.int .i64 0, .int .i64 0, .int .i64 0, .int .i64 0, .slice none 0 0, .slice none 0 0, .bool false, .string ⟨#[]⟩] 27)) = v0 at *
  refine (drNew len cap a hl _ HR.out).mono ?_
  rintro e v1 ⟨rfl, hc, hb⟩
  have hz1 : v0.heap.size ≤ v1.heap.size := hb.size
  have hlc := hc.lt
  have R11 : Hid (Bx v1 (w.heap.size) [.int .i64 0, .int .i64 0, .int .i64 0, .int .i64 0, .slice none 0 0, .slice none 0 0, .bool false, .string ⟨#[]⟩]) := R10.out.below hb
  have HB1 : Hid (Below w.heap.size w v1) := HB0.out.trans (hb.mono HB0.out.size)
  clear R10 HB0
  have D1 : Hid (Dn v1 v1 (v0.heap.size) a len cap) := Dn.start hc
  clear hb hc HR
  go_wp2_with fail
  refine (drRanges v0.heap.size len cap a _ D1.out.c).mono ?_
  rintro e v2 ⟨rs, ra, rc, hrs, hrl, rfl, ho, d⟩
  have HRS := hide hrs
  have hsv2 := d.size
  have R12 : Hid (Bx v2 (w.heap.size) [.int .i64 0, .int .i64 0, .int .i64 0, .int .i64 0, .slice none 0 0, .slice none 0 0, .bool false, .string ⟨#[]⟩]) := R11.out.keptD d (by omega)
  have HB2 : Hid (Below w.heap.size w v2) := d.out HB1.out (by omega) (by omega)
  have D2 : Hid (Dn v1 v2 (v0.heap.size) a len cap) := D1.out.step d
  clear R11 HB1 D1
  have OR12 : Hid (Lies encR 92 v2 (v1.heap.size) (v2.heap.size) (.slice ra rs.length rc) (rs)) := Lies.of ho
  clear d ho hrs
  go_wp2_with fail
  refine (drWrites v0.heap.size len cap a _ D2.out.c).mono ?_
  rintro e v3 ⟨ws, wa, wc, hws, hwl, rfl, ho, d⟩
  have HWS := hide hws
  have hsv3 := d.size
  have R13 : Hid (Bx v3 (w.heap.size) [.int .i64 0, .int .i64 0, .int .i64 0, .int .i64 0, .slice none 0 0, .slice none 0 0, .bool false, .string ⟨#[]⟩]) := R12.out.keptD d (by omega)
  have HB3 : Hid (Below w.heap.size w v3) := d.out HB2.out (by omega) (by omega)
  have D3 : Hid (Dn v1 v3 (v0.heap.size) a len cap) := D2.out.step d
  have OR13 : Hid (Lies encR 92 v3 (v1.heap.size) (v2.heap.size) (.slice ra rs.length rc) (rs)) := ⟨OR12.out.own.keptD d (by omega), OR12.out.up⟩
  clear R12 HB2 D2 OR12
  have OW13 : Hid (Lies encW 96 v3 (v2.heap.size) (v3.heap.size) (.slice wa ws.length wc) (ws)) := Lies.of ho
  clear d ho hws
  go_wp2_with fail
  refine (drBelow v0.heap.size len cap a 4 (by omega) (by omega) _ D3.out.c).mono ?_
  rintro e v4 ⟨sn, hsn, rfl, d⟩
  have hsv4 := d.size
  have R14 : Hid (Bx v4 (w.heap.size) [.int .i64 0, .int .i64 0, .int .i64 0, .int .i64 0, .slice none 0 0, .slice none 0 0, .bool false, .string ⟨#[]⟩]) := R13.out.keptD d (by omega)
  have HB4 : Hid (Below w.heap.size w v4) := d.out HB3.out (by omega) (by omega)
  have D4 : Hid (Dn v1 v4 (v0.heap.size) a len cap) := D3.out.step d
  have OR14 : Hid (Lies encR 92 v4 (v1.heap.size) (v2.heap.size) (.slice ra rs.length rc) (rs)) := ⟨OR13.out.own.keptD d (by omega), OR13.out.up⟩
  have OW14 : Hid (Lies encW 96 v4 (v2.heap.size) (v3.heap.size) (.slice wa ws.length wc) (ws)) := ⟨OW13.out.own.keptD d (by omega), OW13.out.up⟩
  clear R13 HB3 D3 OR13 OW13
  clear d
  go_upto_region 5 with fail
  have hb : Below v4.heap.size v4 (v4.alloc (.cells #[.int .i64 1, .int .i64 1, .int .i64 (sn : Int), .int .i64 0, .slice ra rs.length rc, .slice wa ws.length wc, .bool false, .string ⟨#[]⟩] 27)) := (belowRefl v4).alloc (Nat.le_refl _) _
  have R15 : Hid (Bx (v4.alloc (.cells #[.int .i64 1, .int .i64 1, .int .i64 (sn : Int), .int .i64 0, .slice ra rs.length rc, .slice wa ws.length wc, .bool false, .string ⟨#[]⟩] 27)) (w.heap.size) [.int .i64 0, .int .i64 0, .int .i64 0, .int .i64 0, .slice none 0 0, .slice none 0 0, .bool false, .string ⟨#[]⟩]) := R14.out.below hb
  have HB5 : Hid (Below w.heap.size w (v4.alloc (.cells #[.int .i64 1, .int .i64 1, .int .i64 (sn : Int), .int .i64 0, .slice ra rs.length rc, .slice wa ws.length wc, .bool false, .string ⟨#[]⟩] 27))) := HB4.out.trans (hb.mono HB4.out.size)
  have D5 : Hid (Dn v1 (v4.alloc (.cells #[.int .i64 1, .int .i64 1, .int .i64 (sn : Int), .int .i64 0, .slice ra rs.length rc, .slice wa ws.length wc, .bool false, .string ⟨#[]⟩] 27)) (v0.heap.size) a len cap) := D4.out.below hb
  have OR15 : Hid (Lies encR 92 (v4.alloc (.cells #[.int .i64 1, .int .i64 1, .int .i64 (sn : Int), .int .i64 0, .slice ra rs.length rc, .slice wa ws.length wc, .bool false, .string ⟨#[]⟩] 27)) (v1.heap.size) (v2.heap.size) (.slice ra rs.length rc) (rs)) := OR14.out.below hb
  have OW15 : Hid (Lies encW 96 (v4.alloc (.cells #[.int .i64 1, .int .i64 1, .int .i64 (sn : Int), .int .i64 0, .slice ra rs.length rc, .slice wa ws.length wc, .bool false, .string ⟨#[]⟩] 27)) (v2.heap.size) (v3.heap.size) (.slice wa ws.length wc) (ws)) := OW14.out.below hb
  clear R14 HB4 D4 OR14 OW14
  have B15 : Hid (Bx (v4.alloc (.cells #[.int .i64 1, .int .i64 1, .int .i64 (sn : Int), .int .i64 0, .slice ra rs.length rc, .slice wa ws.length wc, .bool false, .string ⟨#[]⟩] 27)) (v4.heap.size) [.int .i64 1, .int .i64 1, .int .i64 (sn : Int), .int .i64 0, .slice ra rs.length rc, .slice wa ws.length wc, .bool false, .string ⟨#[]⟩]) := Bx.new v4 [.int .i64 1, .int .i64 1, .int .i64 (sn : Int), .int .i64 0, .slice ra rs.length rc, .slice wa ws.length wc, .bool false, .string ⟨#[]⟩] 27
  clear hb
  generalize (v4.alloc (.cells #[.int .i64 1, .int .i64 1, .int .i64 (sn : Int), .int .i64 0, .slice ra rs.length rc, .slice wa ws.length wc, .bool false, .string ⟨#[]⟩] 27)) = v5 at *
  have hlv5 : v4.heap.size < v5.heap.size := B15.out.lt
  refine wp_region_held_drew (S := fun w' => w'.cell? ⟨v4.heap.size, 0, none⟩ = some (.int .i64 1) ∧ w'.cell? ⟨v4.heap.size, 1, none⟩ = some (.int .i64 1) ∧ w'.cell? ⟨v4.heap.size, 2, none⟩ = some (.int .i64 (sn : Int)) ∧ w'.cell? ⟨v4.heap.size, 3, none⟩ = some (.int .i64 0) ∧ w'.cell? ⟨v4.heap.size, 4, none⟩ = some (.slice ra rs.length rc) ∧ w'.cell? ⟨v4.heap.size, 5, none⟩ = some (.slice wa ws.length wc) ∧ w'.cell? ⟨v4.heap.size, 6, none⟩ = some (.bool false) ∧ w'.cell? ⟨v4.heap.size, 7, none⟩ = some (.string ⟨#[]⟩)) (by kernel_rfl) ⟨B15.out.c0, B15.out.c1, B15.out.c2, B15.out.c3, B15.out.c4, B15.out.c5, B15.out.c6, B15.out.c7⟩ (fun hHeld => ?_)
  (refine wpAnyH_take (i := 0) (v := ?_) rfl (by kernel_rfl) (by kernel_rfl) (by kernel_rfl) (fun _ _ _ h => h) (Or.inl ⟨by rfl, ?_⟩) (by assumption) ?_; rotate_left; (focus (intro w hSw; (try dsimp only at hSw); go_simp; (try with_reducible rfl); done)); simp only [Act.put, List.getElem_toArray, List.getElem_cons_zero, List.setIfInBounds_toArray, List.set_cons_zero, List.set_cons_succ])
  (refine wpAnyH_take (i := 1) (v := ?_) rfl (by kernel_rfl) (by kernel_rfl) (by kernel_rfl) (fun _ _ _ h => h) (Or.inl ⟨by rfl, ?_⟩) (by assumption) ?_; rotate_left; (focus (intro w hSw; (try dsimp only at hSw); go_simp; (try with_reducible rfl); done)); simp only [Act.put, List.getElem_toArray, List.getElem_cons_zero, List.getElem_cons_succ, List.setIfInBounds_toArray, List.set_cons_zero, List.set_cons_succ])
  refine wpAnyH_ready (rs := [2]) (by kernel_rfl) (by simp) ?_
  refine AllReadyH.cons rfl (fun K hK => ?_) AllReadyH.nil
  go_simp
  go_wp2_with fail
  have R16 : Hid (Bx v5.drew (w.heap.size) [.int .i64 0, .int .i64 0, .int .i64 0, .int .i64 0, .slice none 0 0, .slice none 0 0, .bool false, .string ⟨#[]⟩]) := R15.out.below (belowRefl v5).drew
  have HB6 : Hid (Below w.heap.size w v5.drew) := HB5.out.trans ((belowRefl v5).drew.mono HB5.out.size)
  have D6 : Hid (Dn v1 v5.drew (v0.heap.size) a len cap) := D5.out.below (belowRefl v5).drew
  have OR16 : Hid (Lies encR 92 v5.drew (v1.heap.size) (v2.heap.size) (.slice ra rs.length rc) (rs)) := OR15.out.below (belowRefl v5).drew
  have OW16 : Hid (Lies encW 96 v5.drew (v2.heap.size) (v3.heap.size) (.slice wa ws.length wc) (ws)) := OW15.out.below (belowRefl v5).drew
  have B16 : Hid (Bx v5.drew (v4.heap.size) [.int .i64 1, .int .i64 1, .int .i64 (sn : Int), .int .i64 0, .slice ra rs.length rc, .slice wa ws.length wc, .bool false, .string ⟨#[]⟩]) := B15.out.below (belowRefl v5).drew
  clear R15 HB5 D5 OR15 OW15 B15
  have hd6 : v5.heap.size ≤ v5.drew.heap.size := Nat.le_refl _
  clear hHeld
  generalize v5.drew = u1 at *
  refine (drList v0.heap.size len cap a _ D6.out.c).mono ?_
  rintro e u2 ⟨ys, a1, c1, hys, rfl, lo, d⟩
  have HYS := hide hys
  have hsu2 := d.size
  have R17 : Hid (Bx u2 (w.heap.size) [.int .i64 0, .int .i64 0, .int .i64 0, .int .i64 0, .slice none 0 0, .slice none 0 0, .bool false, .string ⟨#[]⟩]) := R16.out.keptD d (by omega)
  have HB7 : Hid (Below w.heap.size w u2) := d.out HB6.out (by omega) (by omega)
  have D7 : Hid (Dn v1 u2 (v0.heap.size) a len cap) := D6.out.step d
  have OR17 : Hid (Lies encR 92 u2 (v1.heap.size) (v2.heap.size) (.slice ra rs.length rc) (rs)) := ⟨OR16.out.own.keptD d (by omega), OR16.out.up⟩
  have OW17 : Hid (Lies encW 96 u2 (v2.heap.size) (v3.heap.size) (.slice wa ws.length wc) (ws)) := ⟨OW16.out.own.keptD d (by omega), OW16.out.up⟩
  have B17 : Hid (Bx u2 (v4.heap.size) [.int .i64 1, .int .i64 1, .int .i64 (sn : Int), .int .i64 0, .slice ra rs.length rc, .slice wa ws.length wc, .bool false, .string ⟨#[]⟩]) := B16.out.keptD d (by omega)
  clear R16 HB6 D6 OR16 OW16 B16
  have LO7 : Hid (LOwn u2 (u1.heap.size) (.slice a1 ys.length c1) ys) := lo
  clear d hys lo
  go_wp2_with fail
  refine hK.out _ _ ⟨B17.out.c0, B17.out.c1, B17.out.c2, B17.out.c3, B17.out.c4, B17.out.c5, B17.out.c6, B17.out.c7⟩ (fun hHeld => ?_)
  clear hK K
  clear D7
  have q0_ := R17.out.c0
  have fq0 := R17.out.fz 0
  have q1_ := R17.out.c1
  have fq1 := R17.out.fz 1
  have q2_ := R17.out.c2
  have fq2 := R17.out.fz 2
  have q3_ := R17.out.c3
  have fq3 := R17.out.fz 3
  have q4_ := R17.out.c4
  have fq4 := R17.out.fz 4
  have q5_ := R17.out.c5
  have fq5 := R17.out.fz 5
  have q6_ := R17.out.c6
  have fq6 := R17.out.fz 6
  have q7_ := R17.out.c7
  have fq7 := R17.out.fz 7
  refine wpAnyH_ready (rs := [3]) (by kernel_rfl) (by simp) ?_
  refine AllReadyH.cons rfl (fun K hK => ?_) AllReadyH.nil
  go_simp
  clear q0_ fq0 q1_ fq1 q2_ fq2 q3_ fq3 q4_ fq4 q5_ fq5 q6_ fq6 q7_ fq7
  have R18 : Hid (Bx ((((((((u2.setCell ⟨w.heap.size, 0, none⟩ (.int .i64 1)).setCell ⟨w.heap.size, 1, none⟩ (.int .i64 1)).setCell ⟨w.heap.size, 2, none⟩ (.int .i64 (sn : Int))).setCell ⟨w.heap.size, 3, none⟩ (.int .i64 0)).setCell ⟨w.heap.size, 4, none⟩ (.slice ra rs.length rc)).setCell ⟨w.heap.size, 5, none⟩ (.slice wa ws.length wc)).setCell ⟨w.heap.size, 6, none⟩ (.bool false)).setCell ⟨w.heap.size, 7, none⟩ (.string ⟨#[]⟩)) (w.heap.size) [.int .i64 1, .int .i64 1, .int .i64 (sn : Int), .int .i64 0, .slice ra rs.length rc, .slice wa ws.length wc, .bool false, .string ⟨#[]⟩]) := R17.out.s8P (.int .i64 1) (.int .i64 1) (.int .i64 (sn : Int)) (.int .i64 0) (.slice ra rs.length rc) (.slice wa ws.length wc) (.bool false) (.string ⟨#[]⟩)
  have HB8 : Hid (Below w.heap.size w ((((((((u2.setCell ⟨w.heap.size, 0, none⟩ (.int .i64 1)).setCell ⟨w.heap.size, 1, none⟩ (.int .i64 1)).setCell ⟨w.heap.size, 2, none⟩ (.int .i64 (sn : Int))).setCell ⟨w.heap.size, 3, none⟩ (.int .i64 0)).setCell ⟨w.heap.size, 4, none⟩ (.slice ra rs.length rc)).setCell ⟨w.heap.size, 5, none⟩ (.slice wa ws.length wc)).setCell ⟨w.heap.size, 6, none⟩ (.bool false)).setCell ⟨w.heap.size, 7, none⟩ (.string ⟨#[]⟩))) := below_s8P HB7.out (ob := w.heap.size) (by omega) (.int .i64 1) (.int .i64 1) (.int .i64 (sn : Int)) (.int .i64 0) (.slice ra rs.length rc) (.slice wa ws.length wc) (.bool false) (.string ⟨#[]⟩)
  have OR18 : Hid (Lies encR 92 ((((((((u2.setCell ⟨w.heap.size, 0, none⟩ (.int .i64 1)).setCell ⟨w.heap.size, 1, none⟩ (.int .i64 1)).setCell ⟨w.heap.size, 2, none⟩ (.int .i64 (sn : Int))).setCell ⟨w.heap.size, 3, none⟩ (.int .i64 0)).setCell ⟨w.heap.size, 4, none⟩ (.slice ra rs.length rc)).setCell ⟨w.heap.size, 5, none⟩ (.slice wa ws.length wc)).setCell ⟨w.heap.size, 6, none⟩ (.bool false)).setCell ⟨w.heap.size, 7, none⟩ (.string ⟨#[]⟩)) (v1.heap.size) (v2.heap.size) (.slice ra rs.length rc) (rs)) := ⟨own_s8P OR17.out.own (ob := w.heap.size) (by omega) (.int .i64 1) (.int .i64 1) (.int .i64 (sn : Int)) (.int .i64 0) (.slice ra rs.length rc) (.slice wa ws.length wc) (.bool false) (.string ⟨#[]⟩), OR17.out.up⟩
  have OW18 : Hid (Lies encW 96 ((((((((u2.setCell ⟨w.heap.size, 0, none⟩ (.int .i64 1)).setCell ⟨w.heap.size, 1, none⟩ (.int .i64 1)).setCell ⟨w.heap.size, 2, none⟩ (.int .i64 (sn : Int))).setCell ⟨w.heap.size, 3, none⟩ (.int .i64 0)).setCell ⟨w.heap.size, 4, none⟩ (.slice ra rs.length rc)).setCell ⟨w.heap.size, 5, none⟩ (.slice wa ws.length wc)).setCell ⟨w.heap.size, 6, none⟩ (.bool false)).setCell ⟨w.heap.size, 7, none⟩ (.string ⟨#[]⟩)) (v2.heap.size) (v3.heap.size) (.slice wa ws.length wc) (ws)) := ⟨own_s8P OW17.out.own (ob := w.heap.size) (by omega) (.int .i64 1) (.int .i64 1) (.int .i64 (sn : Int)) (.int .i64 0) (.slice ra rs.length rc) (.slice wa ws.length wc) (.bool false) (.string ⟨#[]⟩), OW17.out.up⟩
  have B18 : Hid (Bx ((((((((u2.setCell ⟨w.heap.size, 0, none⟩ (.int .i64 1)).setCell ⟨w.heap.size, 1, none⟩ (.int .i64 1)).setCell ⟨w.heap.size, 2, none⟩ (.int .i64 (sn : Int))).setCell ⟨w.heap.size, 3, none⟩ (.int .i64 0)).setCell ⟨w.heap.size, 4, none⟩ (.slice ra rs.length rc)).setCell ⟨w.heap.size, 5, none⟩ (.slice wa ws.length wc)).setCell ⟨w.heap.size, 6, none⟩ (.bool false)).setCell ⟨w.heap.size, 7, none⟩ (.string ⟨#[]⟩)) (v4.heap.size) [.int .i64 1, .int .i64 1, .int .i64 (sn : Int), .int .i64 0, .slice ra rs.length rc, .slice wa ws.length wc, .bool false, .string ⟨#[]⟩]) := B17.out.o8P (ob := w.heap.size) (by omega) (.int .i64 1) (.int .i64 1) (.int .i64 (sn : Int)) (.int .i64 0) (.slice ra rs.length rc) (.slice wa ws.length wc) (.bool false) (.string ⟨#[]⟩)
  have LO8 : Hid (LOwn ((((((((u2.setCell ⟨w.heap.size, 0, none⟩ (.int .i64 1)).setCell ⟨w.heap.size, 1, none⟩ (.int .i64 1)).setCell ⟨w.heap.size, 2, none⟩ (.int .i64 (sn : Int))).setCell ⟨w.heap.size, 3, none⟩ (.int .i64 0)).setCell ⟨w.heap.size, 4, none⟩ (.slice ra rs.length rc)).setCell ⟨w.heap.size, 5, none⟩ (.slice wa ws.length wc)).setCell ⟨w.heap.size, 6, none⟩ (.bool false)).setCell ⟨w.heap.size, 7, none⟩ (.string ⟨#[]⟩)) (u1.heap.size) (.slice a1 ys.length c1) ys) := LO7.out.s8P (ob := w.heap.size) (by omega) (.int .i64 1) (.int .i64 1) (.int .i64 (sn : Int)) (.int .i64 0) (.slice ra rs.length rc) (.slice wa ws.length wc) (.bool false) (.string ⟨#[]⟩)
  clear R17 HB7 OR17 OW17 B17 LO7
  generalize ((((((((u2.setCell ⟨w.heap.size, 0, none⟩ (.int .i64 1)).setCell ⟨w.heap.size, 1, none⟩ (.int .i64 1)).setCell ⟨w.heap.size, 2, none⟩ (.int .i64 (sn : Int))).setCell ⟨w.heap.size, 3, none⟩ (.int .i64 0)).setCell ⟨w.heap.size, 4, none⟩ (.slice ra rs.length rc)).setCell ⟨w.heap.size, 5, none⟩ (.slice wa ws.length wc)).setCell ⟨w.heap.size, 6, none⟩ (.bool false)).setCell ⟨w.heap.size, 7, none⟩ (.string ⟨#[]⟩)) = u3 at *
  (try go_wp2_with fail)
  refine hK.out _ _ ⟨B18.out.c0, B18.out.c1, B18.out.c2, B18.out.c3, B18.out.c4, B18.out.c5, B18.out.c6, B18.out.c7⟩ (fun hHeld => ?_)
  clear hK K
  (refine wpAnyH_take (i := 4) (v := ?_) rfl (by kernel_rfl) (by kernel_rfl) (by kernel_rfl) (fun _ _ _ h => h) (Or.inl ⟨by rfl, ?_⟩) (by assumption) ?_; rotate_left; (focus (intro w hSw; (try dsimp only at hSw); go_simp; (try with_reducible rfl); done)); simp only [Act.put, List.getElem_toArray, List.getElem_cons_zero, List.getElem_cons_succ, List.setIfInBounds_toArray, List.set_cons_zero, List.set_cons_succ])
  refine wpAnyH_done (by kernel_rfl) ?_ _
  go_wp2
  have q0_ := R18.out.c0
  have fq0 := R18.out.fz 0
  have q1_ := R18.out.c1
  have fq1 := R18.out.fz 1
  have q2_ := R18.out.c2
  have fq2 := R18.out.fz 2
  have q3_ := R18.out.c3
  have fq3 := R18.out.fz 3
  have q4_ := R18.out.c4
  have fq4 := R18.out.fz 4
  have q5_ := R18.out.c5
  have fq5 := R18.out.fz 5
  have q6_ := R18.out.c6
  have fq6 := R18.out.fz 6
  have q7_ := R18.out.c7
  have fq7 := R18.out.fz 7
  refine bodyPost_ret (v := .tuple #[.agg #[.int .i64 1, .int .i64 1, .int .i64 (sn : Int), .int .i64 0, .slice ra rs.length rc, .slice wa ws.length wc, .bool false, .string ⟨#[]⟩], .slice a1 ys.length c1]) (by simp [results, Try.results10, go_sem, q0_, q1_, q2_, q3_, q4_, q5_, q6_, q7_]) rfl ⟨⟨⟨1, 1, (sn : Int), 0, rs, ws, false, ⟨#[]⟩⟩, ra, rc, wa, wc⟩, ys, a1, c1, ⟨⟨by show rs.length ≤ _; omega, HRS.out.fit, by show ws.length ≤ _; omega, HWS.out.fit, by show (⟨#[]⟩ : ByteArray).size ≤ 1048576; decide⟩, by show rs.length ≤ 4; omega, by show ws.length ≤ 4; omega⟩, ⟨rfl, rfl⟩, HYS.out, rfl, ⟨OR18.out.own.mono (by omega), OW18.out.own.mono (by omega)⟩, LO8.out.mono (by omega), HB8.out⟩


end Go.Proofs.Ytnefncmkhgkdnaa

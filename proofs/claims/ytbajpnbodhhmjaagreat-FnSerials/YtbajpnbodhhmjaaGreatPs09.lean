/- Those that were let through, drawn. -/
import Derived.Test.YtbajpnbodhhmjaaGreatPs07
import Derived.Test.YtbajpnbodhhmjaaGreatPs08
import Derived.Test.YtbajpnbodhhmjaaGreatProg
import Derived.WalkKit
import Derived.Test.YtbajpnbodhhmjaaGreatPs01
import Derived.WalkSpells
import Derived.WalkLawsBesides
import Derived.Deep.QuietTactic
import Derived.BigQuiet
import Derived.Deep.RegionHeld3
import Derived.Deep.DrawnRows
import Derived.Deep.AppendLies
import Derived.Lib.SmallJoins
import Derived.Deep.Strs
import Derived.ProofKit
import Derived.OpenShut
import Derived.ShutString
import Derived.ChangeOld
import Derived.Test.YtbajpnbodhhmjaaGreatPs03
import Derived.Deep.RegionHeld
import Derived.Test.YtbajpnbodhhmjaaGreatPs02
namespace Go.Proofs.YtbajpnbodhhmjaaGreat
open Go.RowKit
open KM
attribute [local go_sem ↓] Go.wp_at_zero Go.wp_at_succ

theorem tone {y : Ta} : ∀ u ∈ encT.enc y, u.oneCell' = true := by
 intro u hu
 simp only [encT, List.mem_cons, List.not_mem_nil, or_false] at hu
 rcases hu with rfl | rfl | rfl | rfl | rfl | rfl | rfl | rfl <;> rfl
structure TOwn (w : World) (base : Nat) (x : Ta) : Prop where
 r : GOwn encR 35 w base (.slice x.ra x.t.rs.length x.rc) x.t.rs
 w : GOwn encW 55 w base (.slice x.wa x.t.ws.length x.wc) x.t.ws
theorem TOwn.row {w : World} {base : Nat} {x : Ta} (h : TOwn w base x) : TRow w x.t x.ra x.wa := ⟨h.r.grow, h.w.grow⟩
theorem TOwn.below {w w' : World} {base : Nat} {x : Ta} (h : TOwn w base x) (hb : Below w.heap.size w w') : TOwn w' base x := ⟨h.r.below hb, h.w.below hb⟩
theorem TOwn.mono {w : World} {base base' : Nat} {x : Ta} (h : TOwn w base x) (hb : base' ≤ base) : TOwn w base' x := ⟨h.r.mono hb, h.w.mono hb⟩
theorem own_apart {w : World} {b b' e e' s s' n n' : Nat} {v v' : Value} {xs xs' : List Value} (h : w.ownsRow b e s v n xs) (h' : w.ownsRow b' e' s' v' n' xs') (hne : e ≠ e') : ∀ g, v.ownBlock = some g → v'.ownBlock ≠ some g := by
 intro g hg hg'
 rcases h.2 with ⟨rfl, _⟩ | ⟨g1, cap, cur, rfl, _, hh, _⟩
 ·cases hg
 ·rcases h'.2 with ⟨rfl, _⟩ | ⟨g2, cap', cur', rfl, _, hh', _⟩
  ·cases hg'
  ·have e1 : g1 = g := by simpa [Value.ownBlock] using hg
   have e2 : g2 = g := by simpa [Value.ownBlock] using hg'
   rw [e1] at hh
   rw [e2, hh] at hh'
   cases hh'
   exact hne rfl
theorem own_grown {α : Type} {E : Enc α} {e : TypeId} {w w' : World} {base : Nat} {v : Value} {xs : List α} {row : Option Nat} (h : GOwn E e w base v xs) (hg : w.grownBy w' row) (hne : ∀ g, v.ownBlock = some g → row ≠ some g) : GOwn E e w' base v xs := by
 obtain ⟨h1, h2⟩ := h
 refine ⟨h1, ?_⟩
 rcases h2 with h2 | ⟨g, cap, cur, hv, hg', hh, r⟩
 ·exact Or.inl h2
 ·refine Or.inr ⟨g, cap, cur, hv, hg', ?_, r⟩
  have hlt : g < w.heap.size := (Array.getElem?_eq_some_iff.1 hh).1
  rw [hg.block g hlt (fun e => hne g (by rw [hv]; rfl) e.symm)]
  exact hh
theorem TOwn.grown {w w' : World} {base b : Nat} {x : Ta} {v : Value} {xs : List Ta} (h : TOwn w base x) (hv : GOwn encT 30 w b v xs) (hg : w.grownBy w' v.ownBlock) : TOwn w' base x :=
 ⟨own_grown h.r hg (own_apart h.r hv (by decide)), own_grown h.w hg (own_apart h.w hv (by decide))⟩
theorem TOwn.keptD {w w' : World} {base g len cap : Nat} {a : Option Addr} {x : Ta} (h : TOwn w base x) (d : Dn w w' g a len cap) (hlt : g < base) : TOwn w' base x := ⟨h.r.keptD d hlt, h.w.keptD d hlt⟩
structure DoneD (t : Tx) : Prop where
 st : t.st = 3
 rs : RsD t.rs
 rl : t.rs.length ≤ 3
 ws : WsD t.ws
 wl : t.ws.length ≤ 3
 nm : t.nm = ⟨#[]⟩
 s0 : 0 ≤ t.snap
 sc : t.snap < t.cs
theorem DoneD.fit {t : Tx} (h : DoneD t) : TFit t := ⟨Nat.le_trans h.rl (by omega), h.rs.fit, Nat.le_trans h.wl (by omega), h.ws.fit, by rw [h.nm]; exact Nat.zero_le _⟩
structure DonesD (ts : List Tx) (c : Nat) : Prop where
 each : ∀ t ∈ ts, DoneD t ∧ t.cs ≤ (c : Int)
 ids : ∀ i (h : i < ts.length), ts[i].id = 1 + (i : Int)
 asc : ts.Pairwise (fun a b => a.cs < b.cs)
theorem DonesD.nil : DonesD [] 0 := ⟨fun t h => (by cases h), fun i h => absurd h (Nat.not_lt_zero _), List.Pairwise.nil⟩
theorem DonesD.snoc {ts : List Tx} {c d : Nat} {t : Tx} (h : DonesD ts c) (hc : c < d) (ht : DoneD t) (hi : t.id = 1 + (ts.length : Int)) (hcs : t.cs = (d : Int)) : DonesD (ts ++ [t]) d := by
 refine ⟨fun y hy => ?_, fun i hi2 => ?_, ?_⟩
 ·rcases List.mem_append.1 hy with h1 | h1
  ·have := h.each y h1
   exact ⟨this.1, by omega⟩
  ·rw [List.mem_singleton.1 h1]; exact ⟨ht, by omega⟩
 ·by_cases hl : i < ts.length
  ·rw [List.getElem_append_left hl]; exact h.ids i hl
  ·rw [List.length_append, List.length_singleton] at hi2
   have e : i = ts.length := by omega
   subst e
   rw [List.getElem_append_right (Nat.le_refl _)]
   simpa using hi
 ·rw [List.pairwise_append]
  refine ⟨h.asc, List.pairwise_singleton _ _, fun a ha b hb => ?_⟩
  rw [List.mem_singleton.1 hb]
  have := (h.each a ha).2
  omega
theorem DonesD.fit {ts : List Tx} {c : Nat} (h : DonesD ts c) (hl : ts.length ≤ 5) : LFit ts := ⟨Nat.le_trans hl (by omega), fun t ht => (h.each t ht).1.fit⟩
structure LOwn (w : World) (base : Nat) (v : Value) (ys : List Ta) : Prop where
 row : GOwn encT 30 w base v ys
 each : ∀ y ∈ ys, TOwn w base y
theorem LOwn.below {w w' : World} {base : Nat} {v : Value} {ys : List Ta} (h : LOwn w base v ys) (hb : Below w.heap.size w w') : LOwn w' base v ys := ⟨h.row.below hb, fun y hy => (h.each y hy).below hb⟩
theorem LOwn.keptD {w w' : World} {base g len cap : Nat} {a : Option Addr} {v : Value} {ys : List Ta} (h : LOwn w base v ys) (d : Dn w w' g a len cap) (hlt : g < base) : LOwn w' base v ys := ⟨h.row.keptD d hlt, fun y hy => (h.each y hy).keptD d hlt⟩
theorem LOwn.mono {w : World} {base base' : Nat} {v : Value} {ys : List Ta} (h : LOwn w base v ys) (hb : base' ≤ base) : LOwn w base' v ys := ⟨h.row.mono hb, fun y hy => (h.each y hy).mono hb⟩
theorem LOwn.rows {w : World} {base c : Nat} {a : Option Addr} {ys : List Ta} (h : LOwn w base (.slice a ys.length c) ys) : TRows w a ys := ⟨h.row.grow, fun y hy => (h.each y hy).row⟩

set_option maxRecDepth 100000 in
set_option maxHeartbeats 4000000 in
theorem drDones (g len cap : Nat) (a : Option Addr) (w : World) (hc : CurI w g a len cap) :
  Calls Tryz.prog 22 #[.pointer (some ⟨g, 0, none⟩)] w fun e w' => ∃ (ys : List Ta) (cs : Nat) (a1 : Option Addr) (c1 : Nat), DonesD (txs ys) cs ∧ ys.length ≤ 5 ∧ cs ≤ 10 ∧ e = .returned (.slice a1 ys.length c1) ∧ LOwn w' w.heap.size (.slice a1 ys.length c1) ys ∧ Dn w w' g a len cap := by
 have HC : Hid (CurI w g a len cap) := hc
 have hgl : g < w.heap.size := hc.lt
 clear hc
 go_enter Tryz.func22, Tryz.ntmps22
 go_wp2
 go_loopw [3, 4, 5] (fun v cv t wr => ∃ (k cs : Nat) (ys : List Ta), k ≤ 5 ∧ t = .int .i64 k ∧ cv = .int .i64 cs ∧ cs ≤ 2 * k ∧ Hid (ys.length = k) ∧ Hid (DonesD (txs ys) cs) ∧ Hid (LOwn wr w.heap.size v ys) ∧ Hid (Dn w wr g a len cap)) (fun _ _ t _ => 6 - (intOf t).toNat)
 case atStart => exact ⟨0, 0, [], by omega, rfl, rfl, Nat.le_refl _, rfl, DonesD.nil, ⟨GOwn.empty _ _ (Nat.le_refl _), fun y hy => (by cases hy)⟩, (Dn.start HC.out).alloc _⟩
 case round =>
  obtain ⟨k, cs, ys, hk, rfl, rfl, hck, HYL, HS, HO, HD⟩ := hrel
  obtain ⟨a0, c0, rfl, _⟩ := HO.out.row.row
  go_wp2_with fail
  refine (drBelow g len cap a 6 (by omega) (by omega) _ HD.out.c).mono ?_
  rintro e w1 ⟨n, hn, rfl, d1⟩
  have D1 : Hid (Dn w w1 g a len cap) := HD.out.step d1
  have O1 := hide (HO.out.keptD d1 hgl)
  clear d1 HO HD
  by_cases hlt : k < n
  ·have hlt' : (k : Int) < (n : Int) := by omega
   have hk4 : k ≤ 4 := by omega
   go_wp2_with fail
   refine (drRanges g len cap a _ D1.out.c).mono ?_
   rintro e w2 ⟨rs, ra, rc, hrs, hrl, rfl, hor, d2⟩
   have D2 : Hid (Dn w w2 g a len cap) := D1.out.step d2
   have O2 := hide (O1.out.keptD d2 hgl)
   have R2 := hide (hor.mono D1.out.size)
   have HRS := hide hrs
   clear d2 hor hrs D1 O1
   go_wp2_with fail
   refine (drWrites g len cap a _ D2.out.c).mono ?_
   rintro e w3 ⟨ws, wa, wc, hws, hwl, rfl, how, d3⟩
   have D3 : Hid (Dn w w3 g a len cap) := D2.out.step d3
   have O3 := hide (O2.out.keptD d3 hgl)
   have R3 := hide (R2.out.keptD d3 hgl)
   have W3 := hide (how.mono D2.out.size)
   have HWS := hide hws
   have e0 : IntKind.i64.wrap ((cs : Int) + 1) = (cs : Int) + 1 := by rw [IntKind.wrap_i64]; omega
   clear d3 how hws D2 O2 R2
   go_wp2_with fail
   refine (drBelow g len cap a 2 (by omega) (by omega) _ D3.out.c).mono ?_
   rintro e w3b ⟨y, hy, rfl, d3b⟩
   have D3b : Hid (Dn w w3b g a len cap) := D3.out.step d3b
   have O3b := hide (O3.out.keptD d3b hgl)
   have R3b := hide (R3.out.keptD d3b hgl)
   have W3b := hide (W3.out.keptD d3b hgl)
   clear d3b D3 O3 R3 W3
   obtain ⟨d, hd⟩ : ∃ d, d = cs + 1 + y := ⟨_, rfl⟩
   have HD2 : Hid (d = cs + 1 + y) := hd
   have e1 : IntKind.i64.wrap ((cs : Int) + 1 + (y : Int)) = (d : Int) := by rw [IntKind.wrap_i64]; omega
   have e2 : (cs : Int) + 1 + (y : Int) = (d : Int) := by omega
   have hd0 : 0 < d := by omega
   have hd1 : d ≤ 2 * k + 2 := by omega
   have hcd : cs < d := by omega
   have ew : IntKind.i64.wrap (1 + (k : Int)) = 1 + (k : Int) := by rw [IntKind.wrap_i64]; omega
   clear hd hy
   go_wp2_with fail
   refine (drBelow g len cap a d hd0 (by omega) _ D3b.out.c).mono ?_
   rintro e w4 ⟨x, hx, rfl, d4⟩
   have D4 : Hid (Dn w w4 g a len cap) := D3b.out.step d4
   have O4 := hide (O3b.out.keptD d4 hgl)
   have R4 := hide (R3b.out.keptD d4 hgl)
   have W4 := hide (W3b.out.keptD d4 hgl)
   have hs4 := D4.out.size
   clear d4 D3b O3b R3b W3b e1 e2
   have HT : Hid (DoneD ⟨1 + (k : Int), 3, (x : Int), (d : Int), rs, ws, false, ⟨#[]⟩⟩) := ⟨rfl, HRS.out, hrl, HWS.out, hwl, rfl, (by show (0 : Int) ≤ (x : Int); omega), (by show (x : Int) < (d : Int); omega)⟩
   have HS2 : Hid (DonesD (txs (ys ++ [(⟨⟨1 + (k : Int), 3, (x : Int), (d : Int), rs, ws, false, ⟨#[]⟩⟩, ra, rc, wa, wc⟩ : Ta)])) d) := by
    show DonesD _ _
    unfold txs
    rw [List.map_append]
    exact HS.out.snoc hcd HT.out (by show 1 + (k : Int) = 1 + ((txs ys).length : Int); rw [txs_len, HYL.out]) rfl
   have TN : Hid (TOwn w4 w.heap.size ⟨⟨1 + (k : Int), 3, (x : Int), (d : Int), rs, ws, false, ⟨#[]⟩⟩, ra, rc, wa, wc⟩) := ⟨R4.out, W4.out⟩
   have hb5 : Below w4.heap.size w4 (w4.alloc (.cells #[.int .i64 (1 + (k : Int)), .int .i64 3, .int .i64 (x : Int), .int .i64 (d : Int), .slice ra rs.length rc, .slice wa ws.length wc, .bool false, .string ⟨#[]⟩] 30)) := (belowRefl w4).alloc (Nat.le_refl _) _
   have O5 := hide (O4.out.below hb5)
   have T5 := hide (TN.out.below hb5)
   have D5 := hide (D4.out.below hb5)
   have hs5 : w.heap.size ≤ (w4.alloc (.cells #[.int .i64 (1 + (k : Int)), .int .i64 3, .int .i64 (x : Int), .int .i64 (d : Int), .slice ra rs.length rc, .slice wa ws.length wc, .bool false, .string ⟨#[]⟩] 30)).heap.size := Nat.le_trans hs4 hb5.size
   have HBK : Hid ((w4.alloc (.cells #[.int .i64 (1 + (k : Int)), .int .i64 3, .int .i64 (x : Int), .int .i64 (d : Int), .slice ra rs.length rc, .slice wa ws.length wc, .bool false, .string ⟨#[]⟩] 30)).heap[w4.heap.size]? = some (.cells (encT.enc ⟨⟨1 + (k : Int), 3, (x : Int), (d : Int), rs, ws, false, ⟨#[]⟩⟩, ra, rc, wa, wc⟩).toArray 30 (0, 0))) := heap_alloc_new w4 _
   have hyl : ys.length ≤ 100000000 := by rw [HYL.out]; omega
   clear hb5 TN R4 W4 O4 D4
   go_wp2_with (at_builtin; refine wpAppK (E := encT) 24 30 104 _ Tryz.underlying24 Tryz.info30 rfl (by omega) rfl _ _ rfl (base := w.heap.size) (v := .slice a0 ys.length c0) (xs := ys) ⟨⟨1 + (k : Int), 3, (x : Int), (d : Int), rs, ws, false, ⟨#[]⟩⟩, ra, rc, wa, wc⟩ tone rfl O5.out.row rfl HBK.out hyl hs5 ?_)
   intro g2 c2 w6 ho hg _ _
   have TA6 : Hid (∀ z ∈ ys ++ [(⟨⟨1 + (k : Int), 3, (x : Int), (d : Int), rs, ws, false, ⟨#[]⟩⟩, ra, rc, wa, wc⟩ : Ta)], TOwn w6 w.heap.size z) := fun z hz => by
    rcases List.mem_append.1 hz with h | h
    ·exact (O5.out.each z h).grown O5.out.row hg
    ·rw [List.mem_singleton.1 h]; exact T5.out.grown O5.out.row hg
   have D6 : Hid (Dn w w6 g a len cap) := D5.out.belowB (grown_low hg (fun b hb => (World.ownsRow.lt O5.out.row b hb).1) hs5)
   obtain ⟨zs, hzs⟩ : ∃ zs, zs = ys ++ [(⟨⟨1 + (k : Int), 3, (x : Int), (d : Int), rs, ws, false, ⟨#[]⟩⟩, ra, rc, wa, wc⟩ : Ta)] := ⟨_, rfl⟩
   have hzl : ys.length + 1 = zs.length := by rw [hzs]; simp
   rw [← hzs] at ho TA6 HS2
   rw [hzl] at ho
   have HZ : Hid (ys.length + 1 = zs.length) := hzl
   have HZL : Hid (zs.length = k + 1) := by show _ = _; rw [← hzl, HYL.out]
   have O6 : Hid (LOwn w6 w.heap.size (.slice (some ⟨g2, 0, none⟩) zs.length c2) zs) := ⟨ho, TA6.out⟩
   clear hg ho hzs hzl TA6 O5 T5 D5 HBK hyl hs5
   rw [HZ.out]
   go_wp2
   go_roundw
   case rel => exact ⟨k + 1, d, zs, by omega, by go_num, rfl, by omega, HZL, HS2, O6, D6⟩
   case measure => simp [intOf]; omega
  ·have hlt' : ¬ (k : Int) < (n : Int) := by omega
   have hyl : ys.length ≤ 5 := by rw [HYL.out]; omega
   go_wp2
   go_ret
   exact ⟨ys, cs, a0, c0, HS.out, hyl, by omega, rfl, O1.out, D1.out⟩

set_option maxRecDepth 100000 in
set_option maxHeartbeats 1000000 in
theorem dDones (len cap : Nat) (a : Option Addr) (hl : len ≤ 1048576) (w : World) (hr : CodeRow w a len) :
  Calls Tryz.prog 5 #[.slice a len cap] w fun e w' => ∃ (ys : List Ta) (cs : Nat) (a1 : Option Addr) (c1 : Nat), DonesD (txs ys) cs ∧ ys.length ≤ 5 ∧ cs ≤ 10 ∧ e = .returned (.slice a1 ys.length c1) ∧ LOwn w' w.heap.size (.slice a1 ys.length c1) ys ∧ Below w.heap.size w w' := by
 have HR : Hid (CodeRow w a len) := hr
 clear hr
 go_enter Tryz.func5, Tryz.ntmps5
 go_wp2_with fail
 refine (drNew len cap a hl _ HR.out).mono ?_
 rintro e w1 ⟨rfl, hc, hb1⟩
 have HC := hide hc
 have HB1 := hide hb1
 have hs1 := hb1.size
 clear hc hb1
 go_wp2_with fail
 refine (drDones w.heap.size len cap a _ HC.out).mono ?_
 rintro e w2 ⟨ys, cs, a1, c1, hd, hyl, hcs, rfl, ho, d2⟩
 have HD := hide hd
 have HO := hide (ho.mono hs1)
 have HB2 : Hid (Below w.heap.size w w2) := d2.out HB1.out (Nat.le_refl _) hs1
 clear hd ho d2
 go_wp2
 go_ret
 exact ⟨ys, cs, a1, c1, HD.out, hyl, hcs, rfl, HO.out, HB2.out⟩

end Go.Proofs.YtbajpnbodhhmjaaGreat

namespace Go.Proofs.YtbajpnbodhhmjaaGreat
open Go.ChangeShapes Go.WideShapes Go.ChangeAt Go.RowKit Go.Deep
open KM

theorem laidOutT : laidOutB Tryz.prog = true := by kernel_rfl
theorem ownT : ownKnob Tryz.prog.godebug = none := by kernel_rfl

section
variable {H : Type} {enc : TypeId × Value → H} {W : World} {base : Nat}

end
end Go.Proofs.YtbajpnbodhhmjaaGreat

namespace Go.Proofs.YtbajpnbodhhmjaaGreat
open Go.ChangeShapes Go.WideShapes Go.ChangeAt Go.RowKit Go.Deep

section
variable {H : Type} {enc : TypeId × Value → H} {W : World} {base : Nat}

set_option maxRecDepth 100000 in
theorem open_code {v : Value} {d : DataW H} {p : List MemPlace} (hv : Value.okWide Tryz.prog W .any base 22 v) (h : DataW.Trod enc Tryz.prog W 0 (fun _ => true) true 22 v d p) :
  ∃ (len : Nat) (a : Option Addr) (cap : Nat), v = .slice a len cap ∧ len ≤ 9223372036854775807 ∧ CodeRow W a len := by
 obtain ⟨a0, len0, cap0, rfl⟩ := okWide_slice Tryz.underlying22 hv
 refine ⟨len0, a0, cap0, rfl, ?_⟩
 obtain ⟨fuel, hf⟩ := h
 rcases open_ints Tryz.underlying22 Tryz.underlying5 (by kernel_rfl) hf with ⟨hcs, _⟩ | ⟨x, l, c, zs, hcs, _, hl, hm, hz, _, hcell, hwz⟩
 ·simp [Value.cells] at hcs
  obtain ⟨rfl, rfl, rfl⟩ := hcs
  exact ⟨by omega, fun h => by omega⟩
 ·simp [Value.cells] at hcs
  obtain ⟨rfl, rfl, rfl⟩ := hcs
  have hz' : zs.length = cap0 := by simpa using hz
  unfold maxLen at hm
  refine ⟨by omega, fun h => ?_⟩
  obtain ⟨b, off, spot⟩ := x
  have hc0 := hcell 0 (by omega)
  have hspot : spot = none := by simpa [Addr.add] using World.cell?_spot hc0
  subst hspot
  have hb : b < W.heap.size := by simpa [Addr.add] using World.block_lt_of_cell? W _ hc0
  refine ⟨b, off, rfl, hb, fun i hi => ?_⟩
  have hci := hcell i (by omega)
  have hwi := hwz (zs.getD i 0) (by rw [List.getD_eq_getElem?_getD, List.getElem?_eq_getElem (by omega)]; simp)
  have hbd := bounds_u8 hwi
  exact ⟨zs.getD i 0, hbd.1, hbd.2, by rw [Addr.add_lit] at hci; exact hci⟩
end
end Go.Proofs.YtbajpnbodhhmjaaGreat

namespace Go.Proofs.YtbajpnbodhhmjaaGreat
open Go.RowKit
open KM
attribute [local go_sem ↓] Go.wp_at_zero Go.wp_at_succ

def Pw (ts : List Tx) (o : List Nat) : Prop := o.Pairwise fun a b => bef ts b a = false
theorem serF_pw (ts : List Tx) : ∀ (f : Nat) (o p : List Nat), Ordd ts o → Pw ts o → serF ts f o = some p → Ordd ts p ∧ Pw ts p ∧ p.length = o.length + f
 | 0, o, p, h1, h2, h => by cases h; exact ⟨h1, h2, rfl⟩
 | f + 1, o, p, h1, h2, h => by
  unfold serF at h
  cases hn : nxt ts o with
  | none => rw [hn] at h; cases h
  | some i =>
   rw [hn] at h
   obtain ⟨hi, hf⟩ := nxt_some hn
   have h3 := h1.snoc hi hf
   have h4 : Pw ts (o ++ [i]) := by
    unfold Pw
    rw [List.pairwise_append]
    refine ⟨h2, List.pairwise_singleton _ _, fun a ha b hb => ?_⟩
    rw [List.mem_singleton.1 hb]
    exact h1.no a ha i hi ((free_iff ts o i).1 hf).1
   obtain ⟨q1, q2, q3⟩ := serF_pw ts f (o ++ [i]) p h3 h4 h
   refine ⟨q1, q2, ?_⟩
   rw [q3, List.length_append]
   simp
   omega
theorem serB_pw {ts : List Tx} {p : List Nat} (h : serB ts = some p) : Ordd ts p ∧ Pw ts p ∧ p.length = ts.length := by
 have := serF_pw ts ts.length [] p (Ordd.nil ts) List.Pairwise.nil h
 simpa using this

end Go.Proofs.YtbajpnbodhhmjaaGreat

namespace Go.Proofs.YtbajpnbodhhmjaaGreat
open Go.RowKit
open KM
attribute [local go_sem ↓] Go.wp_at_zero Go.wp_at_succ

def orI (x y : Int) : Int := if x = 0 then y else x

set_option maxRecDepth 100000 in
set_option maxHeartbeats 1000000 in
theorem or84 (x y : Int) (g : Nat) (w : World) (h0 : w.cell? ⟨g, 0, none⟩ = some (.int .i64 x)) (h1 : w.cell? ⟨g, 1, none⟩ = some (.int .i64 y)) :
  Calls Tryz.prog 90 #[.slice (some ⟨g, 0, none⟩) 2 2] w fun e w' => e = .returned (.int .i64 (orI x y)) ∧ w' = w := by
 by_cases hx : x = 0
 ·subst hx
  have HE : Hid (orI 0 y = y) := by show _ = _; unfold orI; rw [if_pos rfl]
  go_enter Tryz.func90, Tryz.ntmps90
  go_wp2
  go_loop [8] (fun t => ∃ k : Nat, k ≤ 2 ∧ t = .int .i64 k ∧ Hid (k = 2 → y = 0)) (fun t => 2 - (intOf t).toNat)
  case atStart => exact ⟨0, by omega, rfl, fun h => by omega⟩
  case round =>
   obtain ⟨k, hk, rfl, HY⟩ := hrel
   by_cases hk0 : k = 0
   ·subst hk0
    go_wp2
    go_round
    case rel => exact ⟨1, by omega, by go_num, fun h => by omega⟩
    case measure => simp [intOf]
   by_cases hk1 : k = 1
   ·subst hk1
    by_cases hy : y = 0
    ·subst hy
     go_wp2
     go_round
     case rel => exact ⟨2, by omega, by go_num, fun h => trivial⟩
     case measure => simp [intOf]
    ·have hy' : (y != 0) = true := by simpa using hy
     clear hy
     go_wp2
     go_ret
     exact ⟨ret_int HE.out.symm, rfl⟩
   ·have hk2 : k = 2 := by omega
    have HF : Hid (0 = orI 0 y) := by show _ = _; rw [HE.out, HY.out hk2]
    subst hk2
    clear hk0 hk1
    go_wp2
    go_ret
    exact ⟨ret_int HF.out, rfl⟩
 ·have HE : Hid (orI x y = x) := by show _ = _; unfold orI; rw [if_neg hx]
  have hx' : (x != 0) = true := by simpa using hx
  clear hx
  go_enter Tryz.func90, Tryz.ntmps90
  go_wp2
  go_loop [8] (fun t => t = .int .i64 0) (fun t => 2 - (intOf t).toNat)
  case atStart => rfl
  case round =>
   subst hrel
   go_wp2
   go_ret
   exact ⟨ret_int HE.out.symm, rfl⟩

def cmpV (a b : Vr) : Int := orI (Lib.compareBytes a.1.data.toList b.1.data.toList) (Lib.compareInt a.2.2.2 b.2.2.2)

set_option maxRecDepth 100000 in
set_option maxHeartbeats 1000000 in
theorem cmp55 (a b : Vr) (w : World) :
  Calls Tryz.prog 86 #[.agg #[.string a.1, .string a.2.1, .bool a.2.2.1, .int .i64 a.2.2.2], .agg #[.string b.1, .string b.2.1, .bool b.2.2.1, .int .i64 b.2.2.2]] w fun e w' => e = .returned (.int .i64 (cmpV a b)) ∧ Below w.heap.size w w' := by
 have A0 : Hid (Box ((w.alloc (.cells #[.string a.1, .string a.2.1, .bool a.2.2.1, .int .i64 a.2.2.2] 69)).alloc (.cells #[.string b.1, .string b.2.1, .bool b.2.2.1, .int .i64 b.2.2.2] 69)) w.heap.size [.string a.1, .string a.2.1, .bool a.2.2.1, .int .i64 a.2.2.2]) := (Box.new w _ 69).below ((belowRefl _).alloc (Nat.le_refl _) _)
 have B0 : Hid (Box ((w.alloc (.cells #[.string a.1, .string a.2.1, .bool a.2.2.1, .int .i64 a.2.2.2] 69)).alloc (.cells #[.string b.1, .string b.2.1, .bool b.2.2.1, .int .i64 b.2.2.2] 69)) (w.heap.size + 1) [.string b.1, .string b.2.1, .bool b.2.2.1, .int .i64 b.2.2.2]) := by
  have h := Box.new (w.alloc (.cells #[.string a.1, .string a.2.1, .bool a.2.2.1, .int .i64 a.2.2.2] 69)) [.string b.1, .string b.2.1, .bool b.2.2.1, .int .i64 b.2.2.2] 69
  rw [World.size_alloc] at h
  exact h
 have HB0 : Hid (Below w.heap.size w ((w.alloc (.cells #[.string a.1, .string a.2.1, .bool a.2.2.1, .int .i64 a.2.2.2] 69)).alloc (.cells #[.string b.1, .string b.2.1, .bool b.2.2.1, .int .i64 b.2.2.2] 69))) := ((belowRefl w).alloc (Nat.le_refl _) _).alloc (by simp) _
 have HC : Hid (cmpV a b = orI (Lib.compareBytes a.1.data.toList b.1.data.toList) (Lib.compareInt a.2.2.2 b.2.2.2)) := rfl
 have C1 : Hid (∀ w, Calls Tryz.prog 91 #[.string a.1, .string b.1] w fun e w' => e = .returned (.int .i64 (Lib.compareBytes a.1.data.toList b.1.data.toList)) ∧ w' = w) := fun w => Tryz.strings_Compare a.1 b.1 w
 have C2 : Hid (∀ w, Calls Tryz.prog 92 #[.int .i64 a.2.2.2, .int .i64 b.2.2.2] w fun e w' => e = .returned (.int .i64 (Lib.compareInt a.2.2.2 b.2.2.2)) ∧ w' = w) := fun w => Tryz.cmp_Compare_int a.2.2.2 b.2.2.2 w
 generalize Lib.compareBytes a.1.data.toList b.1.data.toList = x at *
 generalize Lib.compareInt a.2.2.2 b.2.2.2 = y at *
 go_enter Tryz.func86, Tryz.ntmps86
 go_wp2
 generalize ((w.alloc (.cells #[.string a.1, .string a.2.1, .bool a.2.2.1, .int .i64 a.2.2.2] 69)).alloc (.cells #[.string b.1, .string b.2.1, .bool b.2.2.1, .int .i64 b.2.2.2] 69)) = W at *
 refine wp_region_held_drew (S := fun w' => w'.cell? ⟨w.heap.size, 0, none⟩ = some (.string a.1) ∧ w'.cell? ⟨w.heap.size, 3, none⟩ = some (.int .i64 a.2.2.2) ∧ w'.cell? ⟨w.heap.size + 1, 0, none⟩ = some (.string b.1) ∧ w'.cell? ⟨w.heap.size + 1, 3, none⟩ = some (.int .i64 b.2.2.2)) (by kernel_rfl) ⟨A0.out.c0, A0.out.c3, B0.out.c0, B0.out.c3⟩ (fun hHeld => ?_)
 (refine tk 0 ?_ rfl (Or.inl ⟨by rfl, ?_⟩) ?_; rotate_left; (focus (intro w h; (try dsimp only at h); go_simp; (try with_reducible rfl))); simp only [Act.put, tA, tB, tD, tE, tF])
 (refine tk 1 ?_ rfl (Or.inl ⟨by rfl, ?_⟩) ?_; rotate_left; (focus (intro w h; (try dsimp only at h); go_simp; (try with_reducible rfl))); simp only [Act.put, tA, tB, tC, tD, tE, tF])
 (refine tk 2 ?_ rfl (Or.inl ⟨by rfl, ?_⟩) ?_; rotate_left; (focus (intro w h; (try dsimp only at h); go_simp; (try with_reducible rfl))); simp only [Act.put, tA, tB, tC, tD, tE, tF])
 (refine tk 3 ?_ rfl (Or.inl ⟨by rfl, ?_⟩) ?_; rotate_left; (focus (intro w h; (try dsimp only at h); go_simp; (try with_reducible rfl))); simp only [Act.put, tA, tB, tC, tD, tE, tF])
 (refine tk 5 ?_ rfl (Or.inl ⟨by rfl, ?_⟩) ?_; rotate_left; (focus (intro w h; (try dsimp only at h); go_simp; (try with_reducible rfl))); simp only [Act.put, tA, tB, tC, tD, tE, tF])
 (refine tk 6 ?_ rfl (Or.inl ⟨by rfl, ?_⟩) ?_; rotate_left; (focus (intro w h; (try dsimp only at h); go_simp; (try with_reducible rfl))); simp only [Act.put, tA, tB, tC, tD, tE, tF])
 (refine tk 7 ?_ rfl (Or.inl ⟨by rfl, ?_⟩) ?_; rotate_left; (focus (intro w h; (try dsimp only at h); go_simp; (try with_reducible rfl))); simp only [Act.put, tA, tB, tC, tD, tE, tF])
 (refine tk 8 ?_ rfl (Or.inl ⟨by rfl, ?_⟩) ?_; rotate_left; (focus (intro w h; (try dsimp only at h); go_simp; (try with_reducible rfl))); simp only [Act.put, tA, tB, tC, tD, tE, tF])
 refine wpAnyH_ready (rs := [4]) (by kernel_rfl) (by simp) ?_
 refine AllReadyH.cons rfl (fun K hK => ?_) AllReadyH.nil
 go_simp
 go_wp2_with (go_at_call 91; refine (C1.out _).mono ?_; rintro e w2 ⟨rfl, rfl⟩)
 refine hK.out _ _ ⟨A0.out.c0, A0.out.c3, B0.out.c0, B0.out.c3⟩ (fun hHeld2 => ?_)
 clear hK K
 refine wpAnyH_ready (rs := [9]) (by kernel_rfl) (by simp) ?_
 refine AllReadyH.cons rfl (fun K hK => ?_) AllReadyH.nil
 go_simp
 go_wp2_with (go_at_call 92; refine (C2.out _).mono ?_; rintro e w2 ⟨rfl, rfl⟩)
 refine hK.out _ _ ⟨A0.out.c0, A0.out.c3, B0.out.c0, B0.out.c3⟩ (fun hHeld3 => ?_)
 clear hK K
 refine wpAnyH_ready (rs := [10]) (by kernel_rfl) (by simp) ?_
 refine AllReadyH.cons rfl (fun K hK => ?_) AllReadyH.nil
 go_simp
 have A1 : Hid (Box (W.drew.alloc (.cells #[.int .i64 x, .int .i64 y] 3)) w.heap.size [.string a.1, .string a.2.1, .bool a.2.2.1, .int .i64 a.2.2.2]) := A0.out.below (((belowRefl W).drew).alloc (Nat.le_refl _) _)
 have B1 : Hid (Box (W.drew.alloc (.cells #[.int .i64 x, .int .i64 y] 3)) (w.heap.size + 1) [.string b.1, .string b.2.1, .bool b.2.2.1, .int .i64 b.2.2.2]) := B0.out.below (((belowRefl W).drew).alloc (Nat.le_refl _) _)
 have G1 : Hid (Box (W.drew.alloc (.cells #[.int .i64 x, .int .i64 y] 3)) W.heap.size [.int .i64 x, .int .i64 y]) := Box.new W.drew _ 3
 have HB1 : Hid (Below w.heap.size w (W.drew.alloc (.cells #[.int .i64 x, .int .i64 y] 3))) := HB0.out.drew.alloc HB0.out.size _
 go_wp2_with fail
 refine hK.out _ _ ⟨A1.out.c0, A1.out.c3, B1.out.c0, B1.out.c3⟩ (fun hHeld4 => ?_)
 clear hK K
 refine wpAnyH_ready (rs := [11]) (by kernel_rfl) (by simp) ?_
 refine AllReadyH.cons rfl (fun K hK => ?_) AllReadyH.nil
 go_simp
 go_wp2_with (go_at_call 90; refine (or84 x y _ _ G1.out.c0 G1.out.c1).mono ?_; rintro e w2 ⟨rfl, rfl⟩)
 refine hK.out _ _ ⟨A1.out.c0, A1.out.c3, B1.out.c0, B1.out.c3⟩ (fun hHeld5 => ?_)
 clear hK K
 (refine tk 12 ?_ rfl (Or.inl ⟨by rfl, ?_⟩) ?_; rotate_left; (focus (intro w h; (try dsimp only at h); go_simp; (try with_reducible rfl))); simp only [Act.put, tA, tB, tC, tD, tE, tF])
 refine wpAnyH_done (by kernel_rfl) ?_ _
 go_wp2
 go_ret
 exact ⟨ret_int HC.out.symm, HB1.out⟩
end Go.Proofs.YtbajpnbodhhmjaaGreat

namespace Go.Proofs.YtbajpnbodhhmjaaGreat
open Go.RowKit
open KM
attribute [local go_sem ↓] Go.wp_at_zero Go.wp_at_succ

theorem toList_data (s : ByteArray) : s.toList = s.data.toList := by
 obtain ⟨⟨l⟩⟩ := s
 exact ByteArray.toList_mk l
theorem beq_text (a b : ByteArray) : (a.toList == b.toList) = decide (a = b) := by
 by_cases h : a = b
 ·subst h; simp
 ·rw [decide_eq_false h, beq_eq_false_iff_ne]
  exact fun e => h (toList_inj e)
theorem cb_lt : ∀ a b : List UInt8, (Lib.compareBytes a b < 0) ↔ Op.bytesLess a b = true
 | [], [] => by simp [Lib.compareBytes, Op.bytesLess]
 | [], _ :: _ => by simp [Lib.compareBytes, Op.bytesLess]
 | _ :: _, [] => by simp [Lib.compareBytes, Op.bytesLess]
 | x :: a, y :: b => by
  have ih := cb_lt a b
  simp only [Lib.compareBytes, Op.bytesLess, Bool.or_eq_true, decide_eq_true_eq, Bool.and_eq_true, beq_iff_eq]
  by_cases h1 : x < y
  ·simp [h1]
  ·by_cases h2 : y < x
   ·have h3 : x ≠ y := fun e => by subst e; exact h1 h2
    simp [h1, h2, h3]
   ·have h3 : x = y := by
     have a1 : ¬ x.toNat < y.toNat := fun h => h1 (UInt8.lt_iff_toNat_lt.2 h)
     have a2 : ¬ y.toNat < x.toNat := fun h => h2 (UInt8.lt_iff_toNat_lt.2 h)
     exact UInt8.toNat_inj.1 (by omega)
    rw [if_neg h1, if_neg h2]
    constructor
    ·exact fun h => Or.inr ⟨h3, ih.1 h⟩
    ·rintro (h | ⟨_, h⟩)
     ·exact absurd h h1
     ·exact ih.2 h
theorem cb_eq : ∀ a b : List UInt8, Lib.compareBytes a b = 0 ↔ a = b
 | [], [] => by simp [Lib.compareBytes]
 | [], _ :: _ => by simp [Lib.compareBytes]
 | _ :: _, [] => by simp [Lib.compareBytes]
 | x :: a, y :: b => by
  have ih := cb_eq a b
  simp only [Lib.compareBytes, List.cons.injEq]
  by_cases h1 : x < y
  ·have h3 : x ≠ y := fun e => by subst e; exact absurd (UInt8.lt_iff_toNat_lt.1 h1) (by omega)
   simp [h1, h3]
  ·by_cases h2 : y < x
   ·have h3 : x ≠ y := fun e => by subst e; exact h1 h2
    simp [h1, h2, h3]
   ·have h3 : x = y := by
     have a1 : ¬ x.toNat < y.toNat := fun h => h1 (UInt8.lt_iff_toNat_lt.2 h)
     have a2 : ¬ y.toNat < x.toNat := fun h => h2 (UInt8.lt_iff_toNat_lt.2 h)
     exact UInt8.toNat_inj.1 (by omega)
    rw [if_neg h1, if_neg h2]
    simp [h3, ih]

def asc (a b : Vr) : Bool := lt a.1 b.1 || (decide (a.1 = b.1) && decide (a.2.2.2 < b.2.2.2))
theorem ci_lt (x y : Int) : Lib.compareInt x y < 0 ↔ x < y := by
 unfold Lib.compareInt
 split
 ·simp_all
 ·split <;> simp_all
theorem ci_eq (x y : Int) : Lib.compareInt x y = 0 ↔ x = y := by
 unfold Lib.compareInt
 split
 ·simp; omega
 ·split
  ·simp; omega
  ·simp; omega
theorem cmpV_neg (a b : Vr) : cmpV a b < 0 ↔ asc a b = true := by
 unfold cmpV orI asc lt
 simp only [Bool.or_eq_true, Bool.and_eq_true, decide_eq_true_eq]
 split
 ·rename_i h
  have h' := (cb_eq _ _).1 h
  have e : a.1 = b.1 := toList_inj (by rw [toList_data, toList_data]; exact h')
  rw [ci_lt, e, less_irrefl]
  simp
 ·rename_i h
  have h' : ¬ a.1 = b.1 := fun e => h ((cb_eq _ _).2 (by rw [e]))
  rw [cb_lt, toList_data, toList_data]
  simp [h']
theorem cmpV_eq (a b : Vr) : cmpV a b = 0 ↔ a.1 = b.1 ∧ a.2.2.2 = b.2.2.2 := by
 unfold cmpV orI
 split
 ·rename_i h
  have h' := (cb_eq _ _).1 h
  have e : a.1 = b.1 := toList_inj (by rw [toList_data, toList_data]; exact h')
  rw [ci_eq]
  simp [e]
 ·rename_i h
  have h' : ¬ a.1 = b.1 := fun e => h ((cb_eq _ _).2 (by rw [e]))
  simp [h, h']

def verB (v : Vr) : Bool := writeB (v.1, v.2.1, v.2.2.1) && decide (1 ≤ v.2.2.2) && decide (v.2.2.2 ≤ 9999)
end Go.Proofs.YtbajpnbodhhmjaaGreat

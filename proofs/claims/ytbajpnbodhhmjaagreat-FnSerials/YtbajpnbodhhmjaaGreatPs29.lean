/- Drawn ones that look and change. -/
import Derived.Test.YtbajpnbodhhmjaaGreatPs01
import Derived.Test.YtbajpnbodhhmjaaGreatProg
import Derived.WalkKit
import Derived.WalkSpells
import Derived.WalkLawsBesides
import Derived.Deep.QuietTactic
import Derived.BigQuiet
import Derived.Deep.RegionHeld3
import Derived.Deep.DrawnRows
import Derived.Deep.AppendLies
import Derived.Sort.OwnSorted
import Derived.Lib.RowBridge
import Derived.Test.YtbajpnbodhhmjaaGreatPs08
import Derived.Test.YtbajpnbodhhmjaaGreatPs02
import Derived.Deep.RegionHeld
import Derived.Deep.Cut
namespace Go.Proofs.YtbajpnbodhhmjaaGreat
open Go.RowKit
open KM
attribute [local go_sem ↓] Go.wp_at_zero Go.wp_at_succ

theorem Lies.setxP {α : Type} {E : Enc α} {e : TypeId} {w : World} {lo hi : Nat} {v : Value} {xs : List α} (h : Lies E e w lo hi v xs) {a : Addr} (ha : ∀ g, v.ownBlock = some g → a.block ≠ g) (u : Value) : Lies E e (w.setCell a u) lo hi v xs := by
 refine ⟨?_, h.up⟩
 obtain ⟨h1, h2⟩ := h.own
 refine ⟨h1, ?_⟩
 rcases h2 with h2 | ⟨g, cap, cur, hv, hg', hh, r⟩
 ·exact Or.inl h2
 ·refine Or.inr ⟨g, cap, cur, hv, hg', ?_, r⟩
  rw [Below.heap_setCell _ _ _ _ (fun e => ha g (by rw [hv]; rfl) e.symm)]
  exact hh
theorem below_s8P {base : Nat} {a w : World} (h : Below base a w) {ob : Nat} (hb : base ≤ ob) (v0 v1 v2 v3 v4 v5 v6 v7 : Value) : Below base a ((((((((w.setCell ⟨ob, 0, none⟩ v0).setCell ⟨ob, 1, none⟩ v1).setCell ⟨ob, 2, none⟩ v2).setCell ⟨ob, 3, none⟩ v3).setCell ⟨ob, 4, none⟩ v4).setCell ⟨ob, 5, none⟩ v5).setCell ⟨ob, 6, none⟩ v6).setCell ⟨ob, 7, none⟩ v7) := ((((((((h.setCell (show base ≤ (⟨ob, 0, none⟩ : Addr).block from hb) v0).setCell (show base ≤ (⟨ob, 1, none⟩ : Addr).block from hb) v1).setCell (show base ≤ (⟨ob, 2, none⟩ : Addr).block from hb) v2).setCell (show base ≤ (⟨ob, 3, none⟩ : Addr).block from hb) v3).setCell (show base ≤ (⟨ob, 4, none⟩ : Addr).block from hb) v4).setCell (show base ≤ (⟨ob, 5, none⟩ : Addr).block from hb) v5).setCell (show base ≤ (⟨ob, 6, none⟩ : Addr).block from hb) v6).setCell (show base ≤ (⟨ob, 7, none⟩ : Addr).block from hb) v7)
theorem Bx.o8P {w : World} {b : Nat} {cs : List Value} (h : Bx w b cs) {ob : Nat} (hn : ob ≠ b) (v0 v1 v2 v3 v4 v5 v6 v7 : Value) : Bx ((((((((w.setCell ⟨ob, 0, none⟩ v0).setCell ⟨ob, 1, none⟩ v1).setCell ⟨ob, 2, none⟩ v2).setCell ⟨ob, 3, none⟩ v3).setCell ⟨ob, 4, none⟩ v4).setCell ⟨ob, 5, none⟩ v5).setCell ⟨ob, 6, none⟩ v6).setCell ⟨ob, 7, none⟩ v7) b cs := ((((((((h.setO (p := ⟨ob, 0, none⟩) hn v0).setO (p := ⟨ob, 1, none⟩) hn v1).setO (p := ⟨ob, 2, none⟩) hn v2).setO (p := ⟨ob, 3, none⟩) hn v3).setO (p := ⟨ob, 4, none⟩) hn v4).setO (p := ⟨ob, 5, none⟩) hn v5).setO (p := ⟨ob, 6, none⟩) hn v6).setO (p := ⟨ob, 7, none⟩) hn v7)
theorem Bx.s8P {w : World} {ob : Nat} {x0 x1 x2 x3 x4 x5 x6 x7 : Value} (h : Bx w ob [x0, x1, x2, x3, x4, x5, x6, x7]) (v0 v1 v2 v3 v4 v5 v6 v7 : Value) : Bx ((((((((w.setCell ⟨ob, 0, none⟩ v0).setCell ⟨ob, 1, none⟩ v1).setCell ⟨ob, 2, none⟩ v2).setCell ⟨ob, 3, none⟩ v3).setCell ⟨ob, 4, none⟩ v4).setCell ⟨ob, 5, none⟩ v5).setCell ⟨ob, 6, none⟩ v6).setCell ⟨ob, 7, none⟩ v7) ob [v0, v1, v2, v3, v4, v5, v6, v7] := ((((((((h.set 0 v0).set 1 v1).set 2 v2).set 3 v3).set 4 v4).set 5 v5).set 6 v6).set 7 v7)
theorem own_setP {α : Type} {E : Enc α} {e : TypeId} {w : World} {base : Nat} {v : Value} {xs : List α} (h : GOwn E e w base v xs) {a : Addr} (ha : ∀ g, v.ownBlock = some g → a.block ≠ g) (u : Value) : GOwn E e (w.setCell a u) base v xs := by
 obtain ⟨h1, h2⟩ := h
 refine ⟨h1, ?_⟩
 rcases h2 with h2 | ⟨g, cap, cur, hv, hg', hh, r⟩
 ·exact Or.inl h2
 ·refine Or.inr ⟨g, cap, cur, hv, hg', ?_, r⟩
  rw [Below.heap_setCell _ _ _ _ (fun e => ha g (by rw [hv]; rfl) e.symm)]
  exact hh
theorem own_s8P {α : Type} {E : Enc α} {e : TypeId} {w : World} {base : Nat} {v : Value} {xs : List α} (h : GOwn E e w base v xs) {ob : Nat} (hb : ob < base) (v0 v1 v2 v3 v4 v5 v6 v7 : Value) : GOwn E e ((((((((w.setCell ⟨ob, 0, none⟩ v0).setCell ⟨ob, 1, none⟩ v1).setCell ⟨ob, 2, none⟩ v2).setCell ⟨ob, 3, none⟩ v3).setCell ⟨ob, 4, none⟩ v4).setCell ⟨ob, 5, none⟩ v5).setCell ⟨ob, 6, none⟩ v6).setCell ⟨ob, 7, none⟩ v7) base v xs := ((((((((h.set (a := ⟨ob, 0, none⟩) hb v0).set (a := ⟨ob, 1, none⟩) hb v1).set (a := ⟨ob, 2, none⟩) hb v2).set (a := ⟨ob, 3, none⟩) hb v3).set (a := ⟨ob, 4, none⟩) hb v4).set (a := ⟨ob, 5, none⟩) hb v5).set (a := ⟨ob, 6, none⟩) hb v6).set (a := ⟨ob, 7, none⟩) hb v7)
structure TxD (t : Tx) : Prop where
 ws : WsD t.ws
 wl : t.ws.length ≤ 3
 rs : RsD t.rs
 rl : t.rs.length ≤ 3
 nm : t.nm.size ≤ 1048576
 id : 1 ≤ t.id ∧ t.id ≤ 6

set_option maxRecDepth 100000 in
set_option maxHeartbeats 4000000 in
theorem drTxn (g len cap : Nat) (a : Option Addr) (w : World) (hc : CurI w g a len cap) :
  Calls Tryz.prog 29 #[.pointer (some ⟨g, 0, none⟩)] w fun e w' => ∃ (t : Tx) (ra : Option Addr) (rc : Nat) (wa : Option Addr) (wc : Nat), TxD t ∧ e = .returned (.agg #[.int .i64 t.id, .int .i64 t.st, .int .i64 t.snap, .int .i64 t.cs, .slice ra t.rs.length rc, .slice wa t.ws.length wc, .bool t.out, .string t.nm]) ∧ GOwn encR 35 w' w.heap.size (.slice ra t.rs.length rc) t.rs ∧ GOwn encW 55 w' w.heap.size (.slice wa t.ws.length wc) t.ws ∧ Dn w w' g a len cap := by
 have hgl : g < w.heap.size := hc.lt
 have BR0 : Hid (Bx (w.alloc (.cells #[.int .i64 0, .int .i64 0, .int .i64 0, .int .i64 0, .slice none 0 0, .slice none 0 0, .bool false, .string ⟨#[]⟩] 30)) (w.heap.size) [.int .i64 0, .int .i64 0, .int .i64 0, .int .i64 0, .slice none 0 0, .slice none 0 0, .bool false, .string ⟨#[]⟩]) := Bx.new w [.int .i64 0, .int .i64 0, .int .i64 0, .int .i64 0, .slice none 0 0, .slice none 0 0, .bool false, .string ⟨#[]⟩] 30
 have D0 : Hid (Dn w (w.alloc (.cells #[.int .i64 0, .int .i64 0, .int .i64 0, .int .i64 0, .slice none 0 0, .slice none 0 0, .bool false, .string ⟨#[]⟩] 30)) g a len cap) := (Dn.start hc).alloc _
 clear hc
 go_enter Tryz.func29, Tryz.ntmps29
 go_wp2_with fail
 generalize (w.alloc (.cells #[.int .i64 0, .int .i64 0, .int .i64 0, .int .i64 0, .slice none 0 0, .slice none 0 0, .bool false, .string ⟨#[]⟩] 30)) = v0 at *
 refine (drBelow g len cap a 6 (by omega) (by omega) _ D0.out.c).mono ?_
 rintro e v1 ⟨n1, hn1, rfl, d⟩
 have BR1 : Hid (Bx v1 (w.heap.size) [.int .i64 0, .int .i64 0, .int .i64 0, .int .i64 0, .slice none 0 0, .slice none 0 0, .bool false, .string ⟨#[]⟩]) := BR0.out.keptD d (by omega)
 have D1 : Hid (Dn w v1 g a len cap) := D0.out.step d
 clear BR0 D0
 clear d
 go_wp2_with fail
 refine (drBelow g len cap a 3 (by omega) (by omega) _ D1.out.c).mono ?_
 rintro e v2 ⟨n2, hn2, rfl, d⟩
 have BR2 : Hid (Bx v2 (w.heap.size) [.int .i64 0, .int .i64 0, .int .i64 0, .int .i64 0, .slice none 0 0, .slice none 0 0, .bool false, .string ⟨#[]⟩]) := BR1.out.keptD d (by omega)
 have D2 : Hid (Dn w v2 g a len cap) := D1.out.step d
 clear BR1 D1
 clear d
 go_wp2_with fail
 refine (drBelow g len cap a 6 (by omega) (by omega) _ D2.out.c).mono ?_
 rintro e v3 ⟨n3, hn3, rfl, d⟩
 have BR3 : Hid (Bx v3 (w.heap.size) [.int .i64 0, .int .i64 0, .int .i64 0, .int .i64 0, .slice none 0 0, .slice none 0 0, .bool false, .string ⟨#[]⟩]) := BR2.out.keptD d (by omega)
 have D3 : Hid (Dn w v3 g a len cap) := D2.out.step d
 clear BR2 D2
 clear d
 go_wp2_with fail
 have hN : w.heap.size < v3.heap.size := BR3.out.lt
 have hb : Below v3.heap.size v3 (v3.alloc (.cells #[.int .i64 (1 + (n1 : Int)), .int .i64 (1 + (n2 : Int)), .int .i64 (n3 : Int), .int .i64 0, .slice none 0 0, .slice none 0 0, .bool false, .string ⟨#[]⟩] 30)) := (belowRefl v3).alloc (Nat.le_refl _) _
 have BR4 : Hid (Bx (v3.alloc (.cells #[.int .i64 (1 + (n1 : Int)), .int .i64 (1 + (n2 : Int)), .int .i64 (n3 : Int), .int .i64 0, .slice none 0 0, .slice none 0 0, .bool false, .string ⟨#[]⟩] 30)) (w.heap.size) [.int .i64 0, .int .i64 0, .int .i64 0, .int .i64 0, .slice none 0 0, .slice none 0 0, .bool false, .string ⟨#[]⟩]) := BR3.out.below hb
 have D4 : Hid (Dn w (v3.alloc (.cells #[.int .i64 (1 + (n1 : Int)), .int .i64 (1 + (n2 : Int)), .int .i64 (n3 : Int), .int .i64 0, .slice none 0 0, .slice none 0 0, .bool false, .string ⟨#[]⟩] 30)) g a len cap) := D3.out.below hb
 clear BR3 D3
 have BX4 : Hid (Bx (v3.alloc (.cells #[.int .i64 (1 + (n1 : Int)), .int .i64 (1 + (n2 : Int)), .int .i64 (n3 : Int), .int .i64 0, .slice none 0 0, .slice none 0 0, .bool false, .string ⟨#[]⟩] 30)) (v3.heap.size) [.int .i64 (1 + (n1 : Int)), .int .i64 (1 + (n2 : Int)), .int .i64 (n3 : Int), .int .i64 0, .slice none 0 0, .slice none 0 0, .bool false, .string ⟨#[]⟩]) := Bx.new v3 [.int .i64 (1 + (n1 : Int)), .int .i64 (1 + (n2 : Int)), .int .i64 (n3 : Int), .int .i64 0, .slice none 0 0, .slice none 0 0, .bool false, .string ⟨#[]⟩] 30
 clear hb
 generalize (v3.alloc (.cells #[.int .i64 (1 + (n1 : Int)), .int .i64 (1 + (n2 : Int)), .int .i64 (n3 : Int), .int .i64 0, .slice none 0 0, .slice none 0 0, .bool false, .string ⟨#[]⟩] 30)) = v4 at *
 have hM : v3.heap.size < v4.heap.size := BX4.out.lt
 refine (drRanges g len cap a _ D4.out.c).mono ?_
 rintro e v5 ⟨rs, ra, rc, hrs, hrl, rfl, ho, d⟩
 have HRS := hide hrs
 have BR5 : Hid (Bx v5 (w.heap.size) [.int .i64 0, .int .i64 0, .int .i64 0, .int .i64 0, .slice none 0 0, .slice none 0 0, .bool false, .string ⟨#[]⟩]) := BR4.out.keptD d (by omega)
 have D5 : Hid (Dn w v5 g a len cap) := D4.out.step d
 have BX5 : Hid (Bx v5 (v3.heap.size) [.int .i64 (1 + (n1 : Int)), .int .i64 (1 + (n2 : Int)), .int .i64 (n3 : Int), .int .i64 0, .slice none 0 0, .slice none 0 0, .bool false, .string ⟨#[]⟩]) := BX4.out.keptD d (by omega)
 clear BR4 D4 BX4
 have hM5 : v4.heap.size ≤ v5.heap.size := d.size
 clear d hrs
 have OR5 : Hid (GOwn encR 35 v5 (v4.heap.size) (.slice ra rs.length rc) (rs)) := ho
 clear ho
 go_wp2_with fail
 refine (drWrites g len cap a _ D5.out.c).mono ?_
 rintro e v6 ⟨ws, wa, wc, hws, hwl, rfl, ho, d⟩
 have HWS := hide hws
 have BR6 : Hid (Bx v6 (w.heap.size) [.int .i64 0, .int .i64 0, .int .i64 0, .int .i64 0, .slice none 0 0, .slice none 0 0, .bool false, .string ⟨#[]⟩]) := BR5.out.keptD d (by omega)
 have D6 : Hid (Dn w v6 g a len cap) := D5.out.step d
 have BX6 : Hid (Bx v6 (v3.heap.size) [.int .i64 (1 + (n1 : Int)), .int .i64 (1 + (n2 : Int)), .int .i64 (n3 : Int), .int .i64 0, .slice none 0 0, .slice none 0 0, .bool false, .string ⟨#[]⟩]) := BX5.out.keptD d (by omega)
 have OR6 : Hid (GOwn encR 35 v6 (v4.heap.size) (.slice ra rs.length rc) (rs)) := OR5.out.keptD d (by omega)
 clear BR5 D5 BX5 OR5
 clear d hws
 have OW6 : Hid (GOwn encW 55 v6 (v5.heap.size) (.slice wa ws.length wc) (ws)) := ho
 clear ho
 have c4 := BX6.out.c4
 have f4 := BX6.out.fz 4
 have c5 := BX6.out.c5
 have f5 := BX6.out.fz 5
 have c1 := BX6.out.c1
 go_upto_region 7 with fail
 clear c4 f4 c5 f5 c1
 have BR7 : Hid (Bx (v6.setCell ⟨v3.heap.size, 4, none⟩ (.slice ra rs.length rc)) (w.heap.size) [.int .i64 0, .int .i64 0, .int .i64 0, .int .i64 0, .slice none 0 0, .slice none 0 0, .bool false, .string ⟨#[]⟩]) := BR6.out.setO (p := ⟨v3.heap.size, 4, none⟩) (by show v3.heap.size ≠ w.heap.size; omega) _
 have D7 : Hid (Dn w (v6.setCell ⟨v3.heap.size, 4, none⟩ (.slice ra rs.length rc)) g a len cap) := D6.out.set (p := ⟨v3.heap.size, 4, none⟩) (by show w.heap.size ≤ v3.heap.size; omega) _
 have BX7 : Hid (Bx (v6.setCell ⟨v3.heap.size, 4, none⟩ (.slice ra rs.length rc)) (v3.heap.size) [.int .i64 (1 + (n1 : Int)), .int .i64 (1 + (n2 : Int)), .int .i64 (n3 : Int), .int .i64 0, .slice ra rs.length rc, .slice none 0 0, .bool false, .string ⟨#[]⟩]) := BX6.out.set 4 _
 have OR7 : Hid (GOwn encR 35 (v6.setCell ⟨v3.heap.size, 4, none⟩ (.slice ra rs.length rc)) (v4.heap.size) (.slice ra rs.length rc) (rs)) := own_setP OR6.out (a := ⟨v3.heap.size, 4, none⟩) (fun b hb => (by have := (World.ownsRow.lt OR6.out b hb).1; show v3.heap.size ≠ b; omega)) _
 have OW7 : Hid (GOwn encW 55 (v6.setCell ⟨v3.heap.size, 4, none⟩ (.slice ra rs.length rc)) (v5.heap.size) (.slice wa ws.length wc) (ws)) := own_setP OW6.out (a := ⟨v3.heap.size, 4, none⟩) (fun b hb => (by have := (World.ownsRow.lt OW6.out b hb).1; show v3.heap.size ≠ b; omega)) _
 clear BR6 D6 BX6 OR6 OW6
 have BR8 : Hid (Bx ((v6.setCell ⟨v3.heap.size, 4, none⟩ (.slice ra rs.length rc)).setCell ⟨v3.heap.size, 5, none⟩ (.slice wa ws.length wc)) (w.heap.size) [.int .i64 0, .int .i64 0, .int .i64 0, .int .i64 0, .slice none 0 0, .slice none 0 0, .bool false, .string ⟨#[]⟩]) := BR7.out.setO (p := ⟨v3.heap.size, 5, none⟩) (by show v3.heap.size ≠ w.heap.size; omega) _
 have D8 : Hid (Dn w ((v6.setCell ⟨v3.heap.size, 4, none⟩ (.slice ra rs.length rc)).setCell ⟨v3.heap.size, 5, none⟩ (.slice wa ws.length wc)) g a len cap) := D7.out.set (p := ⟨v3.heap.size, 5, none⟩) (by show w.heap.size ≤ v3.heap.size; omega) _
 have BX8 : Hid (Bx ((v6.setCell ⟨v3.heap.size, 4, none⟩ (.slice ra rs.length rc)).setCell ⟨v3.heap.size, 5, none⟩ (.slice wa ws.length wc)) (v3.heap.size) [.int .i64 (1 + (n1 : Int)), .int .i64 (1 + (n2 : Int)), .int .i64 (n3 : Int), .int .i64 0, .slice ra rs.length rc, .slice wa ws.length wc, .bool false, .string ⟨#[]⟩]) := BX7.out.set 5 _
 have OR8 : Hid (GOwn encR 35 ((v6.setCell ⟨v3.heap.size, 4, none⟩ (.slice ra rs.length rc)).setCell ⟨v3.heap.size, 5, none⟩ (.slice wa ws.length wc)) (v4.heap.size) (.slice ra rs.length rc) (rs)) := own_setP OR7.out (a := ⟨v3.heap.size, 5, none⟩) (fun b hb => (by have := (World.ownsRow.lt OR7.out b hb).1; show v3.heap.size ≠ b; omega)) _
 have OW8 : Hid (GOwn encW 55 ((v6.setCell ⟨v3.heap.size, 4, none⟩ (.slice ra rs.length rc)).setCell ⟨v3.heap.size, 5, none⟩ (.slice wa ws.length wc)) (v5.heap.size) (.slice wa ws.length wc) (ws)) := own_setP OW7.out (a := ⟨v3.heap.size, 5, none⟩) (fun b hb => (by have := (World.ownsRow.lt OW7.out b hb).1; show v3.heap.size ≠ b; omega)) _
 clear BR7 D7 BX7 OR7 OW7
 generalize ((v6.setCell ⟨v3.heap.size, 4, none⟩ (.slice ra rs.length rc)).setCell ⟨v3.heap.size, 5, none⟩ (.slice wa ws.length wc)) = v7 at *
 rcases (by omega : n2 = 0 ∨ n2 = 1 ∨ n2 = 2) with h1 | h2 | h3
 ·subst h1
  go_upto_region 13 with fail
  have o0 := BX8.out.c0
  have q0_ := BR8.out.c0
  have fq0 := BR8.out.fz 0
  have o1 := BX8.out.c1
  have q1_ := BR8.out.c1
  have fq1 := BR8.out.fz 1
  have o2 := BX8.out.c2
  have q2_ := BR8.out.c2
  have fq2 := BR8.out.fz 2
  have o3 := BX8.out.c3
  have q3_ := BR8.out.c3
  have fq3 := BR8.out.fz 3
  have o4 := BX8.out.c4
  have q4_ := BR8.out.c4
  have fq4 := BR8.out.fz 4
  have o5 := BX8.out.c5
  have q5_ := BR8.out.c5
  have fq5 := BR8.out.fz 5
  have o6 := BX8.out.c6
  have q6_ := BR8.out.c6
  have fq6 := BR8.out.fz 6
  have o7 := BX8.out.c7
  have q7_ := BR8.out.c7
  have fq7 := BR8.out.fz 7
  go_wp2
  refine bodyPost_ret (v := .agg #[.int .i64 (1 + (n1 : Int)), .int .i64 (1 + ((0 : Nat) : Int)), .int .i64 (n3 : Int), .int .i64 0, .slice ra rs.length rc, .slice wa ws.length wc, .bool false, .string ⟨#[]⟩]) (by simp [results, Tryz.results29, go_sem, q0_, q1_, q2_, q3_, q4_, q5_, q6_, q7_]) rfl ⟨⟨1 + n1, 1 + ((0 : Nat) : Int), n3, 0, rs, ws, false, ⟨#[]⟩⟩, ra, rc, wa, wc, ⟨HWS.out, hwl, HRS.out, hrl, by show (⟨#[]⟩ : ByteArray).size ≤ 1048576; decide, by show 1 ≤ 1 + (n1 : Int) ∧ 1 + (n1 : Int) ≤ 6; omega⟩, rfl, ?_, ?_, ?_⟩
  ·exact (own_s8P OR8.out (by omega) _ _ _ _ _ _ _ _).mono (by omega)
  ·exact (own_s8P OW8.out (by omega) _ _ _ _ _ _ _ _).mono (by omega)
  ·exact D8.out.belowB (below_s8P (Below.refl _ _) (Nat.le_refl _) _ _ _ _ _ _ _ _)
 ·subst h2
  have e2 : (1 : Int) + ((1 : Nat) : Int) = 2 := by omega
  go_wp2_with fail
  refine (drKey g len cap a _ D8.out.c).mono ?_
  rintro e v8 ⟨k, hk, rfl, d⟩
  have BR9 : Hid (Bx v8 (w.heap.size) [.int .i64 0, .int .i64 0, .int .i64 0, .int .i64 0, .slice none 0 0, .slice none 0 0, .bool false, .string ⟨#[]⟩]) := BR8.out.keptD d (by omega)
  have D9 : Hid (Dn w v8 g a len cap) := D8.out.step d
  have BX9 : Hid (Bx v8 (v3.heap.size) [.int .i64 (1 + (n1 : Int)), .int .i64 (1 + ((1 : Nat) : Int)), .int .i64 (n3 : Int), .int .i64 0, .slice ra rs.length rc, .slice wa ws.length wc, .bool false, .string ⟨#[]⟩]) := BX8.out.keptD d (by omega)
  have OR9 : Hid (GOwn encR 35 v8 (v4.heap.size) (.slice ra rs.length rc) (rs)) := OR8.out.keptD d (by omega)
  have OW9 : Hid (GOwn encW 55 v8 (v5.heap.size) (.slice wa ws.length wc) (ws)) := OW8.out.keptD d (by omega)
  clear BR8 D8 BX8 OR8 OW8
  clear d
  have HKN : Hid (k.size ≤ 1048576) := by have := hk.2; show _ ≤ _; omega
  clear hk
  have c7 := BX9.out.c7
  have f7 := BX9.out.fz 7
  go_wp2_with fail
  clear c7 f7
  have BR10 : Hid (Bx (v8.setCell ⟨v3.heap.size, 7, none⟩ (.string k)) (w.heap.size) [.int .i64 0, .int .i64 0, .int .i64 0, .int .i64 0, .slice none 0 0, .slice none 0 0, .bool false, .string ⟨#[]⟩]) := BR9.out.setO (p := ⟨v3.heap.size, 7, none⟩) (by show v3.heap.size ≠ w.heap.size; omega) _
  have D10 : Hid (Dn w (v8.setCell ⟨v3.heap.size, 7, none⟩ (.string k)) g a len cap) := D9.out.set (p := ⟨v3.heap.size, 7, none⟩) (by show w.heap.size ≤ v3.heap.size; omega) _
  have BX10 : Hid (Bx (v8.setCell ⟨v3.heap.size, 7, none⟩ (.string k)) (v3.heap.size) [.int .i64 (1 + (n1 : Int)), .int .i64 (1 + ((1 : Nat) : Int)), .int .i64 (n3 : Int), .int .i64 0, .slice ra rs.length rc, .slice wa ws.length wc, .bool false, .string k]) := BX9.out.set 7 _
  have OR10 : Hid (GOwn encR 35 (v8.setCell ⟨v3.heap.size, 7, none⟩ (.string k)) (v4.heap.size) (.slice ra rs.length rc) (rs)) := own_setP OR9.out (a := ⟨v3.heap.size, 7, none⟩) (fun b hb => (by have := (World.ownsRow.lt OR9.out b hb).1; show v3.heap.size ≠ b; omega)) _
  have OW10 : Hid (GOwn encW 55 (v8.setCell ⟨v3.heap.size, 7, none⟩ (.string k)) (v5.heap.size) (.slice wa ws.length wc) (ws)) := own_setP OW9.out (a := ⟨v3.heap.size, 7, none⟩) (fun b hb => (by have := (World.ownsRow.lt OW9.out b hb).1; show v3.heap.size ≠ b; omega)) _
  clear BR9 D9 BX9 OR9 OW9
  generalize (v8.setCell ⟨v3.heap.size, 7, none⟩ (.string k)) = v9 at *
  refine (drOnce g len cap a 2 (by omega) (by omega) _ D10.out.c).mono ?_
  rintro e vA ⟨o, rfl, d⟩
  have BR11 : Hid (Bx vA (w.heap.size) [.int .i64 0, .int .i64 0, .int .i64 0, .int .i64 0, .slice none 0 0, .slice none 0 0, .bool false, .string ⟨#[]⟩]) := BR10.out.keptD d (by omega)
  have D11 : Hid (Dn w vA g a len cap) := D10.out.step d
  have BX11 : Hid (Bx vA (v3.heap.size) [.int .i64 (1 + (n1 : Int)), .int .i64 (1 + ((1 : Nat) : Int)), .int .i64 (n3 : Int), .int .i64 0, .slice ra rs.length rc, .slice wa ws.length wc, .bool false, .string k]) := BX10.out.keptD d (by omega)
  have OR11 : Hid (GOwn encR 35 vA (v4.heap.size) (.slice ra rs.length rc) (rs)) := OR10.out.keptD d (by omega)
  have OW11 : Hid (GOwn encW 55 vA (v5.heap.size) (.slice wa ws.length wc) (ws)) := OW10.out.keptD d (by omega)
  clear BR10 D10 BX10 OR10 OW10
  clear d
  have c6 := BX11.out.c6
  have f6 := BX11.out.fz 6
  go_upto_region 13 with fail
  clear c6 f6
  have BR12 : Hid (Bx (vA.setCell ⟨v3.heap.size, 6, none⟩ (.bool o)) (w.heap.size) [.int .i64 0, .int .i64 0, .int .i64 0, .int .i64 0, .slice none 0 0, .slice none 0 0, .bool false, .string ⟨#[]⟩]) := BR11.out.setO (p := ⟨v3.heap.size, 6, none⟩) (by show v3.heap.size ≠ w.heap.size; omega) _
  have D12 : Hid (Dn w (vA.setCell ⟨v3.heap.size, 6, none⟩ (.bool o)) g a len cap) := D11.out.set (p := ⟨v3.heap.size, 6, none⟩) (by show w.heap.size ≤ v3.heap.size; omega) _
  have BX12 : Hid (Bx (vA.setCell ⟨v3.heap.size, 6, none⟩ (.bool o)) (v3.heap.size) [.int .i64 (1 + (n1 : Int)), .int .i64 (1 + ((1 : Nat) : Int)), .int .i64 (n3 : Int), .int .i64 0, .slice ra rs.length rc, .slice wa ws.length wc, .bool o, .string k]) := BX11.out.set 6 _
  have OR12 : Hid (GOwn encR 35 (vA.setCell ⟨v3.heap.size, 6, none⟩ (.bool o)) (v4.heap.size) (.slice ra rs.length rc) (rs)) := own_setP OR11.out (a := ⟨v3.heap.size, 6, none⟩) (fun b hb => (by have := (World.ownsRow.lt OR11.out b hb).1; show v3.heap.size ≠ b; omega)) _
  have OW12 : Hid (GOwn encW 55 (vA.setCell ⟨v3.heap.size, 6, none⟩ (.bool o)) (v5.heap.size) (.slice wa ws.length wc) (ws)) := own_setP OW11.out (a := ⟨v3.heap.size, 6, none⟩) (fun b hb => (by have := (World.ownsRow.lt OW11.out b hb).1; show v3.heap.size ≠ b; omega)) _
  clear BR11 D11 BX11 OR11 OW11
  generalize (vA.setCell ⟨v3.heap.size, 6, none⟩ (.bool o)) = vB at *
  have o0 := BX12.out.c0
  have q0_ := BR12.out.c0
  have fq0 := BR12.out.fz 0
  have o1 := BX12.out.c1
  have q1_ := BR12.out.c1
  have fq1 := BR12.out.fz 1
  have o2 := BX12.out.c2
  have q2_ := BR12.out.c2
  have fq2 := BR12.out.fz 2
  have o3 := BX12.out.c3
  have q3_ := BR12.out.c3
  have fq3 := BR12.out.fz 3
  have o4 := BX12.out.c4
  have q4_ := BR12.out.c4
  have fq4 := BR12.out.fz 4
  have o5 := BX12.out.c5
  have q5_ := BR12.out.c5
  have fq5 := BR12.out.fz 5
  have o6 := BX12.out.c6
  have q6_ := BR12.out.c6
  have fq6 := BR12.out.fz 6
  have o7 := BX12.out.c7
  have q7_ := BR12.out.c7
  have fq7 := BR12.out.fz 7
  go_wp2
  refine bodyPost_ret (v := .agg #[.int .i64 (1 + (n1 : Int)), .int .i64 (1 + ((1 : Nat) : Int)), .int .i64 (n3 : Int), .int .i64 0, .slice ra rs.length rc, .slice wa ws.length wc, .bool o, .string k]) (by simp [results, Tryz.results29, go_sem, q0_, q1_, q2_, q3_, q4_, q5_, q6_, q7_]) rfl ⟨⟨1 + n1, 1 + ((1 : Nat) : Int), n3, 0, rs, ws, o, k⟩, ra, rc, wa, wc, ⟨HWS.out, hwl, HRS.out, hrl, HKN.out, by show 1 ≤ 1 + (n1 : Int) ∧ 1 + (n1 : Int) ≤ 6; omega⟩, rfl, ?_, ?_, ?_⟩
  ·exact (own_s8P OR12.out (by omega) _ _ _ _ _ _ _ _).mono (by omega)
  ·exact (own_s8P OW12.out (by omega) _ _ _ _ _ _ _ _).mono (by omega)
  ·exact D12.out.belowB (below_s8P (Below.refl _ _) (Nat.le_refl _) _ _ _ _ _ _ _ _)
 ·subst h3
  have e3 : (1 : Int) + ((2 : Nat) : Int) = 3 := by omega
  have ew1 : IntKind.i64.wrap ((n3 : Int) + 1) = (n3 : Int) + 1 := by rw [IntKind.wrap_i64]; omega
  go_wp2
  refine wp_region_held_drew (S := fun w' => w'.cell? ⟨v3.heap.size, 2, none⟩ = some (.int .i64 (n3 : Int))) (by kernel_rfl) BX8.out.c2 (fun hHeld => ?_)
  (refine tk 0 ?_ rfl (Or.inl ⟨by rfl, ?_⟩) ?_; rotate_left; (focus (intro w h; (try dsimp only at h); go_simp; (try with_reducible rfl))); simp only [Act.put, tA, tB, tD, tE, tF])
  (refine tk 1 ?_ rfl (Or.inl ⟨by rfl, ?_⟩) ?_; rotate_left; (focus (intro w h; (try dsimp only at h); go_simp; (try with_reducible rfl))); simp only [Act.put, tA, tB, tC, tD, tE, tF])
  (refine tk 2 ?_ rfl (Or.inl ⟨by rfl, ?_⟩) ?_; rotate_left; (focus (intro w h; (try dsimp only at h); go_simp; (try with_reducible rfl))); simp only [Act.put, tA, tB, tC, tD, tE, tF])
  (refine tk 3 ?_ rfl (Or.inl ⟨by rfl, ?_⟩) ?_; rotate_left; (focus (intro w h; (try dsimp only at h); go_simp; (try with_reducible rfl))); simp only [Act.put, tA, tB, tC, tD, tE, tF])
  refine wpAnyH_ready (rs := [4]) (by kernel_rfl) (by simp) ?_
  refine AllReadyH.cons rfl (fun K hK => ?_) AllReadyH.nil
  go_simp
  go_wp2_with fail
  have BR9 : Hid (Bx v7.drew (w.heap.size) [.int .i64 0, .int .i64 0, .int .i64 0, .int .i64 0, .slice none 0 0, .slice none 0 0, .bool false, .string ⟨#[]⟩]) := BR8.out.below (belowRefl v7).drew
  have D9 : Hid (Dn w v7.drew g a len cap) := D8.out.below (belowRefl v7).drew
  have BX9 : Hid (Bx v7.drew (v3.heap.size) [.int .i64 (1 + (n1 : Int)), .int .i64 (1 + ((2 : Nat) : Int)), .int .i64 (n3 : Int), .int .i64 0, .slice ra rs.length rc, .slice wa ws.length wc, .bool false, .string ⟨#[]⟩]) := BX8.out.below (belowRefl v7).drew
  have OR9 : Hid (GOwn encR 35 v7.drew (v4.heap.size) (.slice ra rs.length rc) (rs)) := OR8.out.below (belowRefl v7).drew
  have OW9 : Hid (GOwn encW 55 v7.drew (v5.heap.size) (.slice wa ws.length wc) (ws)) := OW8.out.below (belowRefl v7).drew
  clear BR8 D8 BX8 OR8 OW8
  clear hHeld
  generalize v7.drew = v8 at *
  refine (drBelow g len cap a 4 (by omega) (by omega) _ D9.out.c).mono ?_
  rintro e v9 ⟨n4, hn4, rfl, d⟩
  have BR10 : Hid (Bx v9 (w.heap.size) [.int .i64 0, .int .i64 0, .int .i64 0, .int .i64 0, .slice none 0 0, .slice none 0 0, .bool false, .string ⟨#[]⟩]) := BR9.out.keptD d (by omega)
  have D10 : Hid (Dn w v9 g a len cap) := D9.out.step d
  have BX10 : Hid (Bx v9 (v3.heap.size) [.int .i64 (1 + (n1 : Int)), .int .i64 (1 + ((2 : Nat) : Int)), .int .i64 (n3 : Int), .int .i64 0, .slice ra rs.length rc, .slice wa ws.length wc, .bool false, .string ⟨#[]⟩]) := BX9.out.keptD d (by omega)
  have OR10 : Hid (GOwn encR 35 v9 (v4.heap.size) (.slice ra rs.length rc) (rs)) := OR9.out.keptD d (by omega)
  have OW10 : Hid (GOwn encW 55 v9 (v5.heap.size) (.slice wa ws.length wc) (ws)) := OW9.out.keptD d (by omega)
  clear BR9 D9 BX9 OR9 OW9
  clear d
  have ew2 : IntKind.i64.wrap ((n3 : Int) + 1 + (n4 : Int)) = (n3 : Int) + 1 + (n4 : Int) := by rw [IntKind.wrap_i64]; omega
  go_wp2_with fail
  refine hK.out _ _ BX10.out.c2 (fun hHeld2 => ?_)
  clear hK K
  (refine tk 5 ?_ rfl (Or.inl ⟨by rfl, ?_⟩) ?_; rotate_left; (focus (intro w h; (try dsimp only at h); go_simp; (try with_reducible rfl))); simp only [Act.put, tA, tB, tC, tD, tE, tF])
  (refine tk 6 ?_ rfl (Or.inl ⟨by rfl, ?_⟩) ?_; rotate_left; (focus (intro w h; (try dsimp only at h); go_simp; (try with_reducible rfl))); simp only [Act.put, tA, tB, tC, tD, tE, tF])
  have c3 := BX10.out.c3
  have f3 := BX10.out.fz 3
  refine wpAnyH_ready (rs := [7]) (by kernel_rfl) (by simp) ?_
  refine AllReadyH.cons rfl (fun K hK => ?_) AllReadyH.nil
  go_simp
  clear c3 f3
  have BR11 : Hid (Bx (v9.setCell ⟨v3.heap.size, 3, none⟩ (.int .i64 ((n3 : Int) + 1 + (n4 : Int)))) (w.heap.size) [.int .i64 0, .int .i64 0, .int .i64 0, .int .i64 0, .slice none 0 0, .slice none 0 0, .bool false, .string ⟨#[]⟩]) := BR10.out.setO (p := ⟨v3.heap.size, 3, none⟩) (by show v3.heap.size ≠ w.heap.size; omega) _
  have D11 : Hid (Dn w (v9.setCell ⟨v3.heap.size, 3, none⟩ (.int .i64 ((n3 : Int) + 1 + (n4 : Int)))) g a len cap) := D10.out.set (p := ⟨v3.heap.size, 3, none⟩) (by show w.heap.size ≤ v3.heap.size; omega) _
  have BX11 : Hid (Bx (v9.setCell ⟨v3.heap.size, 3, none⟩ (.int .i64 ((n3 : Int) + 1 + (n4 : Int)))) (v3.heap.size) [.int .i64 (1 + (n1 : Int)), .int .i64 (1 + ((2 : Nat) : Int)), .int .i64 (n3 : Int), .int .i64 ((n3 : Int) + 1 + (n4 : Int)), .slice ra rs.length rc, .slice wa ws.length wc, .bool false, .string ⟨#[]⟩]) := BX10.out.set 3 _
  have OR11 : Hid (GOwn encR 35 (v9.setCell ⟨v3.heap.size, 3, none⟩ (.int .i64 ((n3 : Int) + 1 + (n4 : Int)))) (v4.heap.size) (.slice ra rs.length rc) (rs)) := own_setP OR10.out (a := ⟨v3.heap.size, 3, none⟩) (fun b hb => (by have := (World.ownsRow.lt OR10.out b hb).1; show v3.heap.size ≠ b; omega)) _
  have OW11 : Hid (GOwn encW 55 (v9.setCell ⟨v3.heap.size, 3, none⟩ (.int .i64 ((n3 : Int) + 1 + (n4 : Int)))) (v5.heap.size) (.slice wa ws.length wc) (ws)) := own_setP OW10.out (a := ⟨v3.heap.size, 3, none⟩) (fun b hb => (by have := (World.ownsRow.lt OW10.out b hb).1; show v3.heap.size ≠ b; omega)) _
  clear BR10 D10 BX10 OR10 OW10
  refine hK.out _ _ BX11.out.c2 (fun hHeld3 => ?_)
  clear hK K hHeld2
  refine wpAnyH_done (by kernel_rfl) ?_ _
  clear hHeld3
  generalize (v9.setCell ⟨v3.heap.size, 3, none⟩ (.int .i64 ((n3 : Int) + 1 + (n4 : Int)))) = vA at *
  go_wp2_with fail
  refine (drOnce g len cap a 2 (by omega) (by omega) _ D11.out.c).mono ?_
  rintro e vB ⟨o, rfl, d⟩
  have BR12 : Hid (Bx vB (w.heap.size) [.int .i64 0, .int .i64 0, .int .i64 0, .int .i64 0, .slice none 0 0, .slice none 0 0, .bool false, .string ⟨#[]⟩]) := BR11.out.keptD d (by omega)
  have D12 : Hid (Dn w vB g a len cap) := D11.out.step d
  have BX12 : Hid (Bx vB (v3.heap.size) [.int .i64 (1 + (n1 : Int)), .int .i64 (1 + ((2 : Nat) : Int)), .int .i64 (n3 : Int), .int .i64 ((n3 : Int) + 1 + (n4 : Int)), .slice ra rs.length rc, .slice wa ws.length wc, .bool false, .string ⟨#[]⟩]) := BX11.out.keptD d (by omega)
  have OR12 : Hid (GOwn encR 35 vB (v4.heap.size) (.slice ra rs.length rc) (rs)) := OR11.out.keptD d (by omega)
  have OW12 : Hid (GOwn encW 55 vB (v5.heap.size) (.slice wa ws.length wc) (ws)) := OW11.out.keptD d (by omega)
  clear BR11 D11 BX11 OR11 OW11
  clear d
  have c6 := BX12.out.c6
  have f6 := BX12.out.fz 6
  go_upto_region 13 with fail
  clear c6 f6
  have BR13 : Hid (Bx (vB.setCell ⟨v3.heap.size, 6, none⟩ (.bool o)) (w.heap.size) [.int .i64 0, .int .i64 0, .int .i64 0, .int .i64 0, .slice none 0 0, .slice none 0 0, .bool false, .string ⟨#[]⟩]) := BR12.out.setO (p := ⟨v3.heap.size, 6, none⟩) (by show v3.heap.size ≠ w.heap.size; omega) _
  have D13 : Hid (Dn w (vB.setCell ⟨v3.heap.size, 6, none⟩ (.bool o)) g a len cap) := D12.out.set (p := ⟨v3.heap.size, 6, none⟩) (by show w.heap.size ≤ v3.heap.size; omega) _
  have BX13 : Hid (Bx (vB.setCell ⟨v3.heap.size, 6, none⟩ (.bool o)) (v3.heap.size) [.int .i64 (1 + (n1 : Int)), .int .i64 (1 + ((2 : Nat) : Int)), .int .i64 (n3 : Int), .int .i64 ((n3 : Int) + 1 + (n4 : Int)), .slice ra rs.length rc, .slice wa ws.length wc, .bool o, .string ⟨#[]⟩]) := BX12.out.set 6 _
  have OR13 : Hid (GOwn encR 35 (vB.setCell ⟨v3.heap.size, 6, none⟩ (.bool o)) (v4.heap.size) (.slice ra rs.length rc) (rs)) := own_setP OR12.out (a := ⟨v3.heap.size, 6, none⟩) (fun b hb => (by have := (World.ownsRow.lt OR12.out b hb).1; show v3.heap.size ≠ b; omega)) _
  have OW13 : Hid (GOwn encW 55 (vB.setCell ⟨v3.heap.size, 6, none⟩ (.bool o)) (v5.heap.size) (.slice wa ws.length wc) (ws)) := own_setP OW12.out (a := ⟨v3.heap.size, 6, none⟩) (fun b hb => (by have := (World.ownsRow.lt OW12.out b hb).1; show v3.heap.size ≠ b; omega)) _
  clear BR12 D12 BX12 OR12 OW12
  generalize (vB.setCell ⟨v3.heap.size, 6, none⟩ (.bool o)) = vC at *
  have o0 := BX13.out.c0
  have q0_ := BR13.out.c0
  have fq0 := BR13.out.fz 0
  have o1 := BX13.out.c1
  have q1_ := BR13.out.c1
  have fq1 := BR13.out.fz 1
  have o2 := BX13.out.c2
  have q2_ := BR13.out.c2
  have fq2 := BR13.out.fz 2
  have o3 := BX13.out.c3
  have q3_ := BR13.out.c3
  have fq3 := BR13.out.fz 3
  have o4 := BX13.out.c4
  have q4_ := BR13.out.c4
  have fq4 := BR13.out.fz 4
  have o5 := BX13.out.c5
  have q5_ := BR13.out.c5
  have fq5 := BR13.out.fz 5
  have o6 := BX13.out.c6
  have q6_ := BR13.out.c6
  have fq6 := BR13.out.fz 6
  have o7 := BX13.out.c7
  have q7_ := BR13.out.c7
  have fq7 := BR13.out.fz 7
  go_wp2
  refine bodyPost_ret (v := .agg #[.int .i64 (1 + (n1 : Int)), .int .i64 (1 + ((2 : Nat) : Int)), .int .i64 (n3 : Int), .int .i64 ((n3 : Int) + 1 + (n4 : Int)), .slice ra rs.length rc, .slice wa ws.length wc, .bool o, .string ⟨#[]⟩]) (by simp [results, Tryz.results29, go_sem, q0_, q1_, q2_, q3_, q4_, q5_, q6_, q7_]) rfl ⟨⟨1 + n1, 1 + ((2 : Nat) : Int), n3, n3 + 1 + n4, rs, ws, o, ⟨#[]⟩⟩, ra, rc, wa, wc, ⟨HWS.out, hwl, HRS.out, hrl, by show (⟨#[]⟩ : ByteArray).size ≤ 1048576; decide, by show 1 ≤ 1 + (n1 : Int) ∧ 1 + (n1 : Int) ≤ 6; omega⟩, rfl, ?_, ?_, ?_⟩
  ·exact (own_s8P OR13.out (by omega) _ _ _ _ _ _ _ _).mono (by omega)
  ·exact (own_s8P OW13.out (by omega) _ _ _ _ _ _ _ _).mono (by omega)
  ·exact D13.out.belowB (below_s8P (Below.refl _ _) (Nat.le_refl _) _ _ _ _ _ _ _ _)

end Go.Proofs.YtbajpnbodhhmjaaGreat

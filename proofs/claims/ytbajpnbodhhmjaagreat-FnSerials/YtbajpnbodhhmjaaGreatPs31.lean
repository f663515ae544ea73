/- Drawn ones that look and change, changed in one place: l07Any. -/
import Derived.Test.YtbajpnbodhhmjaaGreatPs01
import Derived.Test.YtbajpnbodhhmjaaGreatPs30
namespace Go.Proofs.YtbajpnbodhhmjaaGreat
open Go.RowKit
open KM
attribute [local go_sem ↓] Go.wp_at_zero Go.wp_at_succ

set_option maxRecDepth 100000 in
set_option maxHeartbeats 4000000 in
theorem drAnyT (g len cap : Nat) (a : Option Addr) (w : World) (hc : CurI w g a len cap) :
  Calls Tryz.prog 62 #[.pointer (some ⟨g, 0, none⟩)] w fun e w' => ∃ (t : Tx) (ra : Option Addr) (rc : Nat) (wa : Option Addr) (wc : Nat), TxA t ∧ e = .returned (.agg #[.int .i64 t.id, .int .i64 t.st, .int .i64 t.snap, .int .i64 t.cs, .slice ra t.rs.length rc, .slice wa t.ws.length wc, .bool t.out, .string t.nm]) ∧ GOwn encR 35 w' w.heap.size (.slice ra t.rs.length rc) t.rs ∧ GOwn encW 55 w' w.heap.size (.slice wa t.ws.length wc) t.ws ∧ Dn w w' g a len cap := by
 have hgl : g < w.heap.size := hc.lt
 have BR0 : Hid (Bx (w.alloc (.cells #[.int .i64 0, .int .i64 0, .int .i64 0, .int .i64 0, .slice none 0 0, .slice none 0 0, .bool false, .string ⟨#[]⟩] 30)) (w.heap.size) [.int .i64 0, .int .i64 0, .int .i64 0, .int .i64 0, .slice none 0 0, .slice none 0 0, .bool false, .string ⟨#[]⟩]) := Bx.new w [.int .i64 0, .int .i64 0, .int .i64 0, .int .i64 0, .slice none 0 0, .slice none 0 0, .bool false, .string ⟨#[]⟩] 30
 have D0 : Hid (Dn w (w.alloc (.cells #[.int .i64 0, .int .i64 0, .int .i64 0, .int .i64 0, .slice none 0 0, .slice none 0 0, .bool false, .string ⟨#[]⟩] 30)) g a len cap) := (Dn.start hc).alloc _
 clear hc
 go_enter Tryz.func62, Tryz.ntmps62
 go_wp2_with fail
 generalize (w.alloc (.cells #[.int .i64 0, .int .i64 0, .int .i64 0, .int .i64 0, .slice none 0 0, .slice none 0 0, .bool false, .string ⟨#[]⟩] 30)) = v0 at *
 refine (drBelow g len cap a 12 (by omega) (by omega) _ D0.out.c).mono ?_
 rintro e v1 ⟨n1, hn1, rfl, d⟩
 have BR1 : Hid (Bx v1 (w.heap.size) [.int .i64 0, .int .i64 0, .int .i64 0, .int .i64 0, .slice none 0 0, .slice none 0 0, .bool false, .string ⟨#[]⟩]) := BR0.out.keptD d (by omega)
 have D1 : Hid (Dn w v1 g a len cap) := D0.out.step d
 clear BR0 D0
 clear d
 go_wp2_with fail
 refine (drBelow g len cap a 60 (by omega) (by omega) _ D1.out.c).mono ?_
 rintro e v2 ⟨n2, hn2, rfl, d⟩
 have BR2 : Hid (Bx v2 (w.heap.size) [.int .i64 0, .int .i64 0, .int .i64 0, .int .i64 0, .slice none 0 0, .slice none 0 0, .bool false, .string ⟨#[]⟩]) := BR1.out.keptD d (by omega)
 have D2 : Hid (Dn w v2 g a len cap) := D1.out.step d
 clear BR1 D1
 clear d
 go_wp2_with fail
 have hV2 : w.heap.size < v2.heap.size := BR2.out.lt
 refine (drTxn g len cap a _ D2.out.c).mono ?_
 rintro e v3 ⟨t, ra0, rc0, wa0, wc0, ht, rfl, ho1, ho2, d⟩
 have HT := hide ht
 have BR3 : Hid (Bx v3 (w.heap.size) [.int .i64 0, .int .i64 0, .int .i64 0, .int .i64 0, .slice none 0 0, .slice none 0 0, .bool false, .string ⟨#[]⟩]) := BR2.out.keptD d (by omega)
 have D3 : Hid (Dn w v3 g a len cap) := D2.out.step d
 clear BR2 D2
 have hV3 : v2.heap.size ≤ v3.heap.size := d.size
 clear d ht
 go_wp2_with fail
 refine (scopyT t ra0 wa0 rc0 wc0 _ _ (Nat.le_trans HT.out.rl (by omega)) (Nat.le_trans HT.out.wl (by omega)) _ ho1 ho2).mono ?_
 rintro e v4 ⟨ra, rc, wa, wc, rfl, hl, hb⟩
 obtain ⟨m, hm1, hm2, l1, l2⟩ := hl.ex
 have BR4 : Hid (Bx v4 (w.heap.size) [.int .i64 0, .int .i64 0, .int .i64 0, .int .i64 0, .slice none 0 0, .slice none 0 0, .bool false, .string ⟨#[]⟩]) := BR3.out.below hb
 have D4 : Hid (Dn w v4 g a len cap) := D3.out.below hb
 clear BR3 D3
 have hV4 : v3.heap.size ≤ v4.heap.size := hb.size
 have OR4 : Hid (Lies encR 35 v4 (v3.heap.size) (m) (.slice ra t.rs.length rc) (t.rs)) := l1
 have OW4 : Hid (Lies encW 55 v4 (m) (v4.heap.size) (.slice wa t.ws.length wc) (t.ws)) := l2
 clear hb hl l1 l2 ho1 ho2
 have hb : Below v4.heap.size v4 (v4.alloc (.cells #[.int .i64 t.id, .int .i64 t.st, .int .i64 t.snap, .int .i64 t.cs, .slice ra t.rs.length rc, .slice wa t.ws.length wc, .bool t.out, .string t.nm] 30)) := (belowRefl v4).alloc (Nat.le_refl _) _
 go_upto_region 4 with fail
 have BR5 : Hid (Bx (v4.alloc (.cells #[.int .i64 t.id, .int .i64 t.st, .int .i64 t.snap, .int .i64 t.cs, .slice ra t.rs.length rc, .slice wa t.ws.length wc, .bool t.out, .string t.nm] 30)) (w.heap.size) [.int .i64 0, .int .i64 0, .int .i64 0, .int .i64 0, .slice none 0 0, .slice none 0 0, .bool false, .string ⟨#[]⟩]) := BR4.out.below hb
 have D5 : Hid (Dn w (v4.alloc (.cells #[.int .i64 t.id, .int .i64 t.st, .int .i64 t.snap, .int .i64 t.cs, .slice ra t.rs.length rc, .slice wa t.ws.length wc, .bool t.out, .string t.nm] 30)) g a len cap) := D4.out.below hb
 have OR5 : Hid (Lies encR 35 (v4.alloc (.cells #[.int .i64 t.id, .int .i64 t.st, .int .i64 t.snap, .int .i64 t.cs, .slice ra t.rs.length rc, .slice wa t.ws.length wc, .bool t.out, .string t.nm] 30)) (v3.heap.size) (m) (.slice ra t.rs.length rc) (t.rs)) := OR4.out.below hb
 have OW5 : Hid (Lies encW 55 (v4.alloc (.cells #[.int .i64 t.id, .int .i64 t.st, .int .i64 t.snap, .int .i64 t.cs, .slice ra t.rs.length rc, .slice wa t.ws.length wc, .bool t.out, .string t.nm] 30)) (m) (v4.heap.size) (.slice wa t.ws.length wc) (t.ws)) := OW4.out.below hb
 clear BR4 D4 OR4 OW4
 have BX5 : Hid (Bx (v4.alloc (.cells #[.int .i64 t.id, .int .i64 t.st, .int .i64 t.snap, .int .i64 t.cs, .slice ra t.rs.length rc, .slice wa t.ws.length wc, .bool t.out, .string t.nm] 30)) (v4.heap.size) [.int .i64 t.id, .int .i64 t.st, .int .i64 t.snap, .int .i64 t.cs, .slice ra t.rs.length rc, .slice wa t.ws.length wc, .bool t.out, .string t.nm]) := Bx.new v4 [.int .i64 t.id, .int .i64 t.st, .int .i64 t.snap, .int .i64 t.cs, .slice ra t.rs.length rc, .slice wa t.ws.length wc, .bool t.out, .string t.nm] 30
 clear hb
 generalize (v4.alloc (.cells #[.int .i64 t.id, .int .i64 t.st, .int .i64 t.snap, .int .i64 t.cs, .slice ra t.rs.length rc, .slice wa t.ws.length wc, .bool t.out, .string t.nm] 30)) = v5 at *
 have hM : v4.heap.size < v5.heap.size := BX5.out.lt
 have hk : n1 = 0 ∨ n1 = 1 ∨ n1 = 2 ∨ n1 = 3 ∨ n1 = 4 ∨ n1 = 5 ∨ n1 = 6 ∨ 7 ≤ n1 := by omega
 rcases hk with h | h | h | h | h | h | h | h
 ·subst h
  have hi : n2 % 3 = 0 ∨ n2 % 3 = 1 ∨ n2 % 3 = 2 := by omega
  rcases hi with hi | hi | hi
  ·have e3 : Int.tmod (n2 : Int) 3 = 0 := by rw [Int.tmod_eq_emod_of_nonneg (by omega)]; omega
   have c0 := BX5.out.c0
   have f0 := BX5.out.fz 0
   go_upto_region 19 with fail
   clear c0 f0 e3
   have BR6 : Hid (Bx (v5.setCell ⟨v4.heap.size, 0, none⟩ (.int .i64 0)) (w.heap.size) [.int .i64 0, .int .i64 0, .int .i64 0, .int .i64 0, .slice none 0 0, .slice none 0 0, .bool false, .string ⟨#[]⟩]) := BR5.out.setO (p := ⟨v4.heap.size, 0, none⟩) (by show v4.heap.size ≠ w.heap.size; omega) _
   have D6 : Hid (Dn w (v5.setCell ⟨v4.heap.size, 0, none⟩ (.int .i64 0)) g a len cap) := D5.out.set (p := ⟨v4.heap.size, 0, none⟩) (by show w.heap.size ≤ v4.heap.size; omega) _
   have OR6 : Hid (Lies encR 35 (v5.setCell ⟨v4.heap.size, 0, none⟩ (.int .i64 0)) (v3.heap.size) (m) (.slice ra t.rs.length rc) (t.rs)) := OR5.out.setxP (a := ⟨v4.heap.size, 0, none⟩) (fun b hb => (by have := OR5.out.lo b hb; show v4.heap.size ≠ b; omega)) _
   have OW6 : Hid (Lies encW 55 (v5.setCell ⟨v4.heap.size, 0, none⟩ (.int .i64 0)) (m) (v4.heap.size) (.slice wa t.ws.length wc) (t.ws)) := OW5.out.setxP (a := ⟨v4.heap.size, 0, none⟩) (fun b hb => (by have := OW5.out.lo b hb; show v4.heap.size ≠ b; omega)) _
   have BX6 : Hid (Bx (v5.setCell ⟨v4.heap.size, 0, none⟩ (.int .i64 0)) (v4.heap.size) [.int .i64 0, .int .i64 t.st, .int .i64 t.snap, .int .i64 t.cs, .slice ra t.rs.length rc, .slice wa t.ws.length wc, .bool t.out, .string t.nm]) := BX5.out.set 0 _
   clear BR5 D5 OR5 OW5 BX5
   have hb : Below (v5.setCell ⟨v4.heap.size, 0, none⟩ (.int .i64 0)).heap.size (v5.setCell ⟨v4.heap.size, 0, none⟩ (.int .i64 0)) ((v5.setCell ⟨v4.heap.size, 0, none⟩ (.int .i64 0)).alloc (.cells #[.int .i64 0, .int .i64 9999, .int .i64 10000] 3)) := (belowRefl _).alloc (Nat.le_refl _) _
   have BR7 : Hid (Bx ((v5.setCell ⟨v4.heap.size, 0, none⟩ (.int .i64 0)).alloc (.cells #[.int .i64 0, .int .i64 9999, .int .i64 10000] 3)) (w.heap.size) [.int .i64 0, .int .i64 0, .int .i64 0, .int .i64 0, .slice none 0 0, .slice none 0 0, .bool false, .string ⟨#[]⟩]) := BR6.out.below hb
   have D7 : Hid (Dn w ((v5.setCell ⟨v4.heap.size, 0, none⟩ (.int .i64 0)).alloc (.cells #[.int .i64 0, .int .i64 9999, .int .i64 10000] 3)) g a len cap) := D6.out.below hb
   have OR7 : Hid (Lies encR 35 ((v5.setCell ⟨v4.heap.size, 0, none⟩ (.int .i64 0)).alloc (.cells #[.int .i64 0, .int .i64 9999, .int .i64 10000] 3)) (v3.heap.size) (m) (.slice ra t.rs.length rc) (t.rs)) := OR6.out.below hb
   have OW7 : Hid (Lies encW 55 ((v5.setCell ⟨v4.heap.size, 0, none⟩ (.int .i64 0)).alloc (.cells #[.int .i64 0, .int .i64 9999, .int .i64 10000] 3)) (m) (v4.heap.size) (.slice wa t.ws.length wc) (t.ws)) := OW6.out.below hb
   have BX7 : Hid (Bx ((v5.setCell ⟨v4.heap.size, 0, none⟩ (.int .i64 0)).alloc (.cells #[.int .i64 0, .int .i64 9999, .int .i64 10000] 3)) (v4.heap.size) [.int .i64 0, .int .i64 t.st, .int .i64 t.snap, .int .i64 t.cs, .slice ra t.rs.length rc, .slice wa t.ws.length wc, .bool t.out, .string t.nm]) := BX6.out.below hb
   clear BR6 D6 OR6 OW6 BX6
   clear hb
   generalize ((v5.setCell ⟨v4.heap.size, 0, none⟩ (.int .i64 0)).alloc (.cells #[.int .i64 0, .int .i64 9999, .int .i64 10000] 3)) = v6 at *
   have o0 := BX7.out.c0
   have q0_ := BR7.out.c0
   have fq0 := BR7.out.fz 0
   have o1 := BX7.out.c1
   have q1_ := BR7.out.c1
   have fq1 := BR7.out.fz 1
   have o2 := BX7.out.c2
   have q2_ := BR7.out.c2
   have fq2 := BR7.out.fz 2
   have o3 := BX7.out.c3
   have q3_ := BR7.out.c3
   have fq3 := BR7.out.fz 3
   have o4 := BX7.out.c4
   have q4_ := BR7.out.c4
   have fq4 := BR7.out.fz 4
   have o5 := BX7.out.c5
   have q5_ := BR7.out.c5
   have fq5 := BR7.out.fz 5
   have o6 := BX7.out.c6
   have q6_ := BR7.out.c6
   have fq6 := BR7.out.fz 6
   have o7 := BX7.out.c7
   have q7_ := BR7.out.c7
   have fq7 := BR7.out.fz 7
   go_wp2
   refine bodyPost_ret (v := .agg #[.int .i64 0, .int .i64 t.st, .int .i64 t.snap, .int .i64 t.cs, .slice ra t.rs.length rc, .slice wa t.ws.length wc, .bool t.out, .string t.nm]) (by simp [results, Tryz.results62, go_sem, q0_, q1_, q2_, q3_, q4_, q5_, q6_, q7_]) rfl ⟨⟨0, t.st, t.snap, t.cs, t.rs, t.ws, t.out, t.nm⟩, ra, rc, wa, wc, ⟨HT.out.any.fit, HT.out.any.rl, HT.out.any.wl⟩, rfl, ?_, ?_, ?_⟩
   ·exact (own_s8P OR7.out.own (by omega) _ _ _ _ _ _ _ _).mono (by omega)
   ·exact (own_s8P OW7.out.own (by omega) _ _ _ _ _ _ _ _).mono (by omega)
   ·exact D7.out.belowB (below_s8P (Below.refl _ _) (Nat.le_refl _) _ _ _ _ _ _ _ _)
  ·have e3 : Int.tmod (n2 : Int) 3 = 1 := by rw [Int.tmod_eq_emod_of_nonneg (by omega)]; omega
   have c0 := BX5.out.c0
   have f0 := BX5.out.fz 0
   go_upto_region 19 with fail
   clear c0 f0 e3
   have BR6 : Hid (Bx (v5.setCell ⟨v4.heap.size, 0, none⟩ (.int .i64 9999)) (w.heap.size) [.int .i64 0, .int .i64 0, .int .i64 0, .int .i64 0, .slice none 0 0, .slice none 0 0, .bool false, .string ⟨#[]⟩]) := BR5.out.setO (p := ⟨v4.heap.size, 0, none⟩) (by show v4.heap.size ≠ w.heap.size; omega) _
   have D6 : Hid (Dn w (v5.setCell ⟨v4.heap.size, 0, none⟩ (.int .i64 9999)) g a len cap) := D5.out.set (p := ⟨v4.heap.size, 0, none⟩) (by show w.heap.size ≤ v4.heap.size; omega) _
   have OR6 : Hid (Lies encR 35 (v5.setCell ⟨v4.heap.size, 0, none⟩ (.int .i64 9999)) (v3.heap.size) (m) (.slice ra t.rs.length rc) (t.rs)) := OR5.out.setxP (a := ⟨v4.heap.size, 0, none⟩) (fun b hb => (by have := OR5.out.lo b hb; show v4.heap.size ≠ b; omega)) _
   have OW6 : Hid (Lies encW 55 (v5.setCell ⟨v4.heap.size, 0, none⟩ (.int .i64 9999)) (m) (v4.heap.size) (.slice wa t.ws.length wc) (t.ws)) := OW5.out.setxP (a := ⟨v4.heap.size, 0, none⟩) (fun b hb => (by have := OW5.out.lo b hb; show v4.heap.size ≠ b; omega)) _
   have BX6 : Hid (Bx (v5.setCell ⟨v4.heap.size, 0, none⟩ (.int .i64 9999)) (v4.heap.size) [.int .i64 9999, .int .i64 t.st, .int .i64 t.snap, .int .i64 t.cs, .slice ra t.rs.length rc, .slice wa t.ws.length wc, .bool t.out, .string t.nm]) := BX5.out.set 0 _
   clear BR5 D5 OR5 OW5 BX5
   have hb : Below (v5.setCell ⟨v4.heap.size, 0, none⟩ (.int .i64 9999)).heap.size (v5.setCell ⟨v4.heap.size, 0, none⟩ (.int .i64 9999)) ((v5.setCell ⟨v4.heap.size, 0, none⟩ (.int .i64 9999)).alloc (.cells #[.int .i64 0, .int .i64 9999, .int .i64 10000] 3)) := (belowRefl _).alloc (Nat.le_refl _) _
   have BR7 : Hid (Bx ((v5.setCell ⟨v4.heap.size, 0, none⟩ (.int .i64 9999)).alloc (.cells #[.int .i64 0, .int .i64 9999, .int .i64 10000] 3)) (w.heap.size) [.int .i64 0, .int .i64 0, .int .i64 0, .int .i64 0, .slice none 0 0, .slice none 0 0, .bool false, .string ⟨#[]⟩]) := BR6.out.below hb
   have D7 : Hid (Dn w ((v5.setCell ⟨v4.heap.size, 0, none⟩ (.int .i64 9999)).alloc (.cells #[.int .i64 0, .int .i64 9999, .int .i64 10000] 3)) g a len cap) := D6.out.below hb
   have OR7 : Hid (Lies encR 35 ((v5.setCell ⟨v4.heap.size, 0, none⟩ (.int .i64 9999)).alloc (.cells #[.int .i64 0, .int .i64 9999, .int .i64 10000] 3)) (v3.heap.size) (m) (.slice ra t.rs.length rc) (t.rs)) := OR6.out.below hb
   have OW7 : Hid (Lies encW 55 ((v5.setCell ⟨v4.heap.size, 0, none⟩ (.int .i64 9999)).alloc (.cells #[.int .i64 0, .int .i64 9999, .int .i64 10000] 3)) (m) (v4.heap.size) (.slice wa t.ws.length wc) (t.ws)) := OW6.out.below hb
   have BX7 : Hid (Bx ((v5.setCell ⟨v4.heap.size, 0, none⟩ (.int .i64 9999)).alloc (.cells #[.int .i64 0, .int .i64 9999, .int .i64 10000] 3)) (v4.heap.size) [.int .i64 9999, .int .i64 t.st, .int .i64 t.snap, .int .i64 t.cs, .slice ra t.rs.length rc, .slice wa t.ws.length wc, .bool t.out, .string t.nm]) := BX6.out.below hb
   clear BR6 D6 OR6 OW6 BX6
   clear hb
   generalize ((v5.setCell ⟨v4.heap.size, 0, none⟩ (.int .i64 9999)).alloc (.cells #[.int .i64 0, .int .i64 9999, .int .i64 10000] 3)) = v6 at *
   have o0 := BX7.out.c0
   have q0_ := BR7.out.c0
   have fq0 := BR7.out.fz 0
   have o1 := BX7.out.c1
   have q1_ := BR7.out.c1
   have fq1 := BR7.out.fz 1
   have o2 := BX7.out.c2
   have q2_ := BR7.out.c2
   have fq2 := BR7.out.fz 2
   have o3 := BX7.out.c3
   have q3_ := BR7.out.c3
   have fq3 := BR7.out.fz 3
   have o4 := BX7.out.c4
   have q4_ := BR7.out.c4
   have fq4 := BR7.out.fz 4
   have o5 := BX7.out.c5
   have q5_ := BR7.out.c5
   have fq5 := BR7.out.fz 5
   have o6 := BX7.out.c6
   have q6_ := BR7.out.c6
   have fq6 := BR7.out.fz 6
   have o7 := BX7.out.c7
   have q7_ := BR7.out.c7
   have fq7 := BR7.out.fz 7
   go_wp2
   refine bodyPost_ret (v := .agg #[.int .i64 9999, .int .i64 t.st, .int .i64 t.snap, .int .i64 t.cs, .slice ra t.rs.length rc, .slice wa t.ws.length wc, .bool t.out, .string t.nm]) (by simp [results, Tryz.results62, go_sem, q0_, q1_, q2_, q3_, q4_, q5_, q6_, q7_]) rfl ⟨⟨9999, t.st, t.snap, t.cs, t.rs, t.ws, t.out, t.nm⟩, ra, rc, wa, wc, ⟨HT.out.any.fit, HT.out.any.rl, HT.out.any.wl⟩, rfl, ?_, ?_, ?_⟩
   ·exact (own_s8P OR7.out.own (by omega) _ _ _ _ _ _ _ _).mono (by omega)
   ·exact (own_s8P OW7.out.own (by omega) _ _ _ _ _ _ _ _).mono (by omega)
   ·exact D7.out.belowB (below_s8P (Below.refl _ _) (Nat.le_refl _) _ _ _ _ _ _ _ _)
  ·have e3 : Int.tmod (n2 : Int) 3 = 2 := by rw [Int.tmod_eq_emod_of_nonneg (by omega)]; omega
   have c0 := BX5.out.c0
   have f0 := BX5.out.fz 0
   go_upto_region 19 with fail
   clear c0 f0 e3
   have BR6 : Hid (Bx (v5.setCell ⟨v4.heap.size, 0, none⟩ (.int .i64 10000)) (w.heap.size) [.int .i64 0, .int .i64 0, .int .i64 0, .int .i64 0, .slice none 0 0, .slice none 0 0, .bool false, .string ⟨#[]⟩]) := BR5.out.setO (p := ⟨v4.heap.size, 0, none⟩) (by show v4.heap.size ≠ w.heap.size; omega) _
   have D6 : Hid (Dn w (v5.setCell ⟨v4.heap.size, 0, none⟩ (.int .i64 10000)) g a len cap) := D5.out.set (p := ⟨v4.heap.size, 0, none⟩) (by show w.heap.size ≤ v4.heap.size; omega) _
   have OR6 : Hid (Lies encR 35 (v5.setCell ⟨v4.heap.size, 0, none⟩ (.int .i64 10000)) (v3.heap.size) (m) (.slice ra t.rs.length rc) (t.rs)) := OR5.out.setxP (a := ⟨v4.heap.size, 0, none⟩) (fun b hb => (by have := OR5.out.lo b hb; show v4.heap.size ≠ b; omega)) _
   have OW6 : Hid (Lies encW 55 (v5.setCell ⟨v4.heap.size, 0, none⟩ (.int .i64 10000)) (m) (v4.heap.size) (.slice wa t.ws.length wc) (t.ws)) := OW5.out.setxP (a := ⟨v4.heap.size, 0, none⟩) (fun b hb => (by have := OW5.out.lo b hb; show v4.heap.size ≠ b; omega)) _
   have BX6 : Hid (Bx (v5.setCell ⟨v4.heap.size, 0, none⟩ (.int .i64 10000)) (v4.heap.size) [.int .i64 10000, .int .i64 t.st, .int .i64 t.snap, .int .i64 t.cs, .slice ra t.rs.length rc, .slice wa t.ws.length wc, .bool t.out, .string t.nm]) := BX5.out.set 0 _
   clear BR5 D5 OR5 OW5 BX5
   have hb : Below (v5.setCell ⟨v4.heap.size, 0, none⟩ (.int .i64 10000)).heap.size (v5.setCell ⟨v4.heap.size, 0, none⟩ (.int .i64 10000)) ((v5.setCell ⟨v4.heap.size, 0, none⟩ (.int .i64 10000)).alloc (.cells #[.int .i64 0, .int .i64 9999, .int .i64 10000] 3)) := (belowRefl _).alloc (Nat.le_refl _) _
   have BR7 : Hid (Bx ((v5.setCell ⟨v4.heap.size, 0, none⟩ (.int .i64 10000)).alloc (.cells #[.int .i64 0, .int .i64 9999, .int .i64 10000] 3)) (w.heap.size) [.int .i64 0, .int .i64 0, .int .i64 0, .int .i64 0, .slice none 0 0, .slice none 0 0, .bool false, .string ⟨#[]⟩]) := BR6.out.below hb
   have D7 : Hid (Dn w ((v5.setCell ⟨v4.heap.size, 0, none⟩ (.int .i64 10000)).alloc (.cells #[.int .i64 0, .int .i64 9999, .int .i64 10000] 3)) g a len cap) := D6.out.below hb
   have OR7 : Hid (Lies encR 35 ((v5.setCell ⟨v4.heap.size, 0, none⟩ (.int .i64 10000)).alloc (.cells #[.int .i64 0, .int .i64 9999, .int .i64 10000] 3)) (v3.heap.size) (m) (.slice ra t.rs.length rc) (t.rs)) := OR6.out.below hb
   have OW7 : Hid (Lies encW 55 ((v5.setCell ⟨v4.heap.size, 0, none⟩ (.int .i64 10000)).alloc (.cells #[.int .i64 0, .int .i64 9999, .int .i64 10000] 3)) (m) (v4.heap.size) (.slice wa t.ws.length wc) (t.ws)) := OW6.out.below hb
   have BX7 : Hid (Bx ((v5.setCell ⟨v4.heap.size, 0, none⟩ (.int .i64 10000)).alloc (.cells #[.int .i64 0, .int .i64 9999, .int .i64 10000] 3)) (v4.heap.size) [.int .i64 10000, .int .i64 t.st, .int .i64 t.snap, .int .i64 t.cs, .slice ra t.rs.length rc, .slice wa t.ws.length wc, .bool t.out, .string t.nm]) := BX6.out.below hb
   clear BR6 D6 OR6 OW6 BX6
   clear hb
   generalize ((v5.setCell ⟨v4.heap.size, 0, none⟩ (.int .i64 10000)).alloc (.cells #[.int .i64 0, .int .i64 9999, .int .i64 10000] 3)) = v6 at *
   have o0 := BX7.out.c0
   have q0_ := BR7.out.c0
   have fq0 := BR7.out.fz 0
   have o1 := BX7.out.c1
   have q1_ := BR7.out.c1
   have fq1 := BR7.out.fz 1
   have o2 := BX7.out.c2
   have q2_ := BR7.out.c2
   have fq2 := BR7.out.fz 2
   have o3 := BX7.out.c3
   have q3_ := BR7.out.c3
   have fq3 := BR7.out.fz 3
   have o4 := BX7.out.c4
   have q4_ := BR7.out.c4
   have fq4 := BR7.out.fz 4
   have o5 := BX7.out.c5
   have q5_ := BR7.out.c5
   have fq5 := BR7.out.fz 5
   have o6 := BX7.out.c6
   have q6_ := BR7.out.c6
   have fq6 := BR7.out.fz 6
   have o7 := BX7.out.c7
   have q7_ := BR7.out.c7
   have fq7 := BR7.out.fz 7
   go_wp2
   refine bodyPost_ret (v := .agg #[.int .i64 10000, .int .i64 t.st, .int .i64 t.snap, .int .i64 t.cs, .slice ra t.rs.length rc, .slice wa t.ws.length wc, .bool t.out, .string t.nm]) (by simp [results, Tryz.results62, go_sem, q0_, q1_, q2_, q3_, q4_, q5_, q6_, q7_]) rfl ⟨⟨10000, t.st, t.snap, t.cs, t.rs, t.ws, t.out, t.nm⟩, ra, rc, wa, wc, ⟨HT.out.any.fit, HT.out.any.rl, HT.out.any.wl⟩, rfl, ?_, ?_, ?_⟩
   ·exact (own_s8P OR7.out.own (by omega) _ _ _ _ _ _ _ _).mono (by omega)
   ·exact (own_s8P OW7.out.own (by omega) _ _ _ _ _ _ _ _).mono (by omega)
   ·exact D7.out.belowB (below_s8P (Below.refl _ _) (Nat.le_refl _) _ _ _ _ _ _ _ _)
 ·subst h
  obtain ⟨q, hq⟩ : ∃ q : Int, q = Int.tmod (n2 : Int) 5 := ⟨_, rfl⟩
  have e3 : Int.tmod (n2 : Int) 5 = q := hq.symm
  have hq0 : 0 ≤ q ∧ q < 5 := by rw [hq, Int.tmod_eq_emod_of_nonneg (by omega)]; omega
  have ew : IntKind.i64.wrap q = q := by rw [IntKind.wrap_i64]; omega
  clear hq
  have c1 := BX5.out.c1
  have f1 := BX5.out.fz 1
  go_upto_region 19 with fail
  clear c1 f1 e3 ew
  have BR6 : Hid (Bx (v5.setCell ⟨v4.heap.size, 1, none⟩ (.int .i64 q)) (w.heap.size) [.int .i64 0, .int .i64 0, .int .i64 0, .int .i64 0, .slice none 0 0, .slice none 0 0, .bool false, .string ⟨#[]⟩]) := BR5.out.setO (p := ⟨v4.heap.size, 1, none⟩) (by show v4.heap.size ≠ w.heap.size; omega) _
  have D6 : Hid (Dn w (v5.setCell ⟨v4.heap.size, 1, none⟩ (.int .i64 q)) g a len cap) := D5.out.set (p := ⟨v4.heap.size, 1, none⟩) (by show w.heap.size ≤ v4.heap.size; omega) _
  have OR6 : Hid (Lies encR 35 (v5.setCell ⟨v4.heap.size, 1, none⟩ (.int .i64 q)) (v3.heap.size) (m) (.slice ra t.rs.length rc) (t.rs)) := OR5.out.setxP (a := ⟨v4.heap.size, 1, none⟩) (fun b hb => (by have := OR5.out.lo b hb; show v4.heap.size ≠ b; omega)) _
  have OW6 : Hid (Lies encW 55 (v5.setCell ⟨v4.heap.size, 1, none⟩ (.int .i64 q)) (m) (v4.heap.size) (.slice wa t.ws.length wc) (t.ws)) := OW5.out.setxP (a := ⟨v4.heap.size, 1, none⟩) (fun b hb => (by have := OW5.out.lo b hb; show v4.heap.size ≠ b; omega)) _
  have BX6 : Hid (Bx (v5.setCell ⟨v4.heap.size, 1, none⟩ (.int .i64 q)) (v4.heap.size) [.int .i64 t.id, .int .i64 q, .int .i64 t.snap, .int .i64 t.cs, .slice ra t.rs.length rc, .slice wa t.ws.length wc, .bool t.out, .string t.nm]) := BX5.out.set 1 _
  clear BR5 D5 OR5 OW5 BX5
  generalize (v5.setCell ⟨v4.heap.size, 1, none⟩ (.int .i64 q)) = v6 at *
  have o0 := BX6.out.c0
  have q0_ := BR6.out.c0
  have fq0 := BR6.out.fz 0
  have o1 := BX6.out.c1
  have q1_ := BR6.out.c1
  have fq1 := BR6.out.fz 1
  have o2 := BX6.out.c2
  have q2_ := BR6.out.c2
  have fq2 := BR6.out.fz 2
  have o3 := BX6.out.c3
  have q3_ := BR6.out.c3
  have fq3 := BR6.out.fz 3
  have o4 := BX6.out.c4
  have q4_ := BR6.out.c4
  have fq4 := BR6.out.fz 4
  have o5 := BX6.out.c5
  have q5_ := BR6.out.c5
  have fq5 := BR6.out.fz 5
  have o6 := BX6.out.c6
  have q6_ := BR6.out.c6
  have fq6 := BR6.out.fz 6
  have o7 := BX6.out.c7
  have q7_ := BR6.out.c7
  have fq7 := BR6.out.fz 7
  go_wp2
  refine bodyPost_ret (v := .agg #[.int .i64 t.id, .int .i64 q, .int .i64 t.snap, .int .i64 t.cs, .slice ra t.rs.length rc, .slice wa t.ws.length wc, .bool t.out, .string t.nm]) (by simp [results, Tryz.results62, go_sem, q0_, q1_, q2_, q3_, q4_, q5_, q6_, q7_]) rfl ⟨⟨t.id, q, t.snap, t.cs, t.rs, t.ws, t.out, t.nm⟩, ra, rc, wa, wc, ⟨HT.out.any.fit, HT.out.any.rl, HT.out.any.wl⟩, rfl, ?_, ?_, ?_⟩
  ·exact (own_s8P OR6.out.own (by omega) _ _ _ _ _ _ _ _).mono (by omega)
  ·exact (own_s8P OW6.out.own (by omega) _ _ _ _ _ _ _ _).mono (by omega)
  ·exact D6.out.belowB (below_s8P (Below.refl _ _) (Nat.le_refl _) _ _ _ _ _ _ _ _)
 ·subst h
  obtain ⟨q, hq⟩ : ∃ q : Int, q = Int.tmod (n2 : Int) 4 := ⟨_, rfl⟩
  have e3 : Int.tmod (n2 : Int) 4 = q := hq.symm
  have hq0 : 0 ≤ q ∧ q < 4 := by rw [hq, Int.tmod_eq_emod_of_nonneg (by omega)]; omega
  have ew : IntKind.i64.wrap q = q := by rw [IntKind.wrap_i64]; omega
  clear hq
  have c3 := BX5.out.c3
  have f3 := BX5.out.fz 3
  go_upto_region 19 with fail
  clear c3 f3 e3 ew
  have BR6 : Hid (Bx (v5.setCell ⟨v4.heap.size, 3, none⟩ (.int .i64 q)) (w.heap.size) [.int .i64 0, .int .i64 0, .int .i64 0, .int .i64 0, .slice none 0 0, .slice none 0 0, .bool false, .string ⟨#[]⟩]) := BR5.out.setO (p := ⟨v4.heap.size, 3, none⟩) (by show v4.heap.size ≠ w.heap.size; omega) _
  have D6 : Hid (Dn w (v5.setCell ⟨v4.heap.size, 3, none⟩ (.int .i64 q)) g a len cap) := D5.out.set (p := ⟨v4.heap.size, 3, none⟩) (by show w.heap.size ≤ v4.heap.size; omega) _
  have OR6 : Hid (Lies encR 35 (v5.setCell ⟨v4.heap.size, 3, none⟩ (.int .i64 q)) (v3.heap.size) (m) (.slice ra t.rs.length rc) (t.rs)) := OR5.out.setxP (a := ⟨v4.heap.size, 3, none⟩) (fun b hb => (by have := OR5.out.lo b hb; show v4.heap.size ≠ b; omega)) _
  have OW6 : Hid (Lies encW 55 (v5.setCell ⟨v4.heap.size, 3, none⟩ (.int .i64 q)) (m) (v4.heap.size) (.slice wa t.ws.length wc) (t.ws)) := OW5.out.setxP (a := ⟨v4.heap.size, 3, none⟩) (fun b hb => (by have := OW5.out.lo b hb; show v4.heap.size ≠ b; omega)) _
  have BX6 : Hid (Bx (v5.setCell ⟨v4.heap.size, 3, none⟩ (.int .i64 q)) (v4.heap.size) [.int .i64 t.id, .int .i64 t.st, .int .i64 t.snap, .int .i64 q, .slice ra t.rs.length rc, .slice wa t.ws.length wc, .bool t.out, .string t.nm]) := BX5.out.set 3 _
  clear BR5 D5 OR5 OW5 BX5
  generalize (v5.setCell ⟨v4.heap.size, 3, none⟩ (.int .i64 q)) = v6 at *
  have o0 := BX6.out.c0
  have q0_ := BR6.out.c0
  have fq0 := BR6.out.fz 0
  have o1 := BX6.out.c1
  have q1_ := BR6.out.c1
  have fq1 := BR6.out.fz 1
  have o2 := BX6.out.c2
  have q2_ := BR6.out.c2
  have fq2 := BR6.out.fz 2
  have o3 := BX6.out.c3
  have q3_ := BR6.out.c3
  have fq3 := BR6.out.fz 3
  have o4 := BX6.out.c4
  have q4_ := BR6.out.c4
  have fq4 := BR6.out.fz 4
  have o5 := BX6.out.c5
  have q5_ := BR6.out.c5
  have fq5 := BR6.out.fz 5
  have o6 := BX6.out.c6
  have q6_ := BR6.out.c6
  have fq6 := BR6.out.fz 6
  have o7 := BX6.out.c7
  have q7_ := BR6.out.c7
  have fq7 := BR6.out.fz 7
  go_wp2
  refine bodyPost_ret (v := .agg #[.int .i64 t.id, .int .i64 t.st, .int .i64 t.snap, .int .i64 q, .slice ra t.rs.length rc, .slice wa t.ws.length wc, .bool t.out, .string t.nm]) (by simp [results, Tryz.results62, go_sem, q0_, q1_, q2_, q3_, q4_, q5_, q6_, q7_]) rfl ⟨⟨t.id, t.st, t.snap, q, t.rs, t.ws, t.out, t.nm⟩, ra, rc, wa, wc, ⟨HT.out.any.fit, HT.out.any.rl, HT.out.any.wl⟩, rfl, ?_, ?_, ?_⟩
  ·exact (own_s8P OR6.out.own (by omega) _ _ _ _ _ _ _ _).mono (by omega)
  ·exact (own_s8P OW6.out.own (by omega) _ _ _ _ _ _ _ _).mono (by omega)
  ·exact D6.out.belowB (below_s8P (Below.refl _ _) (Nat.le_refl _) _ _ _ _ _ _ _ _)
 ·subst h
  have hi : n2 % 3 = 0 ∨ n2 % 3 = 1 ∨ n2 % 3 = 2 := by omega
  rcases hi with hi | hi | hi
  ·have e3 : Int.tmod (n2 : Int) 3 = 0 := by rw [Int.tmod_eq_emod_of_nonneg (by omega)]; omega
   have c7 := BX5.out.c7
   have f7 := BX5.out.fz 7
   go_upto_region 19 with fail
   clear c7 f7 e3
   have BR6 : Hid (Bx (v5.setCell ⟨v4.heap.size, 7, none⟩ (.string ⟨#[]⟩)) (w.heap.size) [.int .i64 0, .int .i64 0, .int .i64 0, .int .i64 0, .slice none 0 0, .slice none 0 0, .bool false, .string ⟨#[]⟩]) := BR5.out.setO (p := ⟨v4.heap.size, 7, none⟩) (by show v4.heap.size ≠ w.heap.size; omega) _
   have D6 : Hid (Dn w (v5.setCell ⟨v4.heap.size, 7, none⟩ (.string ⟨#[]⟩)) g a len cap) := D5.out.set (p := ⟨v4.heap.size, 7, none⟩) (by show w.heap.size ≤ v4.heap.size; omega) _
   have OR6 : Hid (Lies encR 35 (v5.setCell ⟨v4.heap.size, 7, none⟩ (.string ⟨#[]⟩)) (v3.heap.size) (m) (.slice ra t.rs.length rc) (t.rs)) := OR5.out.setxP (a := ⟨v4.heap.size, 7, none⟩) (fun b hb => (by have := OR5.out.lo b hb; show v4.heap.size ≠ b; omega)) _
   have OW6 : Hid (Lies encW 55 (v5.setCell ⟨v4.heap.size, 7, none⟩ (.string ⟨#[]⟩)) (m) (v4.heap.size) (.slice wa t.ws.length wc) (t.ws)) := OW5.out.setxP (a := ⟨v4.heap.size, 7, none⟩) (fun b hb => (by have := OW5.out.lo b hb; show v4.heap.size ≠ b; omega)) _
   have BX6 : Hid (Bx (v5.setCell ⟨v4.heap.size, 7, none⟩ (.string ⟨#[]⟩)) (v4.heap.size) [.int .i64 t.id, .int .i64 t.st, .int .i64 t.snap, .int .i64 t.cs, .slice ra t.rs.length rc, .slice wa t.ws.length wc, .bool t.out, .string ⟨#[]⟩]) := BX5.out.set 7 _
   clear BR5 D5 OR5 OW5 BX5
   have hb : Below (v5.setCell ⟨v4.heap.size, 7, none⟩ (.string ⟨#[]⟩)).heap.size (v5.setCell ⟨v4.heap.size, 7, none⟩ (.string ⟨#[]⟩)) ((v5.setCell ⟨v4.heap.size, 7, none⟩ (.string ⟨#[]⟩)).alloc (.cells #[.string ⟨#[]⟩, .string ⟨#[65]⟩, .string ⟨#[97, 98]⟩] 9)) := (belowRefl _).alloc (Nat.le_refl _) _
   have BR7 : Hid (Bx ((v5.setCell ⟨v4.heap.size, 7, none⟩ (.string ⟨#[]⟩)).alloc (.cells #[.string ⟨#[]⟩, .string ⟨#[65]⟩, .string ⟨#[97, 98]⟩] 9)) (w.heap.size) [.int .i64 0, .int .i64 0, .int .i64 0, .int .i64 0, .slice none 0 0, .slice none 0 0, .bool false, .string ⟨#[]⟩]) := BR6.out.below hb
   have D7 : Hid (Dn w ((v5.setCell ⟨v4.heap.size, 7, none⟩ (.string ⟨#[]⟩)).alloc (.cells #[.string ⟨#[]⟩, .string ⟨#[65]⟩, .string ⟨#[97, 98]⟩] 9)) g a len cap) := D6.out.below hb
   have OR7 : Hid (Lies encR 35 ((v5.setCell ⟨v4.heap.size, 7, none⟩ (.string ⟨#[]⟩)).alloc (.cells #[.string ⟨#[]⟩, .string ⟨#[65]⟩, .string ⟨#[97, 98]⟩] 9)) (v3.heap.size) (m) (.slice ra t.rs.length rc) (t.rs)) := OR6.out.below hb
   have OW7 : Hid (Lies encW 55 ((v5.setCell ⟨v4.heap.size, 7, none⟩ (.string ⟨#[]⟩)).alloc (.cells #[.string ⟨#[]⟩, .string ⟨#[65]⟩, .string ⟨#[97, 98]⟩] 9)) (m) (v4.heap.size) (.slice wa t.ws.length wc) (t.ws)) := OW6.out.below hb
   have BX7 : Hid (Bx ((v5.setCell ⟨v4.heap.size, 7, none⟩ (.string ⟨#[]⟩)).alloc (.cells #[.string ⟨#[]⟩, .string ⟨#[65]⟩, .string ⟨#[97, 98]⟩] 9)) (v4.heap.size) [.int .i64 t.id, .int .i64 t.st, .int .i64 t.snap, .int .i64 t.cs, .slice ra t.rs.length rc, .slice wa t.ws.length wc, .bool t.out, .string ⟨#[]⟩]) := BX6.out.below hb
   clear BR6 D6 OR6 OW6 BX6
   clear hb
   generalize ((v5.setCell ⟨v4.heap.size, 7, none⟩ (.string ⟨#[]⟩)).alloc (.cells #[.string ⟨#[]⟩, .string ⟨#[65]⟩, .string ⟨#[97, 98]⟩] 9)) = v6 at *
   have o0 := BX7.out.c0
   have q0_ := BR7.out.c0
   have fq0 := BR7.out.fz 0
   have o1 := BX7.out.c1
   have q1_ := BR7.out.c1
   have fq1 := BR7.out.fz 1
   have o2 := BX7.out.c2
   have q2_ := BR7.out.c2
   have fq2 := BR7.out.fz 2
   have o3 := BX7.out.c3
   have q3_ := BR7.out.c3
   have fq3 := BR7.out.fz 3
   have o4 := BX7.out.c4
   have q4_ := BR7.out.c4
   have fq4 := BR7.out.fz 4
   have o5 := BX7.out.c5
   have q5_ := BR7.out.c5
   have fq5 := BR7.out.fz 5
   have o6 := BX7.out.c6
   have q6_ := BR7.out.c6
   have fq6 := BR7.out.fz 6
   have o7 := BX7.out.c7
   have q7_ := BR7.out.c7
   have fq7 := BR7.out.fz 7
   go_wp2
   refine bodyPost_ret (v := .agg #[.int .i64 t.id, .int .i64 t.st, .int .i64 t.snap, .int .i64 t.cs, .slice ra t.rs.length rc, .slice wa t.ws.length wc, .bool t.out, .string ⟨#[]⟩]) (by simp [results, Tryz.results62, go_sem, q0_, q1_, q2_, q3_, q4_, q5_, q6_, q7_]) rfl ⟨⟨t.id, t.st, t.snap, t.cs, t.rs, t.ws, t.out, ⟨#[]⟩⟩, ra, rc, wa, wc, ⟨⟨HT.out.fit.1, HT.out.fit.2.1, HT.out.fit.2.2.1, HT.out.fit.2.2.2.1, by show (⟨#[]⟩ : ByteArray).size ≤ 1048576; decide⟩, Nat.le_trans HT.out.rl (by show _ ≤ _; omega), Nat.le_trans HT.out.wl (by show _ ≤ _; omega)⟩, rfl, ?_, ?_, ?_⟩
   ·exact (own_s8P OR7.out.own (by omega) _ _ _ _ _ _ _ _).mono (by omega)
   ·exact (own_s8P OW7.out.own (by omega) _ _ _ _ _ _ _ _).mono (by omega)
   ·exact D7.out.belowB (below_s8P (Below.refl _ _) (Nat.le_refl _) _ _ _ _ _ _ _ _)
  ·have e3 : Int.tmod (n2 : Int) 3 = 1 := by rw [Int.tmod_eq_emod_of_nonneg (by omega)]; omega
   have c7 := BX5.out.c7
   have f7 := BX5.out.fz 7
   go_upto_region 19 with fail
   clear c7 f7 e3
   have BR6 : Hid (Bx (v5.setCell ⟨v4.heap.size, 7, none⟩ (.string ⟨#[65]⟩)) (w.heap.size) [.int .i64 0, .int .i64 0, .int .i64 0, .int .i64 0, .slice none 0 0, .slice none 0 0, .bool false, .string ⟨#[]⟩]) := BR5.out.setO (p := ⟨v4.heap.size, 7, none⟩) (by show v4.heap.size ≠ w.heap.size; omega) _
   have D6 : Hid (Dn w (v5.setCell ⟨v4.heap.size, 7, none⟩ (.string ⟨#[65]⟩)) g a len cap) := D5.out.set (p := ⟨v4.heap.size, 7, none⟩) (by show w.heap.size ≤ v4.heap.size; omega) _
   have OR6 : Hid (Lies encR 35 (v5.setCell ⟨v4.heap.size, 7, none⟩ (.string ⟨#[65]⟩)) (v3.heap.size) (m) (.slice ra t.rs.length rc) (t.rs)) := OR5.out.setxP (a := ⟨v4.heap.size, 7, none⟩) (fun b hb => (by have := OR5.out.lo b hb; show v4.heap.size ≠ b; omega)) _
   have OW6 : Hid (Lies encW 55 (v5.setCell ⟨v4.heap.size, 7, none⟩ (.string ⟨#[65]⟩)) (m) (v4.heap.size) (.slice wa t.ws.length wc) (t.ws)) := OW5.out.setxP (a := ⟨v4.heap.size, 7, none⟩) (fun b hb => (by have := OW5.out.lo b hb; show v4.heap.size ≠ b; omega)) _
   have BX6 : Hid (Bx (v5.setCell ⟨v4.heap.size, 7, none⟩ (.string ⟨#[65]⟩)) (v4.heap.size) [.int .i64 t.id, .int .i64 t.st, .int .i64 t.snap, .int .i64 t.cs, .slice ra t.rs.length rc, .slice wa t.ws.length wc, .bool t.out, .string ⟨#[65]⟩]) := BX5.out.set 7 _
   clear BR5 D5 OR5 OW5 BX5
   have hb : Below (v5.setCell ⟨v4.heap.size, 7, none⟩ (.string ⟨#[65]⟩)).heap.size (v5.setCell ⟨v4.heap.size, 7, none⟩ (.string ⟨#[65]⟩)) ((v5.setCell ⟨v4.heap.size, 7, none⟩ (.string ⟨#[65]⟩)).alloc (.cells #[.string ⟨#[]⟩, .string ⟨#[65]⟩, .string ⟨#[97, 98]⟩] 9)) := (belowRefl _).alloc (Nat.le_refl _) _
   have BR7 : Hid (Bx ((v5.setCell ⟨v4.heap.size, 7, none⟩ (.string ⟨#[65]⟩)).alloc (.cells #[.string ⟨#[]⟩, .string ⟨#[65]⟩, .string ⟨#[97, 98]⟩] 9)) (w.heap.size) [.int .i64 0, .int .i64 0, .int .i64 0, .int .i64 0, .slice none 0 0, .slice none 0 0, .bool false, .string ⟨#[]⟩]) := BR6.out.below hb
   have D7 : Hid (Dn w ((v5.setCell ⟨v4.heap.size, 7, none⟩ (.string ⟨#[65]⟩)).alloc (.cells #[.string ⟨#[]⟩, .string ⟨#[65]⟩, .string ⟨#[97, 98]⟩] 9)) g a len cap) := D6.out.below hb
   have OR7 : Hid (Lies encR 35 ((v5.setCell ⟨v4.heap.size, 7, none⟩ (.string ⟨#[65]⟩)).alloc (.cells #[.string ⟨#[]⟩, .string ⟨#[65]⟩, .string ⟨#[97, 98]⟩] 9)) (v3.heap.size) (m) (.slice ra t.rs.length rc) (t.rs)) := OR6.out.below hb
   have OW7 : Hid (Lies encW 55 ((v5.setCell ⟨v4.heap.size, 7, none⟩ (.string ⟨#[65]⟩)).alloc (.cells #[.string ⟨#[]⟩, .string ⟨#[65]⟩, .string ⟨#[97, 98]⟩] 9)) (m) (v4.heap.size) (.slice wa t.ws.length wc) (t.ws)) := OW6.out.below hb
   have BX7 : Hid (Bx ((v5.setCell ⟨v4.heap.size, 7, none⟩ (.string ⟨#[65]⟩)).alloc (.cells #[.string ⟨#[]⟩, .string ⟨#[65]⟩, .string ⟨#[97, 98]⟩] 9)) (v4.heap.size) [.int .i64 t.id, .int .i64 t.st, .int .i64 t.snap, .int .i64 t.cs, .slice ra t.rs.length rc, .slice wa t.ws.length wc, .bool t.out, .string ⟨#[65]⟩]) := BX6.out.below hb
   clear BR6 D6 OR6 OW6 BX6
   clear hb
   generalize ((v5.setCell ⟨v4.heap.size, 7, none⟩ (.string ⟨#[65]⟩)).alloc (.cells #[.string ⟨#[]⟩, .string ⟨#[65]⟩, .string ⟨#[97, 98]⟩] 9)) = v6 at *
   have o0 := BX7.out.c0
   have q0_ := BR7.out.c0
   have fq0 := BR7.out.fz 0
   have o1 := BX7.out.c1
   have q1_ := BR7.out.c1
   have fq1 := BR7.out.fz 1
   have o2 := BX7.out.c2
   have q2_ := BR7.out.c2
   have fq2 := BR7.out.fz 2
   have o3 := BX7.out.c3
   have q3_ := BR7.out.c3
   have fq3 := BR7.out.fz 3
   have o4 := BX7.out.c4
   have q4_ := BR7.out.c4
   have fq4 := BR7.out.fz 4
   have o5 := BX7.out.c5
   have q5_ := BR7.out.c5
   have fq5 := BR7.out.fz 5
   have o6 := BX7.out.c6
   have q6_ := BR7.out.c6
   have fq6 := BR7.out.fz 6
   have o7 := BX7.out.c7
   have q7_ := BR7.out.c7
   have fq7 := BR7.out.fz 7
   go_wp2
   refine bodyPost_ret (v := .agg #[.int .i64 t.id, .int .i64 t.st, .int .i64 t.snap, .int .i64 t.cs, .slice ra t.rs.length rc, .slice wa t.ws.length wc, .bool t.out, .string ⟨#[65]⟩]) (by simp [results, Tryz.results62, go_sem, q0_, q1_, q2_, q3_, q4_, q5_, q6_, q7_]) rfl ⟨⟨t.id, t.st, t.snap, t.cs, t.rs, t.ws, t.out, ⟨#[65]⟩⟩, ra, rc, wa, wc, ⟨⟨HT.out.fit.1, HT.out.fit.2.1, HT.out.fit.2.2.1, HT.out.fit.2.2.2.1, by show (⟨#[65]⟩ : ByteArray).size ≤ 1048576; decide⟩, Nat.le_trans HT.out.rl (by show _ ≤ _; omega), Nat.le_trans HT.out.wl (by show _ ≤ _; omega)⟩, rfl, ?_, ?_, ?_⟩
   ·exact (own_s8P OR7.out.own (by omega) _ _ _ _ _ _ _ _).mono (by omega)
   ·exact (own_s8P OW7.out.own (by omega) _ _ _ _ _ _ _ _).mono (by omega)
   ·exact D7.out.belowB (below_s8P (Below.refl _ _) (Nat.le_refl _) _ _ _ _ _ _ _ _)
  ·have e3 : Int.tmod (n2 : Int) 3 = 2 := by rw [Int.tmod_eq_emod_of_nonneg (by omega)]; omega
   have c7 := BX5.out.c7
   have f7 := BX5.out.fz 7
   go_upto_region 19 with fail
   clear c7 f7 e3
   have BR6 : Hid (Bx (v5.setCell ⟨v4.heap.size, 7, none⟩ (.string ⟨#[97, 98]⟩)) (w.heap.size) [.int .i64 0, .int .i64 0, .int .i64 0, .int .i64 0, .slice none 0 0, .slice none 0 0, .bool false, .string ⟨#[]⟩]) := BR5.out.setO (p := ⟨v4.heap.size, 7, none⟩) (by show v4.heap.size ≠ w.heap.size; omega) _
   have D6 : Hid (Dn w (v5.setCell ⟨v4.heap.size, 7, none⟩ (.string ⟨#[97, 98]⟩)) g a len cap) := D5.out.set (p := ⟨v4.heap.size, 7, none⟩) (by show w.heap.size ≤ v4.heap.size; omega) _
   have OR6 : Hid (Lies encR 35 (v5.setCell ⟨v4.heap.size, 7, none⟩ (.string ⟨#[97, 98]⟩)) (v3.heap.size) (m) (.slice ra t.rs.length rc) (t.rs)) := OR5.out.setxP (a := ⟨v4.heap.size, 7, none⟩) (fun b hb => (by have := OR5.out.lo b hb; show v4.heap.size ≠ b; omega)) _
   have OW6 : Hid (Lies encW 55 (v5.setCell ⟨v4.heap.size, 7, none⟩ (.string ⟨#[97, 98]⟩)) (m) (v4.heap.size) (.slice wa t.ws.length wc) (t.ws)) := OW5.out.setxP (a := ⟨v4.heap.size, 7, none⟩) (fun b hb => (by have := OW5.out.lo b hb; show v4.heap.size ≠ b; omega)) _
   have BX6 : Hid (Bx (v5.setCell ⟨v4.heap.size, 7, none⟩ (.string ⟨#[97, 98]⟩)) (v4.heap.size) [.int .i64 t.id, .int .i64 t.st, .int .i64 t.snap, .int .i64 t.cs, .slice ra t.rs.length rc, .slice wa t.ws.length wc, .bool t.out, .string ⟨#[97, 98]⟩]) := BX5.out.set 7 _
   clear BR5 D5 OR5 OW5 BX5
   have hb : Below (v5.setCell ⟨v4.heap.size, 7, none⟩ (.string ⟨#[97, 98]⟩)).heap.size (v5.setCell ⟨v4.heap.size, 7, none⟩ (.string ⟨#[97, 98]⟩)) ((v5.setCell ⟨v4.heap.size, 7, none⟩ (.string ⟨#[97, 98]⟩)).alloc (.cells #[.string ⟨#[]⟩, .string ⟨#[65]⟩, .string ⟨#[97, 98]⟩] 9)) := (belowRefl _).alloc (Nat.le_refl _) _
   have BR7 : Hid (Bx ((v5.setCell ⟨v4.heap.size, 7, none⟩ (.string ⟨#[97, 98]⟩)).alloc (.cells #[.string ⟨#[]⟩, .string ⟨#[65]⟩, .string ⟨#[97, 98]⟩] 9)) (w.heap.size) [.int .i64 0, .int .i64 0, .int .i64 0, .int .i64 0, .slice none 0 0, .slice none 0 0, .bool false, .string ⟨#[]⟩]) := BR6.out.below hb
   have D7 : Hid (Dn w ((v5.setCell ⟨v4.heap.size, 7, none⟩ (.string ⟨#[97, 98]⟩)).alloc (.cells #[.string ⟨#[]⟩, .string ⟨#[65]⟩, .string ⟨#[97, 98]⟩] 9)) g a len cap) := D6.out.below hb
   have OR7 : Hid (Lies encR 35 ((v5.setCell ⟨v4.heap.size, 7, none⟩ (.string ⟨#[97, 98]⟩)).alloc (.cells #[.string ⟨#[]⟩, .string ⟨#[65]⟩, .string ⟨#[97, 98]⟩] 9)) (v3.heap.size) (m) (.slice ra t.rs.length rc) (t.rs)) := OR6.out.below hb
   have OW7 : Hid (Lies encW 55 ((v5.setCell ⟨v4.heap.size, 7, none⟩ (.string ⟨#[97, 98]⟩)).alloc (.cells #[.string ⟨#[]⟩, .string ⟨#[65]⟩, .string ⟨#[97, 98]⟩] 9)) (m) (v4.heap.size) (.slice wa t.ws.length wc) (t.ws)) := OW6.out.below hb
   have BX7 : Hid (Bx ((v5.setCell ⟨v4.heap.size, 7, none⟩ (.string ⟨#[97, 98]⟩)).alloc (.cells #[.string ⟨#[]⟩, .string ⟨#[65]⟩, .string ⟨#[97, 98]⟩] 9)) (v4.heap.size) [.int .i64 t.id, .int .i64 t.st, .int .i64 t.snap, .int .i64 t.cs, .slice ra t.rs.length rc, .slice wa t.ws.length wc, .bool t.out, .string ⟨#[97, 98]⟩]) := BX6.out.below hb
   clear BR6 D6 OR6 OW6 BX6
   clear hb
   generalize ((v5.setCell ⟨v4.heap.size, 7, none⟩ (.string ⟨#[97, 98]⟩)).alloc (.cells #[.string ⟨#[]⟩, .string ⟨#[65]⟩, .string ⟨#[97, 98]⟩] 9)) = v6 at *
   have o0 := BX7.out.c0
   have q0_ := BR7.out.c0
   have fq0 := BR7.out.fz 0
   have o1 := BX7.out.c1
   have q1_ := BR7.out.c1
   have fq1 := BR7.out.fz 1
   have o2 := BX7.out.c2
   have q2_ := BR7.out.c2
   have fq2 := BR7.out.fz 2
   have o3 := BX7.out.c3
   have q3_ := BR7.out.c3
   have fq3 := BR7.out.fz 3
   have o4 := BX7.out.c4
   have q4_ := BR7.out.c4
   have fq4 := BR7.out.fz 4
   have o5 := BX7.out.c5
   have q5_ := BR7.out.c5
   have fq5 := BR7.out.fz 5
   have o6 := BX7.out.c6
   have q6_ := BR7.out.c6
   have fq6 := BR7.out.fz 6
   have o7 := BX7.out.c7
   have q7_ := BR7.out.c7
   have fq7 := BR7.out.fz 7
   go_wp2
   refine bodyPost_ret (v := .agg #[.int .i64 t.id, .int .i64 t.st, .int .i64 t.snap, .int .i64 t.cs, .slice ra t.rs.length rc, .slice wa t.ws.length wc, .bool t.out, .string ⟨#[97, 98]⟩]) (by simp [results, Tryz.results62, go_sem, q0_, q1_, q2_, q3_, q4_, q5_, q6_, q7_]) rfl ⟨⟨t.id, t.st, t.snap, t.cs, t.rs, t.ws, t.out, ⟨#[97, 98]⟩⟩, ra, rc, wa, wc, ⟨⟨HT.out.fit.1, HT.out.fit.2.1, HT.out.fit.2.2.1, HT.out.fit.2.2.2.1, by show (⟨#[97, 98]⟩ : ByteArray).size ≤ 1048576; decide⟩, Nat.le_trans HT.out.rl (by show _ ≤ _; omega), Nat.le_trans HT.out.wl (by show _ ≤ _; omega)⟩, rfl, ?_, ?_, ?_⟩
   ·exact (own_s8P OR7.out.own (by omega) _ _ _ _ _ _ _ _).mono (by omega)
   ·exact (own_s8P OW7.out.own (by omega) _ _ _ _ _ _ _ _).mono (by omega)
   ·exact D7.out.belowB (below_s8P (Below.refl _ _) (Nat.le_refl _) _ _ _ _ _ _ _ _)
 ·subst h
  have c4 := BX5.out.c4
  have f4 := BX5.out.fz 4
  have hb : Below v5.heap.size v5 (v5.alloc (.cells #[.string ⟨#[98]⟩, .string ⟨#[97]⟩] 35)) := (belowRefl v5).alloc (Nat.le_refl _) _
  have hsz : (v5.alloc (.cells #[.string ⟨#[98]⟩, .string ⟨#[97]⟩] 35)).heap.size = v5.heap.size + 1 := by simp
  have BR6 : Hid (Bx (v5.alloc (.cells #[.string ⟨#[98]⟩, .string ⟨#[97]⟩] 35)) (w.heap.size) [.int .i64 0, .int .i64 0, .int .i64 0, .int .i64 0, .slice none 0 0, .slice none 0 0, .bool false, .string ⟨#[]⟩]) := BR5.out.below hb
  have D6 : Hid (Dn w (v5.alloc (.cells #[.string ⟨#[98]⟩, .string ⟨#[97]⟩] 35)) g a len cap) := D5.out.below hb
  have OR6 : Hid (Lies encR 35 (v5.alloc (.cells #[.string ⟨#[98]⟩, .string ⟨#[97]⟩] 35)) (v3.heap.size) (m) (.slice ra t.rs.length rc) (t.rs)) := OR5.out.below hb
  have OW6 : Hid (Lies encW 55 (v5.alloc (.cells #[.string ⟨#[98]⟩, .string ⟨#[97]⟩] 35)) (m) (v4.heap.size) (.slice wa t.ws.length wc) (t.ws)) := OW5.out.below hb
  have BX6 : Hid (Bx (v5.alloc (.cells #[.string ⟨#[98]⟩, .string ⟨#[97]⟩] 35)) (v4.heap.size) [.int .i64 t.id, .int .i64 t.st, .int .i64 t.snap, .int .i64 t.cs, .slice ra t.rs.length rc, .slice wa t.ws.length wc, .bool t.out, .string t.nm]) := BX5.out.below hb
  clear BR5 D5 OR5 OW5 BX5
  go_wp2_with (at_builtin; refine wpAppK (E := encR) 27 35 32 _ Tryz.underlying27 Tryz.info35 rfl (by omega) rfl _ _ rfl (base := v3.heap.size) (v := .slice ra t.rs.length rc) (xs := t.rs) ((⟨#[98]⟩, ⟨#[97]⟩) : Rg) rone rfl OR6.out.own rfl (heap_alloc_new v5 _) (Nat.le_trans HT.out.rl (by omega)) (by omega) ?_)
  intro g2 c2 v6 ho hg hg2 hlt2
  clear c4 f4 hb
  have hgN : g2 ≠ v4.heap.size ∧ v3.heap.size ≤ g2 := by
   rcases hg2 with e | e
   ·have := OR6.out.lo g2 e; omega
   ·omega
  have BR7 : Hid (Bx v6 (w.heap.size) [.int .i64 0, .int .i64 0, .int .i64 0, .int .i64 0, .slice none 0 0, .slice none 0 0, .bool false, .string ⟨#[]⟩]) := bx_marked BR6.out hg (fun e => by have := OR6.out.lo _ e; omega)
  have D7 : Hid (Dn w v6 g a len cap) := D6.out.belowB (grown_low hg (fun b e => by have := OR6.out.lo b e; omega) (by simp; omega))
  have OW7 : Hid (Lies encW 55 v6 (m) (v4.heap.size) (.slice wa t.ws.length wc) (t.ws)) := OW6.out.marked2 hg (fun b e => by have := OR6.out.lo b e; omega)
  have BX7 : Hid (Bx v6 (v4.heap.size) [.int .i64 t.id, .int .i64 t.st, .int .i64 t.snap, .int .i64 t.cs, .slice ra t.rs.length rc, .slice wa t.ws.length wc, .bool t.out, .string t.nm]) := bx_marked BX6.out hg (fun e => by have := OR6.out.lo _ e; omega)
  clear BR6 D6 OW6 BX6
  clear OR6
  obtain ⟨rs2, hrs2⟩ : ∃ rs2, rs2 = t.rs ++ [((⟨#[98]⟩, ⟨#[97]⟩) : Rg)] := ⟨_, rfl⟩
  have hl2 : rs2.length = t.rs.length + 1 := by rw [hrs2]; simp
  rw [← hrs2, ← hl2] at ho
  have HL2 : Hid (t.rs.length + 1 = rs2.length) := hl2.symm
  have HR2 : Hid (RFit rs2 ∧ rs2.length ≤ 4) := ⟨by rw [hrs2]; exact rfit_more HT.out.rs.fit (by decide), by have := HT.out.rl; omega⟩
  clear hrs2 hl2 hg hg2
  have c4 := BX7.out.c4
  have f4 := BX7.out.fz 4
  have OR7 : Hid (GOwn encR 35 v6 (v3.heap.size) (.slice (some ⟨g2, 0, none⟩) rs2.length c2) (rs2)) := ho
  rw [HL2.out]
  go_upto_region 19 with fail
  clear c4 f4 ho
  have BR8 : Hid (Bx (v6.setCell ⟨v4.heap.size, 4, none⟩ (.slice (some ⟨g2, 0, none⟩) rs2.length c2)) (w.heap.size) [.int .i64 0, .int .i64 0, .int .i64 0, .int .i64 0, .slice none 0 0, .slice none 0 0, .bool false, .string ⟨#[]⟩]) := BR7.out.setO (p := ⟨v4.heap.size, 4, none⟩) (by show v4.heap.size ≠ w.heap.size; omega) _
  have D8 : Hid (Dn w (v6.setCell ⟨v4.heap.size, 4, none⟩ (.slice (some ⟨g2, 0, none⟩) rs2.length c2)) g a len cap) := D7.out.set (p := ⟨v4.heap.size, 4, none⟩) (by show w.heap.size ≤ v4.heap.size; omega) _
  have OW8 : Hid (Lies encW 55 (v6.setCell ⟨v4.heap.size, 4, none⟩ (.slice (some ⟨g2, 0, none⟩) rs2.length c2)) (m) (v4.heap.size) (.slice wa t.ws.length wc) (t.ws)) := OW7.out.setxP (a := ⟨v4.heap.size, 4, none⟩) (fun b hb => (by have := OW7.out.lo b hb; show v4.heap.size ≠ b; omega)) _
  have BX8 : Hid (Bx (v6.setCell ⟨v4.heap.size, 4, none⟩ (.slice (some ⟨g2, 0, none⟩) rs2.length c2)) (v4.heap.size) [.int .i64 t.id, .int .i64 t.st, .int .i64 t.snap, .int .i64 t.cs, .slice (some ⟨g2, 0, none⟩) rs2.length c2, .slice wa t.ws.length wc, .bool t.out, .string t.nm]) := BX7.out.set 4 _
  have OR8 : Hid (GOwn encR 35 (v6.setCell ⟨v4.heap.size, 4, none⟩ (.slice (some ⟨g2, 0, none⟩) rs2.length c2)) (v3.heap.size) (.slice (some ⟨g2, 0, none⟩) rs2.length c2) (rs2)) := own_setP OR7.out (a := ⟨v4.heap.size, 4, none⟩) (fun b hb => (by have hb2 : g2 = b := (by simpa [Value.ownBlock] using hb); have := hgN; show v4.heap.size ≠ b; omega)) _
  clear BR7 D7 OW7 BX7 OR7
  generalize (v6.setCell ⟨v4.heap.size, 4, none⟩ (.slice (some ⟨g2, 0, none⟩) rs2.length c2)) = v7 at *
  have hm9 := HR2.out
  have o0 := BX8.out.c0
  have q0_ := BR8.out.c0
  have fq0 := BR8.out.fz 0
  have o1 := BX8.out.c1
  have q1_ := BR8.out.c1
  have fq1 := BR8.out.fz 1
  have o2 := BX8.out.c2
  have q2_ := BR8.out.c2
  have fq2 := BR8.out.fz 2
  have o3 := BX8.out.c3
  have q3_ := BR8.out.c3
  have fq3 := BR8.out.fz 3
  have o4 := BX8.out.c4
  have q4_ := BR8.out.c4
  have fq4 := BR8.out.fz 4
  have o5 := BX8.out.c5
  have q5_ := BR8.out.c5
  have fq5 := BR8.out.fz 5
  have o6 := BX8.out.c6
  have q6_ := BR8.out.c6
  have fq6 := BR8.out.fz 6
  have o7 := BX8.out.c7
  have q7_ := BR8.out.c7
  have fq7 := BR8.out.fz 7
  go_wp2
  refine bodyPost_ret (v := .agg #[.int .i64 t.id, .int .i64 t.st, .int .i64 t.snap, .int .i64 t.cs, .slice (some ⟨g2, 0, none⟩) rs2.length c2, .slice wa t.ws.length wc, .bool t.out, .string t.nm]) (by simp [results, Tryz.results62, go_sem, q0_, q1_, q2_, q3_, q4_, q5_, q6_, q7_]) rfl ⟨⟨t.id, t.st, t.snap, t.cs, rs2, t.ws, t.out, t.nm⟩, (some ⟨g2, 0, none⟩), c2, wa, wc, ⟨⟨by show rs2.length ≤ _; omega, HR2.out.1, HT.out.fit.2.2.1, HT.out.fit.2.2.2.1, HT.out.fit.2.2.2.2⟩, HR2.out.2, Nat.le_trans HT.out.wl (by omega)⟩, rfl, ?_, ?_, ?_⟩
  ·exact (own_s8P OR8.out (by omega) _ _ _ _ _ _ _ _).mono (by omega)
  ·exact (own_s8P OW8.out.own (by omega) _ _ _ _ _ _ _ _).mono (by omega)
  ·exact D8.out.belowB (below_s8P (Below.refl _ _) (Nat.le_refl _) _ _ _ _ _ _ _ _)
 ·subst h
  have hwl0 := HT.out.wl
  go_wp2
  refine wp_region_held_drew (S := fun _ => True) (by kernel_rfl) trivial (fun hHeld => ?_)
  (refine tk 0 ?_ rfl (Or.inl ⟨by rfl, ?_⟩) ?_; rotate_left; (focus (intro w h; (try dsimp only at h); go_simp; (try with_reducible rfl))); simp only [Act.put, tA, tB, tD, tE, tF])
  (refine tk 2 ?_ rfl (Or.inl ⟨by rfl, ?_⟩) ?_; rotate_left; (focus (intro w h; (try dsimp only at h); go_simp; (try with_reducible rfl))); simp only [Act.put, tA, tB, tC, tD, tE, tF])
  refine wpAnyH_ready (rs := [1, 3]) (by kernel_rfl) (by simp) ?_
  refine (AllReadyH.cons rfl (fun K hK => ?_) (AllReadyH.cons rfl (fun K hK => ?_) AllReadyH.nil))
  ·have c5 := BX5.out.c5
   go_simp
   (try go_wp2_with fail)
   refine hK.out _ _ trivial (fun hHeldX => ?_)
   clear hK K
   clear c5
   refine wpAnyH_ready (rs := [3]) (by kernel_rfl) (by simp) ?_
   refine (AllReadyH.cons rfl (fun K hK => ?_) AllReadyH.nil)
   go_simp
   go_wp2_with fail
   have BR6 : Hid (Bx v5.drew (w.heap.size) [.int .i64 0, .int .i64 0, .int .i64 0, .int .i64 0, .slice none 0 0, .slice none 0 0, .bool false, .string ⟨#[]⟩]) := BR5.out.below (belowRefl v5).drew
   have D6 : Hid (Dn w v5.drew g a len cap) := D5.out.below (belowRefl v5).drew
   have OR6 : Hid (Lies encR 35 v5.drew (v3.heap.size) (m) (.slice ra t.rs.length rc) (t.rs)) := OR5.out.below (belowRefl v5).drew
   have OW6 : Hid (Lies encW 55 v5.drew (m) (v4.heap.size) (.slice wa t.ws.length wc) (t.ws)) := OW5.out.below (belowRefl v5).drew
   have BX6 : Hid (Bx v5.drew (v4.heap.size) [.int .i64 t.id, .int .i64 t.st, .int .i64 t.snap, .int .i64 t.cs, .slice ra t.rs.length rc, .slice wa t.ws.length wc, .bool t.out, .string t.nm]) := BX5.out.below (belowRefl v5).drew
   clear BR5 D5 OR5 OW5 BX5
   have hdr : v5.drew.heap.size = v5.heap.size := rfl
   generalize v5.drew = v6 at *
   refine (drAny g len cap a _ D6.out.c).mono ?_
   rintro e v7 ⟨y, hy, rfl, d⟩
   have hs7 := d.size
   have BR7 : Hid (Bx v7 (w.heap.size) [.int .i64 0, .int .i64 0, .int .i64 0, .int .i64 0, .slice none 0 0, .slice none 0 0, .bool false, .string ⟨#[]⟩]) := BR6.out.keptD d (by omega)
   have D7 : Hid (Dn w v7 g a len cap) := D6.out.step d
   have OR7 : Hid (Lies encR 35 v7 (v3.heap.size) (m) (.slice ra t.rs.length rc) (t.rs)) := ⟨OR6.out.own.keptD d (by omega), OR6.out.up⟩
   have OW7 : Hid (Lies encW 55 v7 (m) (v4.heap.size) (.slice wa t.ws.length wc) (t.ws)) := ⟨OW6.out.own.keptD d (by omega), OW6.out.up⟩
   have BX7 : Hid (Bx v7 (v4.heap.size) [.int .i64 t.id, .int .i64 t.st, .int .i64 t.snap, .int .i64 t.cs, .slice ra t.rs.length rc, .slice wa t.ws.length wc, .bool t.out, .string t.nm]) := BX6.out.keptD d (by omega)
   clear BR6 D6 OR6 OW6 BX6
   clear d
   have HY := hide hy
   clear hy
   go_wp2_with fail
   refine hK.out _ _ trivial (fun hHeldX => ?_)
   clear hK K
   refine wpAnyH_ready (rs := [4]) (by kernel_rfl) (by simp) ?_
   refine (AllReadyH.cons rfl (fun K hK => ?_) AllReadyH.nil)
   go_simp
   have hb : Below v7.heap.size v7 (v7.alloc (.cells #[.string y.1, .string y.2.1, .bool y.2.2] 55)) := (belowRefl v7).alloc (Nat.le_refl _) _
   have hsz : (v7.alloc (.cells #[.string y.1, .string y.2.1, .bool y.2.2] 55)).heap.size = v7.heap.size + 1 := by simp
   have BR8 : Hid (Bx (v7.alloc (.cells #[.string y.1, .string y.2.1, .bool y.2.2] 55)) (w.heap.size) [.int .i64 0, .int .i64 0, .int .i64 0, .int .i64 0, .slice none 0 0, .slice none 0 0, .bool false, .string ⟨#[]⟩]) := BR7.out.below hb
   have D8 : Hid (Dn w (v7.alloc (.cells #[.string y.1, .string y.2.1, .bool y.2.2] 55)) g a len cap) := D7.out.below hb
   have OR8 : Hid (Lies encR 35 (v7.alloc (.cells #[.string y.1, .string y.2.1, .bool y.2.2] 55)) (v3.heap.size) (m) (.slice ra t.rs.length rc) (t.rs)) := OR7.out.below hb
   have OW8 : Hid (Lies encW 55 (v7.alloc (.cells #[.string y.1, .string y.2.1, .bool y.2.2] 55)) (m) (v4.heap.size) (.slice wa t.ws.length wc) (t.ws)) := OW7.out.below hb
   have BX8 : Hid (Bx (v7.alloc (.cells #[.string y.1, .string y.2.1, .bool y.2.2] 55)) (v4.heap.size) [.int .i64 t.id, .int .i64 t.st, .int .i64 t.snap, .int .i64 t.cs, .slice ra t.rs.length rc, .slice wa t.ws.length wc, .bool t.out, .string t.nm]) := BX7.out.below hb
   clear BR7 D7 OR7 OW7 BX7
   refine hK.out _ _ trivial (fun hHeldX => ?_)
   clear hK K
   clear hb
   refine wpAnyH_ready (rs := [5]) (by kernel_rfl) (by simp) ?_
   refine (AllReadyH.cons rfl (fun K hK => ?_) AllReadyH.nil)
   refine stepAppK (E := encW) 28 55 40 _ Tryz.underlying28 Tryz.info55 rfl (by omega) rfl _ _ rfl (base := m) (v := .slice wa t.ws.length wc) (xs := t.ws) y wone rfl OW8.out.own rfl (heap_alloc_new v7 _) (Nat.le_trans HT.out.wl (by omega)) (by omega) ?_
   intro g2 c2 v8 ho hg hg2 hlt2
   have hgN : g2 ≠ v4.heap.size ∧ v3.heap.size ≤ g2 := by
    rcases hg2 with e | e
    ·have := OW8.out.lo g2 e; omega
    ·omega
   have BR9 : Hid (Bx v8 (w.heap.size) [.int .i64 0, .int .i64 0, .int .i64 0, .int .i64 0, .slice none 0 0, .slice none 0 0, .bool false, .string ⟨#[]⟩]) := bx_marked BR8.out hg (fun e => by have := OW8.out.lo _ e; omega)
   have D9 : Hid (Dn w v8 g a len cap) := D8.out.belowB (grown_low hg (fun b e => by have := OW8.out.lo b e; omega) (by simp; omega))
   have OR9 : Hid (Lies encR 35 v8 (v3.heap.size) (m) (.slice ra t.rs.length rc) (t.rs)) := OR8.out.marked2 hg (fun b e => by have := OW8.out.lo b e; omega)
   have BX9 : Hid (Bx v8 (v4.heap.size) [.int .i64 t.id, .int .i64 t.st, .int .i64 t.snap, .int .i64 t.cs, .slice ra t.rs.length rc, .slice wa t.ws.length wc, .bool t.out, .string t.nm]) := bx_marked BX8.out hg (fun e => by have := OW8.out.lo _ e; omega)
   clear BR8 D8 OR8 BX8
   clear OW8
   obtain ⟨ws2, hws2⟩ : ∃ ws2, ws2 = t.ws ++ [y] := ⟨_, rfl⟩
   have hl2 : ws2.length = t.ws.length + 1 := by rw [hws2]; simp
   rw [← hws2, ← hl2] at ho
   have HL2 : Hid (t.ws.length + 1 = ws2.length) := hl2.symm
   have HR2 : Hid (WFit ws2 ∧ ws2.length ≤ 4) := ⟨by rw [hws2]; exact wfit_more HT.out.ws.fit ⟨Nat.le_trans HY.out.1 (by omega), Nat.le_trans HY.out.2 (by omega)⟩, by have := HT.out.wl; omega⟩
   clear hws2 hl2 hg hg2
   have OW9 : Hid (GOwn encW 55 v8 (m) (.slice (some ⟨g2, 0, none⟩) ws2.length c2) (ws2)) := ho
   clear ho
   rw [HL2.out]
   refine hK.out _ _ trivial (fun hHeldX => ?_)
   clear hK K
   (refine tk 6 ?_ rfl (Or.inl ⟨by rfl, ?_⟩) ?_; rotate_left; (focus (intro w h; (try dsimp only at h); go_simp; (try with_reducible rfl))); simp only [Act.put, tA, tB, tC, tD, tE, tF])
   have c5 := BX9.out.c5
   have f5 := BX9.out.fz 5
   refine wpAnyH_ready (rs := [7]) (by kernel_rfl) (by simp) ?_
   refine (AllReadyH.cons rfl (fun K hK => ?_) AllReadyH.nil)
   go_simp
   have BR10 : Hid (Bx (v8.setCell ⟨v4.heap.size, 5, none⟩ (.slice (some ⟨g2, 0, none⟩) ws2.length c2)) (w.heap.size) [.int .i64 0, .int .i64 0, .int .i64 0, .int .i64 0, .slice none 0 0, .slice none 0 0, .bool false, .string ⟨#[]⟩]) := BR9.out.setO (p := ⟨v4.heap.size, 5, none⟩) (by show v4.heap.size ≠ w.heap.size; omega) _
   have D10 : Hid (Dn w (v8.setCell ⟨v4.heap.size, 5, none⟩ (.slice (some ⟨g2, 0, none⟩) ws2.length c2)) g a len cap) := D9.out.set (p := ⟨v4.heap.size, 5, none⟩) (by show w.heap.size ≤ v4.heap.size; omega) _
   have OR10 : Hid (Lies encR 35 (v8.setCell ⟨v4.heap.size, 5, none⟩ (.slice (some ⟨g2, 0, none⟩) ws2.length c2)) (v3.heap.size) (m) (.slice ra t.rs.length rc) (t.rs)) := OR9.out.setxP (a := ⟨v4.heap.size, 5, none⟩) (fun b hb => (by have := OR9.out.lo b hb; show v4.heap.size ≠ b; omega)) _
   have BX10 : Hid (Bx (v8.setCell ⟨v4.heap.size, 5, none⟩ (.slice (some ⟨g2, 0, none⟩) ws2.length c2)) (v4.heap.size) [.int .i64 t.id, .int .i64 t.st, .int .i64 t.snap, .int .i64 t.cs, .slice ra t.rs.length rc, .slice (some ⟨g2, 0, none⟩) ws2.length c2, .bool t.out, .string t.nm]) := BX9.out.set 5 _
   have OW10 : Hid (GOwn encW 55 (v8.setCell ⟨v4.heap.size, 5, none⟩ (.slice (some ⟨g2, 0, none⟩) ws2.length c2)) (m) (.slice (some ⟨g2, 0, none⟩) ws2.length c2) (ws2)) := own_setP OW9.out (a := ⟨v4.heap.size, 5, none⟩) (fun b hb => (by have hb2 : g2 = b := (by simpa [Value.ownBlock] using hb); have := hgN; show v4.heap.size ≠ b; omega)) _
   clear BR9 D9 OR9 BX9 OW9
   generalize (v8.setCell ⟨v4.heap.size, 5, none⟩ (.slice (some ⟨g2, 0, none⟩) ws2.length c2)) = v9 at *
   (try go_wp2_with fail)
   refine hK.out _ _ trivial (fun hHeldX => ?_)
   clear hK K
   refine wpAnyH_done (by kernel_rfl) ?_ _
   clear c5 f5
   go_upto_region 19 with fail
   have hm9 := HR2.out
   have o0 := BX10.out.c0
   have q0_ := BR10.out.c0
   have fq0 := BR10.out.fz 0
   have o1 := BX10.out.c1
   have q1_ := BR10.out.c1
   have fq1 := BR10.out.fz 1
   have o2 := BX10.out.c2
   have q2_ := BR10.out.c2
   have fq2 := BR10.out.fz 2
   have o3 := BX10.out.c3
   have q3_ := BR10.out.c3
   have fq3 := BR10.out.fz 3
   have o4 := BX10.out.c4
   have q4_ := BR10.out.c4
   have fq4 := BR10.out.fz 4
   have o5 := BX10.out.c5
   have q5_ := BR10.out.c5
   have fq5 := BR10.out.fz 5
   have o6 := BX10.out.c6
   have q6_ := BR10.out.c6
   have fq6 := BR10.out.fz 6
   have o7 := BX10.out.c7
   have q7_ := BR10.out.c7
   have fq7 := BR10.out.fz 7
   go_wp2
   refine bodyPost_ret (v := .agg #[.int .i64 t.id, .int .i64 t.st, .int .i64 t.snap, .int .i64 t.cs, .slice ra t.rs.length rc, .slice (some ⟨g2, 0, none⟩) ws2.length c2, .bool t.out, .string t.nm]) (by simp [results, Tryz.results62, go_sem, q0_, q1_, q2_, q3_, q4_, q5_, q6_, q7_]) rfl ⟨⟨t.id, t.st, t.snap, t.cs, t.rs, ws2, t.out, t.nm⟩, ra, rc, (some ⟨g2, 0, none⟩), c2, ⟨⟨HT.out.fit.1, HT.out.fit.2.1, by show ws2.length ≤ _; omega, HR2.out.1, HT.out.fit.2.2.2.2⟩, Nat.le_trans HT.out.rl (by omega), HR2.out.2⟩, rfl, ?_, ?_, ?_⟩
   ·exact (own_s8P OR10.out.own (by omega) _ _ _ _ _ _ _ _).mono (by omega)
   ·exact (own_s8P OW10.out (by omega) _ _ _ _ _ _ _ _).mono (by omega)
   ·exact D10.out.belowB (below_s8P (Below.refl _ _) (Nat.le_refl _) _ _ _ _ _ _ _ _)
  ·go_simp
   go_wp2_with fail
   have BR6 : Hid (Bx v5.drew (w.heap.size) [.int .i64 0, .int .i64 0, .int .i64 0, .int .i64 0, .slice none 0 0, .slice none 0 0, .bool false, .string ⟨#[]⟩]) := BR5.out.below (belowRefl v5).drew
   have D6 : Hid (Dn w v5.drew g a len cap) := D5.out.below (belowRefl v5).drew
   have OR6 : Hid (Lies encR 35 v5.drew (v3.heap.size) (m) (.slice ra t.rs.length rc) (t.rs)) := OR5.out.below (belowRefl v5).drew
   have OW6 : Hid (Lies encW 55 v5.drew (m) (v4.heap.size) (.slice wa t.ws.length wc) (t.ws)) := OW5.out.below (belowRefl v5).drew
   have BX6 : Hid (Bx v5.drew (v4.heap.size) [.int .i64 t.id, .int .i64 t.st, .int .i64 t.snap, .int .i64 t.cs, .slice ra t.rs.length rc, .slice wa t.ws.length wc, .bool t.out, .string t.nm]) := BX5.out.below (belowRefl v5).drew
   clear BR5 D5 OR5 OW5 BX5
   have hdr : v5.drew.heap.size = v5.heap.size := rfl
   generalize v5.drew = v6 at *
   refine (drAny g len cap a _ D6.out.c).mono ?_
   rintro e v7 ⟨y, hy, rfl, d⟩
   have hs7 := d.size
   have BR7 : Hid (Bx v7 (w.heap.size) [.int .i64 0, .int .i64 0, .int .i64 0, .int .i64 0, .slice none 0 0, .slice none 0 0, .bool false, .string ⟨#[]⟩]) := BR6.out.keptD d (by omega)
   have D7 : Hid (Dn w v7 g a len cap) := D6.out.step d
   have OR7 : Hid (Lies encR 35 v7 (v3.heap.size) (m) (.slice ra t.rs.length rc) (t.rs)) := ⟨OR6.out.own.keptD d (by omega), OR6.out.up⟩
   have OW7 : Hid (Lies encW 55 v7 (m) (v4.heap.size) (.slice wa t.ws.length wc) (t.ws)) := ⟨OW6.out.own.keptD d (by omega), OW6.out.up⟩
   have BX7 : Hid (Bx v7 (v4.heap.size) [.int .i64 t.id, .int .i64 t.st, .int .i64 t.snap, .int .i64 t.cs, .slice ra t.rs.length rc, .slice wa t.ws.length wc, .bool t.out, .string t.nm]) := BX6.out.keptD d (by omega)
   clear BR6 D6 OR6 OW6 BX6
   clear d
   have HY := hide hy
   clear hy
   go_wp2_with fail
   refine hK.out _ _ trivial (fun hHeldX => ?_)
   clear hK K
   refine wpAnyH_ready (rs := [1, 4]) (by kernel_rfl) (by simp) ?_
   refine (AllReadyH.cons rfl (fun K hK => ?_) (AllReadyH.cons rfl (fun K hK => ?_) AllReadyH.nil))
   ·have c5 := BX7.out.c5
    go_simp
    (try go_wp2_with fail)
    refine hK.out _ _ trivial (fun hHeldX => ?_)
    clear hK K
    clear c5
    refine wpAnyH_ready (rs := [4]) (by kernel_rfl) (by simp) ?_
    refine (AllReadyH.cons rfl (fun K hK => ?_) AllReadyH.nil)
    go_simp
    have hb : Below v7.heap.size v7 (v7.alloc (.cells #[.string y.1, .string y.2.1, .bool y.2.2] 55)) := (belowRefl v7).alloc (Nat.le_refl _) _
    have hsz : (v7.alloc (.cells #[.string y.1, .string y.2.1, .bool y.2.2] 55)).heap.size = v7.heap.size + 1 := by simp
    have BR8 : Hid (Bx (v7.alloc (.cells #[.string y.1, .string y.2.1, .bool y.2.2] 55)) (w.heap.size) [.int .i64 0, .int .i64 0, .int .i64 0, .int .i64 0, .slice none 0 0, .slice none 0 0, .bool false, .string ⟨#[]⟩]) := BR7.out.below hb
    have D8 : Hid (Dn w (v7.alloc (.cells #[.string y.1, .string y.2.1, .bool y.2.2] 55)) g a len cap) := D7.out.below hb
    have OR8 : Hid (Lies encR 35 (v7.alloc (.cells #[.string y.1, .string y.2.1, .bool y.2.2] 55)) (v3.heap.size) (m) (.slice ra t.rs.length rc) (t.rs)) := OR7.out.below hb
    have OW8 : Hid (Lies encW 55 (v7.alloc (.cells #[.string y.1, .string y.2.1, .bool y.2.2] 55)) (m) (v4.heap.size) (.slice wa t.ws.length wc) (t.ws)) := OW7.out.below hb
    have BX8 : Hid (Bx (v7.alloc (.cells #[.string y.1, .string y.2.1, .bool y.2.2] 55)) (v4.heap.size) [.int .i64 t.id, .int .i64 t.st, .int .i64 t.snap, .int .i64 t.cs, .slice ra t.rs.length rc, .slice wa t.ws.length wc, .bool t.out, .string t.nm]) := BX7.out.below hb
    clear BR7 D7 OR7 OW7 BX7
    refine hK.out _ _ trivial (fun hHeldX => ?_)
    clear hK K
    clear hb
    refine wpAnyH_ready (rs := [5]) (by kernel_rfl) (by simp) ?_
    refine (AllReadyH.cons rfl (fun K hK => ?_) AllReadyH.nil)
    refine stepAppK (E := encW) 28 55 40 _ Tryz.underlying28 Tryz.info55 rfl (by omega) rfl _ _ rfl (base := m) (v := .slice wa t.ws.length wc) (xs := t.ws) y wone rfl OW8.out.own rfl (heap_alloc_new v7 _) (Nat.le_trans HT.out.wl (by omega)) (by omega) ?_
    intro g2 c2 v8 ho hg hg2 hlt2
    have hgN : g2 ≠ v4.heap.size ∧ v3.heap.size ≤ g2 := by
     rcases hg2 with e | e
     ·have := OW8.out.lo g2 e; omega
     ·omega
    have BR9 : Hid (Bx v8 (w.heap.size) [.int .i64 0, .int .i64 0, .int .i64 0, .int .i64 0, .slice none 0 0, .slice none 0 0, .bool false, .string ⟨#[]⟩]) := bx_marked BR8.out hg (fun e => by have := OW8.out.lo _ e; omega)
    have D9 : Hid (Dn w v8 g a len cap) := D8.out.belowB (grown_low hg (fun b e => by have := OW8.out.lo b e; omega) (by simp; omega))
    have OR9 : Hid (Lies encR 35 v8 (v3.heap.size) (m) (.slice ra t.rs.length rc) (t.rs)) := OR8.out.marked2 hg (fun b e => by have := OW8.out.lo b e; omega)
    have BX9 : Hid (Bx v8 (v4.heap.size) [.int .i64 t.id, .int .i64 t.st, .int .i64 t.snap, .int .i64 t.cs, .slice ra t.rs.length rc, .slice wa t.ws.length wc, .bool t.out, .string t.nm]) := bx_marked BX8.out hg (fun e => by have := OW8.out.lo _ e; omega)
    clear BR8 D8 OR8 BX8
    clear OW8
    obtain ⟨ws2, hws2⟩ : ∃ ws2, ws2 = t.ws ++ [y] := ⟨_, rfl⟩
    have hl2 : ws2.length = t.ws.length + 1 := by rw [hws2]; simp
    rw [← hws2, ← hl2] at ho
    have HL2 : Hid (t.ws.length + 1 = ws2.length) := hl2.symm
    have HR2 : Hid (WFit ws2 ∧ ws2.length ≤ 4) := ⟨by rw [hws2]; exact wfit_more HT.out.ws.fit ⟨Nat.le_trans HY.out.1 (by omega), Nat.le_trans HY.out.2 (by omega)⟩, by have := HT.out.wl; omega⟩
    clear hws2 hl2 hg hg2
    have OW9 : Hid (GOwn encW 55 v8 (m) (.slice (some ⟨g2, 0, none⟩) ws2.length c2) (ws2)) := ho
    clear ho
    rw [HL2.out]
    refine hK.out _ _ trivial (fun hHeldX => ?_)
    clear hK K
    (refine tk 6 ?_ rfl (Or.inl ⟨by rfl, ?_⟩) ?_; rotate_left; (focus (intro w h; (try dsimp only at h); go_simp; (try with_reducible rfl))); simp only [Act.put, tA, tB, tC, tD, tE, tF])
    have c5 := BX9.out.c5
    have f5 := BX9.out.fz 5
    refine wpAnyH_ready (rs := [7]) (by kernel_rfl) (by simp) ?_
    refine (AllReadyH.cons rfl (fun K hK => ?_) AllReadyH.nil)
    go_simp
    have BR10 : Hid (Bx (v8.setCell ⟨v4.heap.size, 5, none⟩ (.slice (some ⟨g2, 0, none⟩) ws2.length c2)) (w.heap.size) [.int .i64 0, .int .i64 0, .int .i64 0, .int .i64 0, .slice none 0 0, .slice none 0 0, .bool false, .string ⟨#[]⟩]) := BR9.out.setO (p := ⟨v4.heap.size, 5, none⟩) (by show v4.heap.size ≠ w.heap.size; omega) _
    have D10 : Hid (Dn w (v8.setCell ⟨v4.heap.size, 5, none⟩ (.slice (some ⟨g2, 0, none⟩) ws2.length c2)) g a len cap) := D9.out.set (p := ⟨v4.heap.size, 5, none⟩) (by show w.heap.size ≤ v4.heap.size; omega) _
    have OR10 : Hid (Lies encR 35 (v8.setCell ⟨v4.heap.size, 5, none⟩ (.slice (some ⟨g2, 0, none⟩) ws2.length c2)) (v3.heap.size) (m) (.slice ra t.rs.length rc) (t.rs)) := OR9.out.setxP (a := ⟨v4.heap.size, 5, none⟩) (fun b hb => (by have := OR9.out.lo b hb; show v4.heap.size ≠ b; omega)) _
    have BX10 : Hid (Bx (v8.setCell ⟨v4.heap.size, 5, none⟩ (.slice (some ⟨g2, 0, none⟩) ws2.length c2)) (v4.heap.size) [.int .i64 t.id, .int .i64 t.st, .int .i64 t.snap, .int .i64 t.cs, .slice ra t.rs.length rc, .slice (some ⟨g2, 0, none⟩) ws2.length c2, .bool t.out, .string t.nm]) := BX9.out.set 5 _
    have OW10 : Hid (GOwn encW 55 (v8.setCell ⟨v4.heap.size, 5, none⟩ (.slice (some ⟨g2, 0, none⟩) ws2.length c2)) (m) (.slice (some ⟨g2, 0, none⟩) ws2.length c2) (ws2)) := own_setP OW9.out (a := ⟨v4.heap.size, 5, none⟩) (fun b hb => (by have hb2 : g2 = b := (by simpa [Value.ownBlock] using hb); have := hgN; show v4.heap.size ≠ b; omega)) _
    clear BR9 D9 OR9 BX9 OW9
    generalize (v8.setCell ⟨v4.heap.size, 5, none⟩ (.slice (some ⟨g2, 0, none⟩) ws2.length c2)) = v9 at *
    (try go_wp2_with fail)
    refine hK.out _ _ trivial (fun hHeldX => ?_)
    clear hK K
    refine wpAnyH_done (by kernel_rfl) ?_ _
    clear c5 f5
    go_upto_region 19 with fail
    have hm9 := HR2.out
    have o0 := BX10.out.c0
    have q0_ := BR10.out.c0
    have fq0 := BR10.out.fz 0
    have o1 := BX10.out.c1
    have q1_ := BR10.out.c1
    have fq1 := BR10.out.fz 1
    have o2 := BX10.out.c2
    have q2_ := BR10.out.c2
    have fq2 := BR10.out.fz 2
    have o3 := BX10.out.c3
    have q3_ := BR10.out.c3
    have fq3 := BR10.out.fz 3
    have o4 := BX10.out.c4
    have q4_ := BR10.out.c4
    have fq4 := BR10.out.fz 4
    have o5 := BX10.out.c5
    have q5_ := BR10.out.c5
    have fq5 := BR10.out.fz 5
    have o6 := BX10.out.c6
    have q6_ := BR10.out.c6
    have fq6 := BR10.out.fz 6
    have o7 := BX10.out.c7
    have q7_ := BR10.out.c7
    have fq7 := BR10.out.fz 7
    go_wp2
    refine bodyPost_ret (v := .agg #[.int .i64 t.id, .int .i64 t.st, .int .i64 t.snap, .int .i64 t.cs, .slice ra t.rs.length rc, .slice (some ⟨g2, 0, none⟩) ws2.length c2, .bool t.out, .string t.nm]) (by simp [results, Tryz.results62, go_sem, q0_, q1_, q2_, q3_, q4_, q5_, q6_, q7_]) rfl ⟨⟨t.id, t.st, t.snap, t.cs, t.rs, ws2, t.out, t.nm⟩, ra, rc, (some ⟨g2, 0, none⟩), c2, ⟨⟨HT.out.fit.1, HT.out.fit.2.1, by show ws2.length ≤ _; omega, HR2.out.1, HT.out.fit.2.2.2.2⟩, Nat.le_trans HT.out.rl (by omega), HR2.out.2⟩, rfl, ?_, ?_, ?_⟩
    ·exact (own_s8P OR10.out.own (by omega) _ _ _ _ _ _ _ _).mono (by omega)
    ·exact (own_s8P OW10.out (by omega) _ _ _ _ _ _ _ _).mono (by omega)
    ·exact D10.out.belowB (below_s8P (Below.refl _ _) (Nat.le_refl _) _ _ _ _ _ _ _ _)
   ·go_simp
    have hb : Below v7.heap.size v7 (v7.alloc (.cells #[.string y.1, .string y.2.1, .bool y.2.2] 55)) := (belowRefl v7).alloc (Nat.le_refl _) _
    have hsz : (v7.alloc (.cells #[.string y.1, .string y.2.1, .bool y.2.2] 55)).heap.size = v7.heap.size + 1 := by simp
    have BR8 : Hid (Bx (v7.alloc (.cells #[.string y.1, .string y.2.1, .bool y.2.2] 55)) (w.heap.size) [.int .i64 0, .int .i64 0, .int .i64 0, .int .i64 0, .slice none 0 0, .slice none 0 0, .bool false, .string ⟨#[]⟩]) := BR7.out.below hb
    have D8 : Hid (Dn w (v7.alloc (.cells #[.string y.1, .string y.2.1, .bool y.2.2] 55)) g a len cap) := D7.out.below hb
    have OR8 : Hid (Lies encR 35 (v7.alloc (.cells #[.string y.1, .string y.2.1, .bool y.2.2] 55)) (v3.heap.size) (m) (.slice ra t.rs.length rc) (t.rs)) := OR7.out.below hb
    have OW8 : Hid (Lies encW 55 (v7.alloc (.cells #[.string y.1, .string y.2.1, .bool y.2.2] 55)) (m) (v4.heap.size) (.slice wa t.ws.length wc) (t.ws)) := OW7.out.below hb
    have BX8 : Hid (Bx (v7.alloc (.cells #[.string y.1, .string y.2.1, .bool y.2.2] 55)) (v4.heap.size) [.int .i64 t.id, .int .i64 t.st, .int .i64 t.snap, .int .i64 t.cs, .slice ra t.rs.length rc, .slice wa t.ws.length wc, .bool t.out, .string t.nm]) := BX7.out.below hb
    clear BR7 D7 OR7 OW7 BX7
    refine hK.out _ _ trivial (fun hHeldX => ?_)
    clear hK K
    clear hb
    refine wpAnyH_ready (rs := [1]) (by kernel_rfl) (by simp) ?_
    refine (AllReadyH.cons rfl (fun K hK => ?_) AllReadyH.nil)
    have c5 := BX8.out.c5
    go_simp
    (try go_wp2_with fail)
    refine hK.out _ _ trivial (fun hHeldX => ?_)
    clear hK K
    clear c5
    refine wpAnyH_ready (rs := [5]) (by kernel_rfl) (by simp) ?_
    refine (AllReadyH.cons rfl (fun K hK => ?_) AllReadyH.nil)
    refine stepAppK (E := encW) 28 55 40 _ Tryz.underlying28 Tryz.info55 rfl (by omega) rfl _ _ rfl (base := m) (v := .slice wa t.ws.length wc) (xs := t.ws) y wone rfl OW8.out.own rfl (heap_alloc_new v7 _) (Nat.le_trans HT.out.wl (by omega)) (by omega) ?_
    intro g2 c2 v8 ho hg hg2 hlt2
    have hgN : g2 ≠ v4.heap.size ∧ v3.heap.size ≤ g2 := by
     rcases hg2 with e | e
     ·have := OW8.out.lo g2 e; omega
     ·omega
    have BR9 : Hid (Bx v8 (w.heap.size) [.int .i64 0, .int .i64 0, .int .i64 0, .int .i64 0, .slice none 0 0, .slice none 0 0, .bool false, .string ⟨#[]⟩]) := bx_marked BR8.out hg (fun e => by have := OW8.out.lo _ e; omega)
    have D9 : Hid (Dn w v8 g a len cap) := D8.out.belowB (grown_low hg (fun b e => by have := OW8.out.lo b e; omega) (by simp; omega))
    have OR9 : Hid (Lies encR 35 v8 (v3.heap.size) (m) (.slice ra t.rs.length rc) (t.rs)) := OR8.out.marked2 hg (fun b e => by have := OW8.out.lo b e; omega)
    have BX9 : Hid (Bx v8 (v4.heap.size) [.int .i64 t.id, .int .i64 t.st, .int .i64 t.snap, .int .i64 t.cs, .slice ra t.rs.length rc, .slice wa t.ws.length wc, .bool t.out, .string t.nm]) := bx_marked BX8.out hg (fun e => by have := OW8.out.lo _ e; omega)
    clear BR8 D8 OR8 BX8
    clear OW8
    obtain ⟨ws2, hws2⟩ : ∃ ws2, ws2 = t.ws ++ [y] := ⟨_, rfl⟩
    have hl2 : ws2.length = t.ws.length + 1 := by rw [hws2]; simp
    rw [← hws2, ← hl2] at ho
    have HL2 : Hid (t.ws.length + 1 = ws2.length) := hl2.symm
    have HR2 : Hid (WFit ws2 ∧ ws2.length ≤ 4) := ⟨by rw [hws2]; exact wfit_more HT.out.ws.fit ⟨Nat.le_trans HY.out.1 (by omega), Nat.le_trans HY.out.2 (by omega)⟩, by have := HT.out.wl; omega⟩
    clear hws2 hl2 hg hg2
    have OW9 : Hid (GOwn encW 55 v8 (m) (.slice (some ⟨g2, 0, none⟩) ws2.length c2) (ws2)) := ho
    clear ho
    rw [HL2.out]
    refine hK.out _ _ trivial (fun hHeldX => ?_)
    clear hK K
    (refine tk 6 ?_ rfl (Or.inl ⟨by rfl, ?_⟩) ?_; rotate_left; (focus (intro w h; (try dsimp only at h); go_simp; (try with_reducible rfl))); simp only [Act.put, tA, tB, tC, tD, tE, tF])
    have c5 := BX9.out.c5
    have f5 := BX9.out.fz 5
    refine wpAnyH_ready (rs := [7]) (by kernel_rfl) (by simp) ?_
    refine (AllReadyH.cons rfl (fun K hK => ?_) AllReadyH.nil)
    go_simp
    have BR10 : Hid (Bx (v8.setCell ⟨v4.heap.size, 5, none⟩ (.slice (some ⟨g2, 0, none⟩) ws2.length c2)) (w.heap.size) [.int .i64 0, .int .i64 0, .int .i64 0, .int .i64 0, .slice none 0 0, .slice none 0 0, .bool false, .string ⟨#[]⟩]) := BR9.out.setO (p := ⟨v4.heap.size, 5, none⟩) (by show v4.heap.size ≠ w.heap.size; omega) _
    have D10 : Hid (Dn w (v8.setCell ⟨v4.heap.size, 5, none⟩ (.slice (some ⟨g2, 0, none⟩) ws2.length c2)) g a len cap) := D9.out.set (p := ⟨v4.heap.size, 5, none⟩) (by show w.heap.size ≤ v4.heap.size; omega) _
    have OR10 : Hid (Lies encR 35 (v8.setCell ⟨v4.heap.size, 5, none⟩ (.slice (some ⟨g2, 0, none⟩) ws2.length c2)) (v3.heap.size) (m) (.slice ra t.rs.length rc) (t.rs)) := OR9.out.setxP (a := ⟨v4.heap.size, 5, none⟩) (fun b hb => (by have := OR9.out.lo b hb; show v4.heap.size ≠ b; omega)) _
    have BX10 : Hid (Bx (v8.setCell ⟨v4.heap.size, 5, none⟩ (.slice (some ⟨g2, 0, none⟩) ws2.length c2)) (v4.heap.size) [.int .i64 t.id, .int .i64 t.st, .int .i64 t.snap, .int .i64 t.cs, .slice ra t.rs.length rc, .slice (some ⟨g2, 0, none⟩) ws2.length c2, .bool t.out, .string t.nm]) := BX9.out.set 5 _
    have OW10 : Hid (GOwn encW 55 (v8.setCell ⟨v4.heap.size, 5, none⟩ (.slice (some ⟨g2, 0, none⟩) ws2.length c2)) (m) (.slice (some ⟨g2, 0, none⟩) ws2.length c2) (ws2)) := own_setP OW9.out (a := ⟨v4.heap.size, 5, none⟩) (fun b hb => (by have hb2 : g2 = b := (by simpa [Value.ownBlock] using hb); have := hgN; show v4.heap.size ≠ b; omega)) _
    clear BR9 D9 OR9 BX9 OW9
    generalize (v8.setCell ⟨v4.heap.size, 5, none⟩ (.slice (some ⟨g2, 0, none⟩) ws2.length c2)) = v9 at *
    (try go_wp2_with fail)
    refine hK.out _ _ trivial (fun hHeldX => ?_)
    clear hK K
    refine wpAnyH_done (by kernel_rfl) ?_ _
    clear c5 f5
    go_upto_region 19 with fail
    have hm9 := HR2.out
    have o0 := BX10.out.c0
    have q0_ := BR10.out.c0
    have fq0 := BR10.out.fz 0
    have o1 := BX10.out.c1
    have q1_ := BR10.out.c1
    have fq1 := BR10.out.fz 1
    have o2 := BX10.out.c2
    have q2_ := BR10.out.c2
    have fq2 := BR10.out.fz 2
    have o3 := BX10.out.c3
    have q3_ := BR10.out.c3
    have fq3 := BR10.out.fz 3
    have o4 := BX10.out.c4
    have q4_ := BR10.out.c4
    have fq4 := BR10.out.fz 4
    have o5 := BX10.out.c5
    have q5_ := BR10.out.c5
    have fq5 := BR10.out.fz 5
    have o6 := BX10.out.c6
    have q6_ := BR10.out.c6
    have fq6 := BR10.out.fz 6
    have o7 := BX10.out.c7
    have q7_ := BR10.out.c7
    have fq7 := BR10.out.fz 7
    go_wp2
    refine bodyPost_ret (v := .agg #[.int .i64 t.id, .int .i64 t.st, .int .i64 t.snap, .int .i64 t.cs, .slice ra t.rs.length rc, .slice (some ⟨g2, 0, none⟩) ws2.length c2, .bool t.out, .string t.nm]) (by simp [results, Tryz.results62, go_sem, q0_, q1_, q2_, q3_, q4_, q5_, q6_, q7_]) rfl ⟨⟨t.id, t.st, t.snap, t.cs, t.rs, ws2, t.out, t.nm⟩, ra, rc, (some ⟨g2, 0, none⟩), c2, ⟨⟨HT.out.fit.1, HT.out.fit.2.1, by show ws2.length ≤ _; omega, HR2.out.1, HT.out.fit.2.2.2.2⟩, Nat.le_trans HT.out.rl (by omega), HR2.out.2⟩, rfl, ?_, ?_, ?_⟩
    ·exact (own_s8P OR10.out.own (by omega) _ _ _ _ _ _ _ _).mono (by omega)
    ·exact (own_s8P OW10.out (by omega) _ _ _ _ _ _ _ _).mono (by omega)
    ·exact D10.out.belowB (below_s8P (Below.refl _ _) (Nat.le_refl _) _ _ _ _ _ _ _ _)
 ·subst h
  have c6 := BX5.out.c6
  have f6 := BX5.out.fz 6
  go_upto_region 19 with fail
  clear c6 f6
  have BR6 : Hid (Bx (v5.setCell ⟨v4.heap.size, 6, none⟩ (.bool true)) (w.heap.size) [.int .i64 0, .int .i64 0, .int .i64 0, .int .i64 0, .slice none 0 0, .slice none 0 0, .bool false, .string ⟨#[]⟩]) := BR5.out.setO (p := ⟨v4.heap.size, 6, none⟩) (by show v4.heap.size ≠ w.heap.size; omega) _
  have D6 : Hid (Dn w (v5.setCell ⟨v4.heap.size, 6, none⟩ (.bool true)) g a len cap) := D5.out.set (p := ⟨v4.heap.size, 6, none⟩) (by show w.heap.size ≤ v4.heap.size; omega) _
  have OR6 : Hid (Lies encR 35 (v5.setCell ⟨v4.heap.size, 6, none⟩ (.bool true)) (v3.heap.size) (m) (.slice ra t.rs.length rc) (t.rs)) := OR5.out.setxP (a := ⟨v4.heap.size, 6, none⟩) (fun b hb => (by have := OR5.out.lo b hb; show v4.heap.size ≠ b; omega)) _
  have OW6 : Hid (Lies encW 55 (v5.setCell ⟨v4.heap.size, 6, none⟩ (.bool true)) (m) (v4.heap.size) (.slice wa t.ws.length wc) (t.ws)) := OW5.out.setxP (a := ⟨v4.heap.size, 6, none⟩) (fun b hb => (by have := OW5.out.lo b hb; show v4.heap.size ≠ b; omega)) _
  have BX6 : Hid (Bx (v5.setCell ⟨v4.heap.size, 6, none⟩ (.bool true)) (v4.heap.size) [.int .i64 t.id, .int .i64 t.st, .int .i64 t.snap, .int .i64 t.cs, .slice ra t.rs.length rc, .slice wa t.ws.length wc, .bool true, .string t.nm]) := BX5.out.set 6 _
  clear BR5 D5 OR5 OW5 BX5
  generalize (v5.setCell ⟨v4.heap.size, 6, none⟩ (.bool true)) = v6 at *
  have o0 := BX6.out.c0
  have q0_ := BR6.out.c0
  have fq0 := BR6.out.fz 0
  have o1 := BX6.out.c1
  have q1_ := BR6.out.c1
  have fq1 := BR6.out.fz 1
  have o2 := BX6.out.c2
  have q2_ := BR6.out.c2
  have fq2 := BR6.out.fz 2
  have o3 := BX6.out.c3
  have q3_ := BR6.out.c3
  have fq3 := BR6.out.fz 3
  have o4 := BX6.out.c4
  have q4_ := BR6.out.c4
  have fq4 := BR6.out.fz 4
  have o5 := BX6.out.c5
  have q5_ := BR6.out.c5
  have fq5 := BR6.out.fz 5
  have o6 := BX6.out.c6
  have q6_ := BR6.out.c6
  have fq6 := BR6.out.fz 6
  have o7 := BX6.out.c7
  have q7_ := BR6.out.c7
  have fq7 := BR6.out.fz 7
  go_wp2
  refine bodyPost_ret (v := .agg #[.int .i64 t.id, .int .i64 t.st, .int .i64 t.snap, .int .i64 t.cs, .slice ra t.rs.length rc, .slice wa t.ws.length wc, .bool true, .string t.nm]) (by simp [results, Tryz.results62, go_sem, q0_, q1_, q2_, q3_, q4_, q5_, q6_, q7_]) rfl ⟨⟨t.id, t.st, t.snap, t.cs, t.rs, t.ws, true, t.nm⟩, ra, rc, wa, wc, ⟨HT.out.any.fit, HT.out.any.rl, HT.out.any.wl⟩, rfl, ?_, ?_, ?_⟩
  ·exact (own_s8P OR6.out.own (by omega) _ _ _ _ _ _ _ _).mono (by omega)
  ·exact (own_s8P OW6.out.own (by omega) _ _ _ _ _ _ _ _).mono (by omega)
  ·exact D6.out.belowB (below_s8P (Below.refl _ _) (Nat.le_refl _) _ _ _ _ _ _ _ _)
 ·have z0 : ((n1 : Int) == 0) = false := by simp; omega
  have y0 : ¬ (n1 : Int) = 0 := by omega
  have z1 : ((n1 : Int) == 1) = false := by simp; omega
  have y1 : ¬ (n1 : Int) = 1 := by omega
  have z2 : ((n1 : Int) == 2) = false := by simp; omega
  have y2 : ¬ (n1 : Int) = 2 := by omega
  have z3 : ((n1 : Int) == 3) = false := by simp; omega
  have y3 : ¬ (n1 : Int) = 3 := by omega
  have z4 : ((n1 : Int) == 4) = false := by simp; omega
  have y4 : ¬ (n1 : Int) = 4 := by omega
  have z5 : ((n1 : Int) == 5) = false := by simp; omega
  have y5 : ¬ (n1 : Int) = 5 := by omega
  have z6 : ((n1 : Int) == 6) = false := by simp; omega
  have y6 : ¬ (n1 : Int) = 6 := by omega
  go_upto_region 19 with fail
  have o0 := BX5.out.c0
  have q0_ := BR5.out.c0
  have fq0 := BR5.out.fz 0
  have o1 := BX5.out.c1
  have q1_ := BR5.out.c1
  have fq1 := BR5.out.fz 1
  have o2 := BX5.out.c2
  have q2_ := BR5.out.c2
  have fq2 := BR5.out.fz 2
  have o3 := BX5.out.c3
  have q3_ := BR5.out.c3
  have fq3 := BR5.out.fz 3
  have o4 := BX5.out.c4
  have q4_ := BR5.out.c4
  have fq4 := BR5.out.fz 4
  have o5 := BX5.out.c5
  have q5_ := BR5.out.c5
  have fq5 := BR5.out.fz 5
  have o6 := BX5.out.c6
  have q6_ := BR5.out.c6
  have fq6 := BR5.out.fz 6
  have o7 := BX5.out.c7
  have q7_ := BR5.out.c7
  have fq7 := BR5.out.fz 7
  go_wp2
  refine bodyPost_ret (v := .agg #[.int .i64 t.id, .int .i64 t.st, .int .i64 t.snap, .int .i64 t.cs, .slice ra t.rs.length rc, .slice wa t.ws.length wc, .bool t.out, .string t.nm]) (by simp [results, Tryz.results62, go_sem, q0_, q1_, q2_, q3_, q4_, q5_, q6_, q7_]) rfl ⟨⟨t.id, t.st, t.snap, t.cs, t.rs, t.ws, t.out, t.nm⟩, ra, rc, wa, wc, ⟨HT.out.any.fit, HT.out.any.rl, HT.out.any.wl⟩, rfl, ?_, ?_, ?_⟩
  ·exact (own_s8P OR5.out.own (by omega) _ _ _ _ _ _ _ _).mono (by omega)
  ·exact (own_s8P OW5.out.own (by omega) _ _ _ _ _ _ _ _).mono (by omega)
  ·exact D5.out.belowB (below_s8P (Below.refl _ _) (Nat.le_refl _) _ _ _ _ _ _ _ _)

end Go.Proofs.YtbajpnbodhhmjaaGreat

/- A list is searched with a question: slices.IndexFunc, slices.ContainsFunc. -/
import Derived.Test.YtjeicgibddfifaaPc17
namespace Go.Proofs.Ytjeicgibddfifaa
open Go.RowKit
open KM
attribute [local go_sem ↓] Go.wp_at_zero Go.wp_at_succ

set_option maxRecDepth 100000 in
set_option maxHeartbeats 2000000 in
theorem idxL (xs : List Ta) (a : Option Addr) (c n : Nat) (hx : n = xs.length) (hn : n ≤ 100000000) (P : Tx → Bool) (b1 b2 b3 : Nat) (w : World) (hp : TRows w a xs) (hc : (∀ x ∈ xs, ∀ w1, Below w.heap.size w w1 → Calls Try.prog 88 #[.agg #[.int .i64 x.t.id, .int .i64 x.t.st, .int .i64 x.t.snap, .int .i64 x.t.cs, .slice x.ra x.t.rs.length x.rc, .slice x.wa x.t.ws.length x.wc, .bool x.t.out, .string x.t.nm], .pointer (some ⟨b1, 0, none⟩), .pointer (some ⟨b2, 0, none⟩), .pointer (some ⟨b3, 0, none⟩)] w1 fun e w' => e = .returned (.bool (P x.t)) ∧ Below w1.heap.size w1 w')) :
  Calls Try.prog 96 #[.slice a n c, .func (.func 88) #[] #[.pointer (some ⟨b1, 0, none⟩), .pointer (some ⟨b2, 0, none⟩), .pointer (some ⟨b3, 0, none⟩)]] w fun e w' => (∃ r : Int, e = .returned (.int .i64 r) ∧ decide (0 ≤ r) = (txs xs).any P) ∧ Below w.heap.size w w' := by
 have HP : Hid (TRows w a xs) := hp
 have HC : Hid (∀ x ∈ xs, ∀ w1, Below w.heap.size w w1 → Calls Try.prog 88 #[.agg #[.int .i64 x.t.id, .int .i64 x.t.st, .int .i64 x.t.snap, .int .i64 x.t.cs, .slice x.ra x.t.rs.length x.rc, .slice x.wa x.t.ws.length x.wc, .bool x.t.out, .string x.t.nm], .pointer (some ⟨b1, 0, none⟩), .pointer (some ⟨b2, 0, none⟩), .pointer (some ⟨b3, 0, none⟩)] w1 fun e w' => e = .returned (.bool (P x.t)) ∧ Below w1.heap.size w1 w') := hc
 have HX : Hid (n = xs.length) := hx
 clear hp hc hx
 go_enter Try.func96, Try.ntmps96
 go_wp2
 go_loopw [5, 8] (fun _ t wr => ∃ k : Nat, k ≤ n ∧ t = .int .i64 k ∧ Hid (NoneOf P xs k) ∧ Hid (Below w.heap.size w wr)) (fun _ t _ => n - (intOf t).toNat)
 case atStart => exact ⟨0, Nat.zero_le _, rfl, (fun j hj h => by omega), belowRefl w⟩
 case round =>
  obtain ⟨k, hk, rfl, HN, HB⟩ := hrel
  by_cases hlt : k < n
  ·have hlt' : (k : Int) < (n : Int) := by omega
   have h0 : (0 : Int) ≤ (k : Int) := by omega
   have hkx : k < xs.length := by rw [← HX.out]; exact hlt
   obtain ⟨b, o, rfl, hbl, hc, -⟩ := (HP.out.below HB.out).cls k hkx
   have HCx := hide (HC.out _ (List.getElem_mem hkx) wr HB.out)
   have HYes : Hid (P xs[k].t = true → (txs xs).any P = true) := fun h => any_yes _ xs k hkx h
   have HNo : Hid (P xs[k].t = false → NoneOf P xs (k + 1)) := fun h => none_more HN.out hkx h
   obtain ⟨x, hx⟩ : ∃ x, x = xs[k] := ⟨_, rfl⟩
   rw [← hx] at hc HCx HYes HNo
   clear hx hkx
   have r0 := hc.c0
   have r1 := hc.c1
   have r2 := hc.c2
   have r3 := hc.c3
   have r4 := hc.c4
   have r5 := hc.c5
   have r6 := hc.c6
   have r7 := hc.c7
   clear hc
   go_wp2_with fail
   refine HCx.out.mono ?_
   rintro e w2 ⟨rfl, hb2⟩
   have HB2 : Hid (Below w.heap.size w w2) := HB.out.trans (hb2.mono HB.out.size)
   clear hb2 r0 r1 r2 r3 r4 r5 r6 r7
   cases hq : P x.t
   ·have HN2 := hide (HNo.out hq)
    clear hq
    go_wp2
    go_roundw
    case rel => exact ⟨k + 1, by omega, by go_num, HN2, HB2⟩
    case measure => simp [intOf]; omega
   ·have HY := hide (HYes.out hq)
    clear hq
    go_wp2
    go_ret
    exact ⟨⟨_, rfl, by rw [HY.out]; simp⟩, HB2.out⟩
  ·have hd : ¬ (k : Int) < (n : Int) := by omega
   have HR : Hid ((txs xs).any P = false) := any_none HN.out (by rw [← HX.out]; omega)
   go_wp2
   go_ret
   exact ⟨⟨_, rfl, by rw [HR.out]; decide⟩, HB.out⟩

set_option maxRecDepth 100000 in
set_option maxHeartbeats 2000000 in
theorem hasL (xs : List Ta) (a : Option Addr) (c n : Nat) (hx : n = xs.length) (hn : n ≤ 100000000) (P : Tx → Bool) (b1 b2 b3 : Nat) (w : World) (hp : TRows w a xs) (hc : (∀ x ∈ xs, ∀ w1, Below w.heap.size w w1 → Calls Try.prog 88 #[.agg #[.int .i64 x.t.id, .int .i64 x.t.st, .int .i64 x.t.snap, .int .i64 x.t.cs, .slice x.ra x.t.rs.length x.rc, .slice x.wa x.t.ws.length x.wc, .bool x.t.out, .string x.t.nm], .pointer (some ⟨b1, 0, none⟩), .pointer (some ⟨b2, 0, none⟩), .pointer (some ⟨b3, 0, none⟩)] w1 fun e w' => e = .returned (.bool (P x.t)) ∧ Below w1.heap.size w1 w')) :
  Calls Try.prog 87 #[.slice a n c, .func (.func 88) #[] #[.pointer (some ⟨b1, 0, none⟩), .pointer (some ⟨b2, 0, none⟩), .pointer (some ⟨b3, 0, none⟩)]] w fun e w' => e = .returned (.bool ((txs xs).any P)) ∧ Below w.heap.size w w' := by
 have H := hide (idxL xs a c n hx hn P b1 b2 b3 w hp hc)
 clear hx hp hc
 go_enter Try.func87, Try.ntmps87
 go_wp2_with fail
 refine H.out.mono ?_
 rintro e w1 ⟨⟨r, rfl, hr⟩, hb⟩
 have HR : Hid (decide (0 ≤ r) = (txs xs).any P) := hr
 clear hr
 go_wp2
 go_ret
 exact ⟨ret_bool HR.out, hb⟩

end Go.Proofs.Ytjeicgibddfifaa

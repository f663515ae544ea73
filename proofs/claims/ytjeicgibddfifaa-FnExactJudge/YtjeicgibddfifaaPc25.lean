/- Who is ahead of whom: others that are ready, and ReadyDanger of the program, whatever Danger answers. -/
import Derived.Test.YtjeicgibddfifaaPc22
import Derived.Test.YtjeicgibddfifaaPc24
import Derived.Test.YtjeicgibddfifaaPc14
namespace Go.Proofs.Ytjeicgibddfifaa
open Go.RowKit
open KM
attribute [local go_sem ↓] Go.wp_at_zero Go.wp_at_succ

theorem rowF2 (w : World) (q r : Nat) : GRow encF (w.alloc (.cells #[.func (.func q) #[] #[], .func (.func r) #[] #[]] 116)) (some ⟨w.heap.size, 0, none⟩) [q, r] := fun _ =>
 ⟨w.heap.size, 0, rfl, by simp, fun j hj i hi => by
  obtain rfl : i = 0 := by simpa [encF] using hi
  have : j = 0 ∨ j = 1 := by simp at hj; omega
  rcases this with rfl | rfl <;> simp [encF]⟩
def readyL (l : List Tx) : List Tx := l.filter readyB
def othL (t : Tx) (l : List Tx) : List Tx := (readyL l).filter fun x => !(x.id == t.id)
def oth (t : Tx) (xs : List Ta) : List Ta := (xs.filter (inSt [2])).filter (keepT t)
theorem txs_ready (xs : List Ta) : txs (xs.filter (inSt [2])) = readyL (txs xs) := by
 rw [show txs (xs.filter (inSt [2])) = (txs xs).filter (fun u : Tx => inS [2] u.st) from txs_filter (fun u : Tx => inS [2] u.st) xs]
 unfold readyL
 congr 1
 funext x
 simp [inS, readyB]
theorem txs_keep (t : Tx) (zs : List Ta) : txs (zs.filter (keepT t)) = (txs zs).filter fun x => !(x.id == t.id) := txs_filter (fun x => !(x.id == t.id)) zs
theorem txs_oth (t : Tx) (xs : List Ta) : txs (oth t xs) = othL t (txs xs) := by unfold oth othL; rw [txs_keep, txs_ready]
theorem oth_mem {t : Tx} {xs : List Ta} {x : Ta} (h : x ∈ oth t xs) : x ∈ xs := (List.mem_filter.1 (List.mem_filter.1 h).1).1
theorem oth_len (t : Tx) (xs : List Ta) : (oth t xs).length ≤ xs.length := Nat.le_trans (List.length_filter_le _ _) (List.length_filter_le _ _)
theorem oth_fit {t : Tx} {xs : List Ta} (h : LFw (txs xs)) : LFw (txs (oth t xs)) := lfit_filter (fun x => !(x.id == t.id)) (lfit_filter (fun x => inS [2] x.st) h)
set_option maxRecDepth 100000 in
set_option maxHeartbeats 2000000 in
theorem delnil (t : Tx) (ra wa : Option Addr) (rc wc : Nat) (tb : Nat) (w : World) (hb : Bx w tb [.int .i64 t.id, .int .i64 t.st, .int .i64 t.snap, .int .i64 t.cs, .slice ra t.rs.length rc, .slice wa t.ws.length wc, .bool t.out, .string t.nm]) :
  Calls Try.prog 94 #[.slice none 0 0, .func (.func 95) #[] #[.pointer (some ⟨tb, 0, none⟩)]] w fun e w' => e = .returned (.slice none 0 0) ∧ Below w.heap.size w w' := by
 have H := hide (idxD t ra wa rc wc [] none 0 0 rfl (by omega) tb w (GRow.nil _ _) hb)
 clear hb
 go_enter Try.func94, Try.ntmps94
 go_wp2_with fail
 refine H.out.mono ?_
 rintro e w1 ⟨he, hb1⟩
 rcases he with ⟨rfl, -⟩ | ⟨k, hk, -⟩
 ·go_wp2
  go_ret
  exact ⟨rfl, hb1⟩
 ·cases hk

set_option maxRecDepth 100000 in
set_option maxHeartbeats 2000000 in
theorem oth50 (t : Tx) (ra wa : Option Addr) (rc wc : Nat) (xs : List Ta) (a : Option Addr) (c n : Nat) (hx : n = xs.length) (hn : n ≤ 10000000) (w : World) (hp : TRows w a xs) :
  Calls Try.prog 78 #[.agg #[.int .i64 t.id, .int .i64 t.st, .int .i64 t.snap, .int .i64 t.cs, .slice ra t.rs.length rc, .slice wa t.ws.length wc, .bool t.out, .string t.nm], .slice a n c] w fun e w' => ∃ (a1 : Option Addr) (c1 n1 : Nat), e = .returned (.slice a1 n1 c1) ∧ n1 = (oth t xs).length ∧ GOwn encT 51 w' w.heap.size (.slice a1 n1 c1) (oth t xs) ∧ Below w.heap.size w w' := by
 have HB1 : Hid (Below w.heap.size w ((w.alloc (.cells #[.int .i64 t.id, .int .i64 t.st, .int .i64 t.snap, .int .i64 t.cs, .slice ra t.rs.length rc, .slice wa t.ws.length wc, .bool t.out, .string t.nm] 51)).alloc (.cells #[.int .i64 2] 3))) := ((belowRefl w).alloc (Nat.le_refl _) _).alloc (by simp) _
 have BT1 : Hid (Bx ((w.alloc (.cells #[.int .i64 t.id, .int .i64 t.st, .int .i64 t.snap, .int .i64 t.cs, .slice ra t.rs.length rc, .slice wa t.ws.length wc, .bool t.out, .string t.nm] 51)).alloc (.cells #[.int .i64 2] 3)) w.heap.size [.int .i64 t.id, .int .i64 t.st, .int .i64 t.snap, .int .i64 t.cs, .slice ra t.rs.length rc, .slice wa t.ws.length wc, .bool t.out, .string t.nm]) := (Bx.new w [.int .i64 t.id, .int .i64 t.st, .int .i64 t.snap, .int .i64 t.cs, .slice ra t.rs.length rc, .slice wa t.ws.length wc, .bool t.out, .string t.nm] 51).alloc _
 have HX : Hid (n = xs.length) := hx
 have HS : Hid ((w.alloc (.cells #[.int .i64 t.id, .int .i64 t.st, .int .i64 t.snap, .int .i64 t.cs, .slice ra t.rs.length rc, .slice wa t.ws.length wc, .bool t.out, .string t.nm] 51)).heap.size = w.heap.size + 1) := by show _ = _; simp
 have H := hide (inSt49 xs a c n hx hn [2] (some ⟨(w.alloc (.cells #[.int .i64 t.id, .int .i64 t.st, .int .i64 t.snap, .int .i64 t.cs, .slice ra t.rs.length rc, .slice wa t.ws.length wc, .bool t.out, .string t.nm] 51)).heap.size, 0, none⟩) 1 (by simp) ((w.alloc (.cells #[.int .i64 t.id, .int .i64 t.st, .int .i64 t.snap, .int .i64 t.cs, .slice ra t.rs.length rc, .slice wa t.ws.length wc, .bool t.out, .string t.nm] 51)).alloc (.cells #[.int .i64 2] 3)) (hp.below HB1.out) (rowI1 (w.alloc (.cells #[.int .i64 t.id, .int .i64 t.st, .int .i64 t.snap, .int .i64 t.cs, .slice ra t.rs.length rc, .slice wa t.ws.length wc, .bool t.out, .string t.nm] 51)) 2))
 rw [HS.out] at H
 have hbs : w.heap.size < ((w.alloc (.cells #[.int .i64 t.id, .int .i64 t.st, .int .i64 t.snap, .int .i64 t.cs, .slice ra t.rs.length rc, .slice wa t.ws.length wc, .bool t.out, .string t.nm] 51)).alloc (.cells #[.int .i64 2] 3)).heap.size := by simp; omega
 obtain ⟨bs, hbe⟩ : ∃ bs, bs = ((w.alloc (.cells #[.int .i64 t.id, .int .i64 t.st, .int .i64 t.snap, .int .i64 t.cs, .slice ra t.rs.length rc, .slice wa t.ws.length wc, .bool t.out, .string t.nm] 51)).alloc (.cells #[.int .i64 2] 3)).heap.size := ⟨_, rfl⟩
 have BS : Hid (((w.alloc (.cells #[.int .i64 t.id, .int .i64 t.st, .int .i64 t.snap, .int .i64 t.cs, .slice ra t.rs.length rc, .slice wa t.ws.length wc, .bool t.out, .string t.nm] 51)).alloc (.cells #[.int .i64 2] 3)).heap.size = bs) := hbe.symm
 rw [← hbe] at hbs
 clear hbe
 clear hp hx HS
 go_enter Try.func78, Try.ntmps78
 go_wp2_with fail
 refine H.out.mono ?_
 rintro e w3 ⟨a1, c1, n1, rfl, hn1, ho, hb2⟩
 have HBx : Hid (Below w.heap.size w w3) := HB1.out.trans (hb2.mono HB1.out.size)
 have BTx : Hid (Bx w3 w.heap.size [.int .i64 t.id, .int .i64 t.st, .int .i64 t.snap, .int .i64 t.cs, .slice ra t.rs.length rc, .slice wa t.ws.length wc, .bool t.out, .string t.nm]) := BT1.out.below hb2
 have HN1 : Hid (n1 = (xs.filter (inSt [2])).length) := hn1
 have ROx : Hid (GOwn encT 51 w3 bs (.slice a1 n1 c1) (xs.filter (inSt [2]))) := by have h := ho; rw [BS.out] at h; exact h
 clear hb2 ho hn1 H BT1 HB1 BS
 rcases gshape ROx.out with ⟨e1, e2⟩ | ⟨g, cap, e1⟩
 ·have hz : n1 = 0 := by have h := HN1.out; rw [e2] at h; simpa using h
  have ha : a1 = none ∧ c1 = 0 := by cases e1; exact ⟨rfl, rfl⟩
  obtain ⟨rfl, rfl⟩ := ha
  subst hz
  have E2 : Hid (oth t xs = []) := by show _ = _; unfold oth; rw [e2]; rfl
  clear e1 e2
  go_wp2_with fail
  refine (delnil t ra wa rc wc w.heap.size _ BTx.out).mono ?_
  rintro e w5 ⟨rfl, hb5⟩
  have HB5 : Hid (Below w.heap.size w w5) := HBx.out.trans (hb5.mono HBx.out.size)
  clear hb5
  go_wp2
  go_ret
  exact ⟨none, 0, 0, rfl, by rw [E2.out]; rfl, by rw [E2.out]; exact GOwn.nil _ _, HB5.out⟩
 ·have hz : a1 = some ⟨g, 0, none⟩ := by cases e1; rfl
  subst hz
  have hgb : bs ≤ g := (World.ownsRow.lt (show w3.ownsRow bs 51 8 (.slice (some ⟨g, 0, none⟩) (xs.filter (inSt [2])).length c1) (xs.filter (inSt [2])).length (encT.cells (xs.filter (inSt [2]))) by have h := ROx.out; rw [HN1.out] at h; exact h) g rfl).1
  have HD5 := hide (del53 t ra wa rc wc (xs.filter (inSt [2])) g c1 n1 bs w.heap.size HN1.out (by rw [HN1.out]; exact Nat.le_trans (List.length_filter_le _ _) (by rw [← HX.out]; exact hn)) w3 ROx.out BTx.out (by omega))
  clear e1
  go_wp2_with fail
  refine HD5.out.mono ?_
  rintro e w5 ⟨n5, rfl, hn5, ho5, hg5⟩
  have hlow : Below w.heap.size w3 w5 := grown_low hg5 (fun b e => by cases e; omega) HBx.out.size
  have HB5 : Hid (Below w.heap.size w w5) := HBx.out.trans hlow
  have HN5 : Hid (n5 = (oth t xs).length) := hn5
  have RO5 : Hid (GOwn encT 51 w5 w.heap.size (.slice (some ⟨g, 0, none⟩) n5 c1) (oth t xs)) := GOwn.mono ho5 (by omega)
  clear hlow hg5 ho5 hn5 HD5
  go_wp2
  go_ret
  exact ⟨_, _, _, rfl, HN5.out, RO5.out, HB5.out⟩

end Go.Proofs.Ytjeicgibddfifaa

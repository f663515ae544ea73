/- Who is ahead of whom: Blocked, OutOf and InOf of the program. -/
import Derived.Test.YtjeicgibddfifaaPc20
import Derived.Deep.RegionHeld3
namespace Go.Proofs.Ytjeicgibddfifaa
open Go.RowKit
open KM
attribute [local go_sem ↓] Go.wp_at_zero Go.wp_at_succ

theorem rowF1 (w : World) (q : Nat) : GRow encF (w.alloc (.cells #[.func (.func q) #[] #[]] 116)) (some ⟨w.heap.size, 0, none⟩) [q] := fun _ =>
 ⟨w.heap.size, 0, rfl, by simp, fun j hj i hi => by
  obtain rfl : j = 0 := by simpa using hj
  obtain rfl : i = 0 := by simpa [encF] using hi
  simp [encF]⟩
theorem rowI1 (w : World) (x : Int) : GRow encI (w.alloc (.cells #[.int .i64 x] 3)) (some ⟨w.heap.size, 0, none⟩) [x] := fun _ =>
 ⟨w.heap.size, 0, rfl, by simp, fun j hj i hi => by
  obtain rfl : j = 0 := by simpa using hj
  obtain rfl : i = 0 := by simpa [encI] using hi
  simp [encI]⟩
theorem rowI2 (w : World) (x y : Int) : GRow encI (w.alloc (.cells #[.int .i64 x, .int .i64 y] 3)) (some ⟨w.heap.size, 0, none⟩) [x, y] := fun _ =>
 ⟨w.heap.size, 0, rfl, by simp, fun j hj i hi => by
  obtain rfl : i = 0 := by simpa [encI] using hi
  have : j = 0 ∨ j = 1 := by simp at hj; omega
  rcases this with rfl | rfl <;> simp [encI]⟩
theorem lfit_filter (p : Tx → Bool) {xs : List Ta} (h : LFw (txs xs)) : LFw (txs (xs.filter fun x => p x.t)) := by
 rw [txs_filter]
 exact ⟨trivial, fun t ht => h.2 t (List.mem_filter.1 ht).1⟩
set_option maxRecDepth 100000 in
set_option maxHeartbeats 2000000 in
theorem iblocked (t : Tx) (ra wa : Option Addr) (rc wc : Nat) (xs : List Ta) (a : Option Addr) (c n : Nat) (hx : n = xs.length) (hn : n ≤ 10000000) (ft : TFit t) (fx : LFw (txs xs)) (w : World) (ht : TRow w t ra wa) (hp : TRows w a xs) :
  Calls Try.prog 57 #[.agg #[.int .i64 t.id, .int .i64 t.st, .int .i64 t.snap, .int .i64 t.cs, .slice ra t.rs.length rc, .slice wa t.ws.length wc, .bool t.out, .string t.nm], .slice a n c] w fun e w' => e = .returned (.bool (blockedB t (txs xs))) ∧ Below w.heap.size w w' := by
 have HB1 : Hid (Below w.heap.size w ((w.alloc (.cells #[.int .i64 t.id, .int .i64 t.st, .int .i64 t.snap, .int .i64 t.cs, .slice ra t.rs.length rc, .slice wa t.ws.length wc, .bool t.out, .string t.nm] 51)).alloc (.cells #[.func (.func 73) #[] #[]] 116))) := ((belowRefl w).alloc (Nat.le_refl _) _).alloc (by simp) _
 have H := hide (lead_of 73 blkB ask55 [] [] xs a c n hx (by omega) fx (lead_nil xs a c n) t ra wa rc wc (some ⟨(w.alloc (.cells #[.int .i64 t.id, .int .i64 t.st, .int .i64 t.snap, .int .i64 t.cs, .slice ra t.rs.length rc, .slice wa t.ws.length wc, .bool t.out, .string t.nm] 51)).heap.size, 0, none⟩) 1 1 ((w.alloc (.cells #[.int .i64 t.id, .int .i64 t.st, .int .i64 t.snap, .int .i64 t.cs, .slice ra t.rs.length rc, .slice wa t.ws.length wc, .bool t.out, .string t.nm] 51)).alloc (.cells #[.func (.func 73) #[] #[]] 116)) rfl (Nat.le_refl _) ft (ht.below HB1.out) (hp.below HB1.out) (rowF1 _ _))
 rw [lead1] at H
 have HS : Hid ((w.alloc (.cells #[.int .i64 t.id, .int .i64 t.st, .int .i64 t.snap, .int .i64 t.cs, .slice ra t.rs.length rc, .slice wa t.ws.length wc, .bool t.out, .string t.nm] 51)).heap.size = w.heap.size + 1) := by show _ = _; simp
 rw [HS.out] at H
 clear ht hp ft fx hx
 go_enter Try.func57, Try.ntmps57
 go_wp2_with fail
 refine H.out.mono ?_
 rintro e w1 ⟨rfl, hb1⟩
 have HB2 : Hid (Below w.heap.size w w1) := HB1.out.trans (hb1.mono HB1.out.size)
 clear hb1
 go_wp2
 go_ret
 exact ⟨rfl, HB2.out⟩

set_option maxRecDepth 100000 in
set_option maxHeartbeats 2000000 in
theorem ioutof (t : Tx) (ra wa : Option Addr) (rc wc : Nat) (xs : List Ta) (a : Option Addr) (c n : Nat) (hx : n = xs.length) (hn : n ≤ 10000000) (ft : TFit t) (fx : LFw (txs xs)) (w : World) (ht : TRow w t ra wa) (hp : TRows w a xs) :
  Calls Try.prog 75 #[.agg #[.int .i64 t.id, .int .i64 t.st, .int .i64 t.snap, .int .i64 t.cs, .slice ra t.rs.length rc, .slice wa t.ws.length wc, .bool t.out, .string t.nm], .slice a n c] w fun e w' => e = .returned (.bool (outB t (txs xs))) ∧ Below w.heap.size w w' := by
 have HB1 : Hid (Below w.heap.size w (w.alloc (.cells #[.int .i64 t.id, .int .i64 t.st, .int .i64 t.snap, .int .i64 t.cs, .slice ra t.rs.length rc, .slice wa t.ws.length wc, .bool t.out, .string t.nm] 51))) := (belowRefl w).alloc (Nat.le_refl _) _
 have BT1 : Hid (Bx (w.alloc (.cells #[.int .i64 t.id, .int .i64 t.st, .int .i64 t.snap, .int .i64 t.cs, .slice ra t.rs.length rc, .slice wa t.ws.length wc, .bool t.out, .string t.nm] 51)) w.heap.size [.int .i64 t.id, .int .i64 t.st, .int .i64 t.snap, .int .i64 t.cs, .slice ra t.rs.length rc, .slice wa t.ws.length wc, .bool t.out, .string t.nm]) := Bx.new w [.int .i64 t.id, .int .i64 t.st, .int .i64 t.snap, .int .i64 t.cs, .slice ra t.rs.length rc, .slice wa t.ws.length wc, .bool t.out, .string t.nm] 51
 have HT : Hid (TRow w t ra wa) := ht
 have HP : Hid (TRows w a xs) := hp
 have FT : Hid (TFit t) := ft
 have FX : Hid (LFw (txs xs)) := fx
 have HX : Hid (n = xs.length) := hx
 have CI : Hid (∀ (W : World) (sa : Option Addr), Below w.heap.size w W → GRow encI W sa [3] → Calls Try.prog 77 #[.slice a n c, .slice sa 1 1] W fun e w' => ∃ (a1 : Option Addr) (c1 n1 : Nat), e = .returned (.slice a1 n1 c1) ∧ n1 = (xs.filter (inSt [3])).length ∧ GOwn encT 51 w' W.heap.size (.slice a1 n1 c1) (xs.filter (inSt [3])) ∧ Below W.heap.size W w') := fun W sa h1 h2 => inSt49 xs a c n HX.out hn [3] sa 1 (by simp) W (HP.out.below h1) h2
 have CL : Hid (∀ (W : World) (ca ya : Option Addr) (yc n1 : Nat), Below w.heap.size w W → GRow encF W ca [91] → n1 = (xs.filter (inSt [3])).length → GRow encT W ya (xs.filter (inSt [3])) → Calls Try.prog 72 #[.agg #[.int .i64 t.id, .int .i64 t.st, .int .i64 t.snap, .int .i64 t.cs, .slice ra t.rs.length rc, .slice wa t.ws.length wc, .bool t.out, .string t.nm], .slice ca 1 1, .slice ya n1 yc] W fun e w' => e = .returned (.bool (outB t (txs xs))) ∧ Below W.heap.size W w') := fun W ca ya yc n1 h1 h2 h3 h4 => by
  have h := lead_of 91 ahB ask50 [] [] (xs.filter (inSt [3])) ya yc n1 h3 (by rw [h3]; exact Nat.le_trans (List.length_filter_le _ _) (by rw [← HX.out]; omega)) (lfit_filter (fun x => inS [3] x.st) FX.out) (lead_nil _ ya yc n1) t ra wa rc wc ca 1 1 W rfl (Nat.le_refl _) FT.out (HT.out.below h1) ⟨h4, fun x hx => ((HP.out.each x (List.mem_filter.1 hx).1).below h1)⟩ h2
  rw [lead1] at h
  have e : (txs (xs.filter (inSt [3]))).any (ahB t) = outB t (txs xs) := by rw [show txs (xs.filter (inSt [3])) = (txs xs).filter (fun u : Tx => inS [3] u.st) from txs_filter (fun u : Tx => inS [3] u.st) xs]; simp only [outB, List.any_filter]; congr 1; funext x; simp [outQ, doneB, inS]
  rw [e] at h
  exact h
 clear ht hp ft fx hx
 go_enter Try.func75, Try.ntmps75
 go_wp2
 refine wp_region_held_drew (S := fun w' => w'.cell? ⟨w.heap.size, 0, none⟩ = some (.int .i64 t.id) ∧ w'.cell? ⟨w.heap.size, 1, none⟩ = some (.int .i64 t.st) ∧ w'.cell? ⟨w.heap.size, 2, none⟩ = some (.int .i64 t.snap) ∧ w'.cell? ⟨w.heap.size, 3, none⟩ = some (.int .i64 t.cs) ∧ w'.cell? ⟨w.heap.size, 4, none⟩ = some (.slice ra t.rs.length rc) ∧ w'.cell? ⟨w.heap.size, 5, none⟩ = some (.slice wa t.ws.length wc) ∧ w'.cell? ⟨w.heap.size, 6, none⟩ = some (.bool t.out) ∧ w'.cell? ⟨w.heap.size, 7, none⟩ = some (.string t.nm)) (by kernel_rfl) ⟨BT1.out.c0, BT1.out.c1, BT1.out.c2, BT1.out.c3, BT1.out.c4, BT1.out.c5, BT1.out.c6, BT1.out.c7⟩ (fun hHeld => ?_)
 (refine wpAnyH_take (i := 0) (v := ?_) rfl (by kernel_rfl) (by kernel_rfl) (by kernel_rfl) (fun _ _ _ h => h) (Or.inl ⟨by rfl, ?_⟩) (by assumption) ?_; rotate_left; (focus (intro w hSw; (try dsimp only at hSw); go_simp; (try with_reducible rfl); done)); simp only [Act.put, List.getElem_toArray, List.getElem_cons_zero, List.setIfInBounds_toArray, List.set_cons_zero, List.set_cons_succ])
 (refine wpAnyH_take (i := 2) (v := ?_) rfl (by kernel_rfl) (by kernel_rfl) (by kernel_rfl) (fun _ _ _ h => h) (Or.inl ⟨by rfl, ?_⟩) (by assumption) ?_; rotate_left; (focus (intro w hSw; (try dsimp only at hSw); go_simp; (try with_reducible rfl); done)); simp only [Act.put, List.getElem_toArray, List.getElem_cons_zero, List.getElem_cons_succ, List.setIfInBounds_toArray, List.set_cons_zero, List.set_cons_succ])
 refine wpAnyH_ready (rs := [1, 3]) (by kernel_rfl) (by simp) ?_
 refine (AllReadyH.cons rfl (fun K hK => ?_) (AllReadyH.cons rfl (fun K hK => ?_) AllReadyH.nil))
 ·go_simp
  have HBf : Hid (Below w.heap.size w ((w.alloc (.cells #[.int .i64 t.id, .int .i64 t.st, .int .i64 t.snap, .int .i64 t.cs, .slice ra t.rs.length rc, .slice wa t.ws.length wc, .bool t.out, .string t.nm] 51)).alloc (.cells #[.func (.func 91) #[] #[]] 116))) := ((belowRefl w).alloc (Nat.le_refl _) _).alloc (by simp) _
  have BTf : Hid (Bx ((w.alloc (.cells #[.int .i64 t.id, .int .i64 t.st, .int .i64 t.snap, .int .i64 t.cs, .slice ra t.rs.length rc, .slice wa t.ws.length wc, .bool t.out, .string t.nm] 51)).alloc (.cells #[.func (.func 91) #[] #[]] 116)) w.heap.size [.int .i64 t.id, .int .i64 t.st, .int .i64 t.snap, .int .i64 t.cs, .slice ra t.rs.length rc, .slice wa t.ws.length wc, .bool t.out, .string t.nm]) := ((Bx.new w [.int .i64 t.id, .int .i64 t.st, .int .i64 t.snap, .int .i64 t.cs, .slice ra t.rs.length rc, .slice wa t.ws.length wc, .bool t.out, .string t.nm] 51).alloc _)
  refine hK.out _ _ ⟨BTf.out.c0, BTf.out.c1, BTf.out.c2, BTf.out.c3, BTf.out.c4, BTf.out.c5, BTf.out.c6, BTf.out.c7⟩ (fun hHeldf => ?_)
  clear hK K
  refine wpAnyH_ready (rs := [3]) (by kernel_rfl) (by simp) ?_
  refine (AllReadyH.cons rfl (fun K hK => ?_) AllReadyH.nil)
  go_simp
  have HBfi : Hid (Below w.heap.size w (((w.alloc (.cells #[.int .i64 t.id, .int .i64 t.st, .int .i64 t.snap, .int .i64 t.cs, .slice ra t.rs.length rc, .slice wa t.ws.length wc, .bool t.out, .string t.nm] 51)).alloc (.cells #[.func (.func 91) #[] #[]] 116)).alloc (.cells #[.int .i64 3] 3))) := (((belowRefl w).alloc (Nat.le_refl _) _).alloc (by simp) _).alloc (by simp; omega) _
  have BTfi : Hid (Bx (((w.alloc (.cells #[.int .i64 t.id, .int .i64 t.st, .int .i64 t.snap, .int .i64 t.cs, .slice ra t.rs.length rc, .slice wa t.ws.length wc, .bool t.out, .string t.nm] 51)).alloc (.cells #[.func (.func 91) #[] #[]] 116)).alloc (.cells #[.int .i64 3] 3)) w.heap.size [.int .i64 t.id, .int .i64 t.st, .int .i64 t.snap, .int .i64 t.cs, .slice ra t.rs.length rc, .slice wa t.ws.length wc, .bool t.out, .string t.nm]) := ((Bx.new w [.int .i64 t.id, .int .i64 t.st, .int .i64 t.snap, .int .i64 t.cs, .slice ra t.rs.length rc, .slice wa t.ws.length wc, .bool t.out, .string t.nm] 51).alloc _).alloc _
  refine hK.out _ _ ⟨BTfi.out.c0, BTfi.out.c1, BTfi.out.c2, BTfi.out.c3, BTfi.out.c4, BTfi.out.c5, BTfi.out.c6, BTfi.out.c7⟩ (fun hHeldfi => ?_)
  clear hK K
  have RF : Hid (GRow encF (((w.alloc (.cells #[.int .i64 t.id, .int .i64 t.st, .int .i64 t.snap, .int .i64 t.cs, .slice ra t.rs.length rc, .slice wa t.ws.length wc, .bool t.out, .string t.nm] 51)).alloc (.cells #[.func (.func 91) #[] #[]] 116)).alloc (.cells #[.int .i64 3] 3)) (some ⟨w.heap.size + 1, 0, none⟩) [91]) := by have h := (rowF1 (w.alloc (.cells #[.int .i64 t.id, .int .i64 t.st, .int .i64 t.snap, .int .i64 t.cs, .slice ra t.rs.length rc, .slice wa t.ws.length wc, .bool t.out, .string t.nm] 51)) 91).below ((belowRefl _).alloc (Nat.le_refl _) (.cells #[.int .i64 3] 3)); simpa [Hid] using h
  have RI : Hid (GRow encI (((w.alloc (.cells #[.int .i64 t.id, .int .i64 t.st, .int .i64 t.snap, .int .i64 t.cs, .slice ra t.rs.length rc, .slice wa t.ws.length wc, .bool t.out, .string t.nm] 51)).alloc (.cells #[.func (.func 91) #[] #[]] 116)).alloc (.cells #[.int .i64 3] 3)) (some ⟨w.heap.size + 1 + 1, 0, none⟩) [3]) := by have h := rowI1 ((w.alloc (.cells #[.int .i64 t.id, .int .i64 t.st, .int .i64 t.snap, .int .i64 t.cs, .slice ra t.rs.length rc, .slice wa t.ws.length wc, .bool t.out, .string t.nm] 51)).alloc (.cells #[.func (.func 91) #[] #[]] 116)) 3; simpa [Hid] using h
  refine wpAnyH_ready (rs := [4]) (by kernel_rfl) (by simp) ?_
  refine (AllReadyH.cons rfl (fun K hK => ?_) AllReadyH.nil)
  go_simp
  go_wp2_with fail
  refine (CI.out _ (some ⟨w.heap.size + 1 + 1, 0, none⟩) HBfi.out.drew RI.out.drew).mono ?_
  rintro e w2 ⟨a1, c1, n1, rfl, hn1, ho, hb2⟩
  have hbu := undrew hb2
  have HB9 : Hid (Below w.heap.size w w2) := HBfi.out.trans (hbu.mono HBfi.out.size)
  have BT9 : Hid (Bx w2 w.heap.size [.int .i64 t.id, .int .i64 t.st, .int .i64 t.snap, .int .i64 t.cs, .slice ra t.rs.length rc, .slice wa t.ws.length wc, .bool t.out, .string t.nm]) := BTfi.out.below hbu
  have HN1 : Hid (n1 = (xs.filter (inSt [3])).length) := hn1
  have RO : Hid (GRow encT w2 a1 (xs.filter (inSt [3]))) := by subst hn1; exact ho.grow
  clear ho hn1
  have RF9 : Hid (GRow encF w2 (some ⟨w.heap.size + 1, 0, none⟩) [91]) := RF.out.below hbu
  go_wp2_with fail
  refine hK.out _ _ ⟨BT9.out.c0, BT9.out.c1, BT9.out.c2, BT9.out.c3, BT9.out.c4, BT9.out.c5, BT9.out.c6, BT9.out.c7⟩ (fun hHeld9 => ?_)
  clear hK K hb2 hbu
  refine wpAnyH_ready (rs := [5]) (by kernel_rfl) (by simp) ?_
  refine (AllReadyH.cons rfl (fun K hK => ?_) AllReadyH.nil)
  go_simp
  go_wp2_with fail
  refine (CL.out _ (some ⟨w.heap.size + 1, 0, none⟩) a1 c1 n1 HB9.out RF9.out HN1.out RO.out).mono ?_
  rintro e w3 ⟨rfl, hb3⟩
  have HB10 : Hid (Below w.heap.size w w3) := (HB9.out).trans (hb3.mono (HB9.out).size)
  have BT10 : Hid (Bx w3 w.heap.size [.int .i64 t.id, .int .i64 t.st, .int .i64 t.snap, .int .i64 t.cs, .slice ra t.rs.length rc, .slice wa t.ws.length wc, .bool t.out, .string t.nm]) := (BT9.out).below hb3
  go_wp2_with fail
  refine hK.out _ _ ⟨BT10.out.c0, BT10.out.c1, BT10.out.c2, BT10.out.c3, BT10.out.c4, BT10.out.c5, BT10.out.c6, BT10.out.c7⟩ (fun hHeld10 => ?_)
  clear hK K hb3
  (refine wpAnyH_take (i := 6) (v := ?_) rfl (by kernel_rfl) (by kernel_rfl) (by kernel_rfl) (fun _ _ _ h => h) (Or.inl ⟨by rfl, ?_⟩) (by assumption) ?_; rotate_left; (focus (intro w hSw; (try dsimp only at hSw); go_simp; (try with_reducible rfl); done)); simp only [Act.put, List.getElem_toArray, List.getElem_cons_zero, List.getElem_cons_succ, List.setIfInBounds_toArray, List.set_cons_zero, List.set_cons_succ])
  refine wpAnyH_done (by kernel_rfl) ?_ _
  go_wp2
  go_ret
  exact ⟨rfl, HB10.out⟩
 ·go_simp
  have HBi : Hid (Below w.heap.size w ((w.alloc (.cells #[.int .i64 t.id, .int .i64 t.st, .int .i64 t.snap, .int .i64 t.cs, .slice ra t.rs.length rc, .slice wa t.ws.length wc, .bool t.out, .string t.nm] 51)).alloc (.cells #[.int .i64 3] 3))) := ((belowRefl w).alloc (Nat.le_refl _) _).alloc (by simp) _
  have BTi : Hid (Bx ((w.alloc (.cells #[.int .i64 t.id, .int .i64 t.st, .int .i64 t.snap, .int .i64 t.cs, .slice ra t.rs.length rc, .slice wa t.ws.length wc, .bool t.out, .string t.nm] 51)).alloc (.cells #[.int .i64 3] 3)) w.heap.size [.int .i64 t.id, .int .i64 t.st, .int .i64 t.snap, .int .i64 t.cs, .slice ra t.rs.length rc, .slice wa t.ws.length wc, .bool t.out, .string t.nm]) := ((Bx.new w [.int .i64 t.id, .int .i64 t.st, .int .i64 t.snap, .int .i64 t.cs, .slice ra t.rs.length rc, .slice wa t.ws.length wc, .bool t.out, .string t.nm] 51).alloc _)
  refine hK.out _ _ ⟨BTi.out.c0, BTi.out.c1, BTi.out.c2, BTi.out.c3, BTi.out.c4, BTi.out.c5, BTi.out.c6, BTi.out.c7⟩ (fun hHeldi => ?_)
  clear hK K
  refine wpAnyH_ready (rs := [1, 4]) (by kernel_rfl) (by simp) ?_
  refine (AllReadyH.cons rfl (fun K hK => ?_) (AllReadyH.cons rfl (fun K hK => ?_) AllReadyH.nil))
  ·go_simp
   have HBif : Hid (Below w.heap.size w (((w.alloc (.cells #[.int .i64 t.id, .int .i64 t.st, .int .i64 t.snap, .int .i64 t.cs, .slice ra t.rs.length rc, .slice wa t.ws.length wc, .bool t.out, .string t.nm] 51)).alloc (.cells #[.int .i64 3] 3)).alloc (.cells #[.func (.func 91) #[] #[]] 116))) := (((belowRefl w).alloc (Nat.le_refl _) _).alloc (by simp) _).alloc (by simp; omega) _
   have BTif : Hid (Bx (((w.alloc (.cells #[.int .i64 t.id, .int .i64 t.st, .int .i64 t.snap, .int .i64 t.cs, .slice ra t.rs.length rc, .slice wa t.ws.length wc, .bool t.out, .string t.nm] 51)).alloc (.cells #[.int .i64 3] 3)).alloc (.cells #[.func (.func 91) #[] #[]] 116)) w.heap.size [.int .i64 t.id, .int .i64 t.st, .int .i64 t.snap, .int .i64 t.cs, .slice ra t.rs.length rc, .slice wa t.ws.length wc, .bool t.out, .string t.nm]) := ((Bx.new w [.int .i64 t.id, .int .i64 t.st, .int .i64 t.snap, .int .i64 t.cs, .slice ra t.rs.length rc, .slice wa t.ws.length wc, .bool t.out, .string t.nm] 51).alloc _).alloc _
   refine hK.out _ _ ⟨BTif.out.c0, BTif.out.c1, BTif.out.c2, BTif.out.c3, BTif.out.c4, BTif.out.c5, BTif.out.c6, BTif.out.c7⟩ (fun hHeldif => ?_)
   clear hK K
   have RI : Hid (GRow encI (((w.alloc (.cells #[.int .i64 t.id, .int .i64 t.st, .int .i64 t.snap, .int .i64 t.cs, .slice ra t.rs.length rc, .slice wa t.ws.length wc, .bool t.out, .string t.nm] 51)).alloc (.cells #[.int .i64 3] 3)).alloc (.cells #[.func (.func 91) #[] #[]] 116)) (some ⟨w.heap.size + 1, 0, none⟩) [3]) := by have h := (rowI1 (w.alloc (.cells #[.int .i64 t.id, .int .i64 t.st, .int .i64 t.snap, .int .i64 t.cs, .slice ra t.rs.length rc, .slice wa t.ws.length wc, .bool t.out, .string t.nm] 51)) 3).below ((belowRefl _).alloc (Nat.le_refl _) (.cells #[.func (.func 91) #[] #[]] 116)); simpa [Hid] using h
   have RF : Hid (GRow encF (((w.alloc (.cells #[.int .i64 t.id, .int .i64 t.st, .int .i64 t.snap, .int .i64 t.cs, .slice ra t.rs.length rc, .slice wa t.ws.length wc, .bool t.out, .string t.nm] 51)).alloc (.cells #[.int .i64 3] 3)).alloc (.cells #[.func (.func 91) #[] #[]] 116)) (some ⟨w.heap.size + 1 + 1, 0, none⟩) [91]) := by have h := rowF1 ((w.alloc (.cells #[.int .i64 t.id, .int .i64 t.st, .int .i64 t.snap, .int .i64 t.cs, .slice ra t.rs.length rc, .slice wa t.ws.length wc, .bool t.out, .string t.nm] 51)).alloc (.cells #[.int .i64 3] 3)) 91; simpa [Hid] using h
   refine wpAnyH_ready (rs := [4]) (by kernel_rfl) (by simp) ?_
   refine (AllReadyH.cons rfl (fun K hK => ?_) AllReadyH.nil)
   go_simp
   go_wp2_with fail
   refine (CI.out _ (some ⟨w.heap.size + 1, 0, none⟩) HBif.out.drew RI.out.drew).mono ?_
   rintro e w2 ⟨a1, c1, n1, rfl, hn1, ho, hb2⟩
   have hbu := undrew hb2
   have HB9 : Hid (Below w.heap.size w w2) := HBif.out.trans (hbu.mono HBif.out.size)
   have BT9 : Hid (Bx w2 w.heap.size [.int .i64 t.id, .int .i64 t.st, .int .i64 t.snap, .int .i64 t.cs, .slice ra t.rs.length rc, .slice wa t.ws.length wc, .bool t.out, .string t.nm]) := BTif.out.below hbu
   have HN1 : Hid (n1 = (xs.filter (inSt [3])).length) := hn1
   have RO : Hid (GRow encT w2 a1 (xs.filter (inSt [3]))) := by subst hn1; exact ho.grow
   clear ho hn1
   have RF9 : Hid (GRow encF w2 (some ⟨w.heap.size + 1 + 1, 0, none⟩) [91]) := RF.out.below hbu
   go_wp2_with fail
   refine hK.out _ _ ⟨BT9.out.c0, BT9.out.c1, BT9.out.c2, BT9.out.c3, BT9.out.c4, BT9.out.c5, BT9.out.c6, BT9.out.c7⟩ (fun hHeld9 => ?_)
   clear hK K hb2 hbu
   refine wpAnyH_ready (rs := [5]) (by kernel_rfl) (by simp) ?_
   refine (AllReadyH.cons rfl (fun K hK => ?_) AllReadyH.nil)
   go_simp
   go_wp2_with fail
   refine (CL.out _ (some ⟨w.heap.size + 1 + 1, 0, none⟩) a1 c1 n1 HB9.out RF9.out HN1.out RO.out).mono ?_
   rintro e w3 ⟨rfl, hb3⟩
   have HB10 : Hid (Below w.heap.size w w3) := (HB9.out).trans (hb3.mono (HB9.out).size)
   have BT10 : Hid (Bx w3 w.heap.size [.int .i64 t.id, .int .i64 t.st, .int .i64 t.snap, .int .i64 t.cs, .slice ra t.rs.length rc, .slice wa t.ws.length wc, .bool t.out, .string t.nm]) := (BT9.out).below hb3
   go_wp2_with fail
   refine hK.out _ _ ⟨BT10.out.c0, BT10.out.c1, BT10.out.c2, BT10.out.c3, BT10.out.c4, BT10.out.c5, BT10.out.c6, BT10.out.c7⟩ (fun hHeld10 => ?_)
   clear hK K hb3
   (refine wpAnyH_take (i := 6) (v := ?_) rfl (by kernel_rfl) (by kernel_rfl) (by kernel_rfl) (fun _ _ _ h => h) (Or.inl ⟨by rfl, ?_⟩) (by assumption) ?_; rotate_left; (focus (intro w hSw; (try dsimp only at hSw); go_simp; (try with_reducible rfl); done)); simp only [Act.put, List.getElem_toArray, List.getElem_cons_zero, List.getElem_cons_succ, List.setIfInBounds_toArray, List.set_cons_zero, List.set_cons_succ])
   refine wpAnyH_done (by kernel_rfl) ?_ _
   go_wp2
   go_ret
   exact ⟨rfl, HB10.out⟩
  ·have RI : Hid (GRow encI ((w.alloc (.cells #[.int .i64 t.id, .int .i64 t.st, .int .i64 t.snap, .int .i64 t.cs, .slice ra t.rs.length rc, .slice wa t.ws.length wc, .bool t.out, .string t.nm] 51)).alloc (.cells #[.int .i64 3] 3)) (some ⟨w.heap.size + 1, 0, none⟩) [3]) := by have h := rowI1 (w.alloc (.cells #[.int .i64 t.id, .int .i64 t.st, .int .i64 t.snap, .int .i64 t.cs, .slice ra t.rs.length rc, .slice wa t.ws.length wc, .bool t.out, .string t.nm] 51)) 3; simpa [Hid] using h
   go_simp
   go_wp2_with fail
   refine (CI.out _ (some ⟨w.heap.size + 1, 0, none⟩) HBi.out.drew RI.out.drew).mono ?_
   rintro e w2 ⟨a1, c1, n1, rfl, hn1, ho, hb2⟩
   have hbu := undrew hb2
   have HB9 : Hid (Below w.heap.size w w2) := HBi.out.trans (hbu.mono HBi.out.size)
   have BT9 : Hid (Bx w2 w.heap.size [.int .i64 t.id, .int .i64 t.st, .int .i64 t.snap, .int .i64 t.cs, .slice ra t.rs.length rc, .slice wa t.ws.length wc, .bool t.out, .string t.nm]) := BTi.out.below hbu
   have HN1 : Hid (n1 = (xs.filter (inSt [3])).length) := hn1
   have RO : Hid (GRow encT w2 a1 (xs.filter (inSt [3]))) := by subst hn1; exact ho.grow
   clear ho hn1
   go_wp2_with fail
   refine hK.out _ _ ⟨BT9.out.c0, BT9.out.c1, BT9.out.c2, BT9.out.c3, BT9.out.c4, BT9.out.c5, BT9.out.c6, BT9.out.c7⟩ (fun hHeld9 => ?_)
   clear hK K hb2 hbu
   refine wpAnyH_ready (rs := [1]) (by kernel_rfl) (by simp) ?_
   refine (AllReadyH.cons rfl (fun K hK => ?_) AllReadyH.nil)
   go_simp
   have hba : Below w2.heap.size w2 (w2.alloc (.cells #[.func (.func 91) #[] #[]] 116)) := (belowRefl w2).alloc (Nat.le_refl _) _
   have HBl : Hid (Below w.heap.size w (w2.alloc (.cells #[.func (.func 91) #[] #[]] 116))) := HB9.out.trans (hba.mono HB9.out.size)
   have BTl : Hid (Bx (w2.alloc (.cells #[.func (.func 91) #[] #[]] 116)) w.heap.size [.int .i64 t.id, .int .i64 t.st, .int .i64 t.snap, .int .i64 t.cs, .slice ra t.rs.length rc, .slice wa t.ws.length wc, .bool t.out, .string t.nm]) := BT9.out.below hba
   have ROl : Hid (GRow encT (w2.alloc (.cells #[.func (.func 91) #[] #[]] 116)) a1 (xs.filter (inSt [3]))) := RO.out.below hba
   refine hK.out _ _ ⟨BTl.out.c0, BTl.out.c1, BTl.out.c2, BTl.out.c3, BTl.out.c4, BTl.out.c5, BTl.out.c6, BTl.out.c7⟩ (fun hHeldl => ?_)
   clear hK K hba
   refine wpAnyH_ready (rs := [5]) (by kernel_rfl) (by simp) ?_
   refine (AllReadyH.cons rfl (fun K hK => ?_) AllReadyH.nil)
   go_simp
   go_wp2_with fail
   refine (CL.out _ (some ⟨w2.heap.size, 0, none⟩) a1 c1 n1 HBl.out (rowF1 w2 91) HN1.out ROl.out).mono ?_
   rintro e w3 ⟨rfl, hb3⟩
   have HB10 : Hid (Below w.heap.size w w3) := (HBl.out).trans (hb3.mono (HBl.out).size)
   have BT10 : Hid (Bx w3 w.heap.size [.int .i64 t.id, .int .i64 t.st, .int .i64 t.snap, .int .i64 t.cs, .slice ra t.rs.length rc, .slice wa t.ws.length wc, .bool t.out, .string t.nm]) := (BTl.out).below hb3
   go_wp2_with fail
   refine hK.out _ _ ⟨BT10.out.c0, BT10.out.c1, BT10.out.c2, BT10.out.c3, BT10.out.c4, BT10.out.c5, BT10.out.c6, BT10.out.c7⟩ (fun hHeld10 => ?_)
   clear hK K hb3
   (refine wpAnyH_take (i := 6) (v := ?_) rfl (by kernel_rfl) (by kernel_rfl) (by kernel_rfl) (fun _ _ _ h => h) (Or.inl ⟨by rfl, ?_⟩) (by assumption) ?_; rotate_left; (focus (intro w hSw; (try dsimp only at hSw); go_simp; (try with_reducible rfl); done)); simp only [Act.put, List.getElem_toArray, List.getElem_cons_zero, List.getElem_cons_succ, List.setIfInBounds_toArray, List.set_cons_zero, List.set_cons_succ])
   refine wpAnyH_done (by kernel_rfl) ?_ _
   go_wp2
   go_ret
   exact ⟨rfl, HB10.out⟩

set_option maxRecDepth 100000 in
set_option maxHeartbeats 2000000 in
theorem iinof (t : Tx) (ra wa : Option Addr) (rc wc : Nat) (xs : List Ta) (a : Option Addr) (c n : Nat) (hx : n = xs.length) (hn : n ≤ 10000000) (ft : TFit t) (fx : LFw (txs xs)) (w : World) (ht : TRow w t ra wa) (hp : TRows w a xs) :
  Calls Try.prog 74 #[.agg #[.int .i64 t.id, .int .i64 t.st, .int .i64 t.snap, .int .i64 t.cs, .slice ra t.rs.length rc, .slice wa t.ws.length wc, .bool t.out, .string t.nm], .slice a n c] w fun e w' => e = .returned (.bool (intoB t (txs xs))) ∧ Below w.heap.size w w' := by
 have HB1 : Hid (Below w.heap.size w (w.alloc (.cells #[.int .i64 t.id, .int .i64 t.st, .int .i64 t.snap, .int .i64 t.cs, .slice ra t.rs.length rc, .slice wa t.ws.length wc, .bool t.out, .string t.nm] 51))) := (belowRefl w).alloc (Nat.le_refl _) _
 have BT1 : Hid (Bx (w.alloc (.cells #[.int .i64 t.id, .int .i64 t.st, .int .i64 t.snap, .int .i64 t.cs, .slice ra t.rs.length rc, .slice wa t.ws.length wc, .bool t.out, .string t.nm] 51)) w.heap.size [.int .i64 t.id, .int .i64 t.st, .int .i64 t.snap, .int .i64 t.cs, .slice ra t.rs.length rc, .slice wa t.ws.length wc, .bool t.out, .string t.nm]) := Bx.new w [.int .i64 t.id, .int .i64 t.st, .int .i64 t.snap, .int .i64 t.cs, .slice ra t.rs.length rc, .slice wa t.ws.length wc, .bool t.out, .string t.nm] 51
 have HT : Hid (TRow w t ra wa) := ht
 have HP : Hid (TRows w a xs) := hp
 have FT : Hid (TFit t) := ft
 have FX : Hid (LFw (txs xs)) := fx
 have HX : Hid (n = xs.length) := hx
 have CI : Hid (∀ (W : World) (sa : Option Addr), Below w.heap.size w W → GRow encI W sa [2, 3] → Calls Try.prog 77 #[.slice a n c, .slice sa 2 2] W fun e w' => ∃ (a1 : Option Addr) (c1 n1 : Nat), e = .returned (.slice a1 n1 c1) ∧ n1 = (xs.filter (inSt [2, 3])).length ∧ GOwn encT 51 w' W.heap.size (.slice a1 n1 c1) (xs.filter (inSt [2, 3])) ∧ Below W.heap.size W w') := fun W sa h1 h2 => inSt49 xs a c n HX.out hn [2, 3] sa 2 (by simp) W (HP.out.below h1) h2
 have CL : Hid (∀ (W : World) (ca ya : Option Addr) (yc n1 : Nat), Below w.heap.size w W → GRow encF W ca [79] → n1 = (xs.filter (inSt [2, 3])).length → GRow encT W ya (xs.filter (inSt [2, 3])) → Calls Try.prog 72 #[.agg #[.int .i64 t.id, .int .i64 t.st, .int .i64 t.snap, .int .i64 t.cs, .slice ra t.rs.length rc, .slice wa t.ws.length wc, .bool t.out, .string t.nm], .slice ca 1 1, .slice ya n1 yc] W fun e w' => e = .returned (.bool (intoB t (txs xs))) ∧ Below W.heap.size W w') := fun W ca ya yc n1 h1 h2 h3 h4 => by
  have h := lead_of 79 isBehind ask48 [] [] (xs.filter (inSt [2, 3])) ya yc n1 h3 (by rw [h3]; exact Nat.le_trans (List.length_filter_le _ _) (by rw [← HX.out]; omega)) (lfit_filter (fun x => inS [2, 3] x.st) FX.out) (lead_nil _ ya yc n1) t ra wa rc wc ca 1 1 W rfl (Nat.le_refl _) FT.out (HT.out.below h1) ⟨h4, fun x hx => ((HP.out.each x (List.mem_filter.1 hx).1).below h1)⟩ h2
  rw [lead1] at h
  have e : (txs (xs.filter (inSt [2, 3]))).any (isBehind t) = intoB t (txs xs) := by rw [show txs (xs.filter (inSt [2, 3])) = (txs xs).filter (fun u : Tx => inS [2, 3] u.st) from txs_filter (fun u : Tx => inS [2, 3] u.st) xs]; simp only [intoB, List.any_filter]; congr 1; funext x; simp [inQ, readyB, doneB, inS, isBehind]
  rw [e] at h
  exact h
 clear ht hp ft fx hx
 go_enter Try.func74, Try.ntmps74
 go_wp2
 refine wp_region_held_drew (S := fun w' => w'.cell? ⟨w.heap.size, 0, none⟩ = some (.int .i64 t.id) ∧ w'.cell? ⟨w.heap.size, 1, none⟩ = some (.int .i64 t.st) ∧ w'.cell? ⟨w.heap.size, 2, none⟩ = some (.int .i64 t.snap) ∧ w'.cell? ⟨w.heap.size, 3, none⟩ = some (.int .i64 t.cs) ∧ w'.cell? ⟨w.heap.size, 4, none⟩ = some (.slice ra t.rs.length rc) ∧ w'.cell? ⟨w.heap.size, 5, none⟩ = some (.slice wa t.ws.length wc) ∧ w'.cell? ⟨w.heap.size, 6, none⟩ = some (.bool t.out) ∧ w'.cell? ⟨w.heap.size, 7, none⟩ = some (.string t.nm)) (by kernel_rfl) ⟨BT1.out.c0, BT1.out.c1, BT1.out.c2, BT1.out.c3, BT1.out.c4, BT1.out.c5, BT1.out.c6, BT1.out.c7⟩ (fun hHeld => ?_)
 (refine wpAnyH_take (i := 0) (v := ?_) rfl (by kernel_rfl) (by kernel_rfl) (by kernel_rfl) (fun _ _ _ h => h) (Or.inl ⟨by rfl, ?_⟩) (by assumption) ?_; rotate_left; (focus (intro w hSw; (try dsimp only at hSw); go_simp; (try with_reducible rfl); done)); simp only [Act.put, List.getElem_toArray, List.getElem_cons_zero, List.setIfInBounds_toArray, List.set_cons_zero, List.set_cons_succ])
 (refine wpAnyH_take (i := 2) (v := ?_) rfl (by kernel_rfl) (by kernel_rfl) (by kernel_rfl) (fun _ _ _ h => h) (Or.inl ⟨by rfl, ?_⟩) (by assumption) ?_; rotate_left; (focus (intro w hSw; (try dsimp only at hSw); go_simp; (try with_reducible rfl); done)); simp only [Act.put, List.getElem_toArray, List.getElem_cons_zero, List.getElem_cons_succ, List.setIfInBounds_toArray, List.set_cons_zero, List.set_cons_succ])
 refine wpAnyH_ready (rs := [1, 3]) (by kernel_rfl) (by simp) ?_
 refine (AllReadyH.cons rfl (fun K hK => ?_) (AllReadyH.cons rfl (fun K hK => ?_) AllReadyH.nil))
 ·go_simp
  have HBf : Hid (Below w.heap.size w ((w.alloc (.cells #[.int .i64 t.id, .int .i64 t.st, .int .i64 t.snap, .int .i64 t.cs, .slice ra t.rs.length rc, .slice wa t.ws.length wc, .bool t.out, .string t.nm] 51)).alloc (.cells #[.func (.func 79) #[] #[]] 116))) := ((belowRefl w).alloc (Nat.le_refl _) _).alloc (by simp) _
  have BTf : Hid (Bx ((w.alloc (.cells #[.int .i64 t.id, .int .i64 t.st, .int .i64 t.snap, .int .i64 t.cs, .slice ra t.rs.length rc, .slice wa t.ws.length wc, .bool t.out, .string t.nm] 51)).alloc (.cells #[.func (.func 79) #[] #[]] 116)) w.heap.size [.int .i64 t.id, .int .i64 t.st, .int .i64 t.snap, .int .i64 t.cs, .slice ra t.rs.length rc, .slice wa t.ws.length wc, .bool t.out, .string t.nm]) := ((Bx.new w [.int .i64 t.id, .int .i64 t.st, .int .i64 t.snap, .int .i64 t.cs, .slice ra t.rs.length rc, .slice wa t.ws.length wc, .bool t.out, .string t.nm] 51).alloc _)
  refine hK.out _ _ ⟨BTf.out.c0, BTf.out.c1, BTf.out.c2, BTf.out.c3, BTf.out.c4, BTf.out.c5, BTf.out.c6, BTf.out.c7⟩ (fun hHeldf => ?_)
  clear hK K
  refine wpAnyH_ready (rs := [3]) (by kernel_rfl) (by simp) ?_
  refine (AllReadyH.cons rfl (fun K hK => ?_) AllReadyH.nil)
  go_simp
  have HBfi : Hid (Below w.heap.size w (((w.alloc (.cells #[.int .i64 t.id, .int .i64 t.st, .int .i64 t.snap, .int .i64 t.cs, .slice ra t.rs.length rc, .slice wa t.ws.length wc, .bool t.out, .string t.nm] 51)).alloc (.cells #[.func (.func 79) #[] #[]] 116)).alloc (.cells #[.int .i64 2, .int .i64 3] 3))) := (((belowRefl w).alloc (Nat.le_refl _) _).alloc (by simp) _).alloc (by simp; omega) _
  have BTfi : Hid (Bx (((w.alloc (.cells #[.int .i64 t.id, .int .i64 t.st, .int .i64 t.snap, .int .i64 t.cs, .slice ra t.rs.length rc, .slice wa t.ws.length wc, .bool t.out, .string t.nm] 51)).alloc (.cells #[.func (.func 79) #[] #[]] 116)).alloc (.cells #[.int .i64 2, .int .i64 3] 3)) w.heap.size [.int .i64 t.id, .int .i64 t.st, .int .i64 t.snap, .int .i64 t.cs, .slice ra t.rs.length rc, .slice wa t.ws.length wc, .bool t.out, .string t.nm]) := ((Bx.new w [.int .i64 t.id, .int .i64 t.st, .int .i64 t.snap, .int .i64 t.cs, .slice ra t.rs.length rc, .slice wa t.ws.length wc, .bool t.out, .string t.nm] 51).alloc _).alloc _
  refine hK.out _ _ ⟨BTfi.out.c0, BTfi.out.c1, BTfi.out.c2, BTfi.out.c3, BTfi.out.c4, BTfi.out.c5, BTfi.out.c6, BTfi.out.c7⟩ (fun hHeldfi => ?_)
  clear hK K
  have RF : Hid (GRow encF (((w.alloc (.cells #[.int .i64 t.id, .int .i64 t.st, .int .i64 t.snap, .int .i64 t.cs, .slice ra t.rs.length rc, .slice wa t.ws.length wc, .bool t.out, .string t.nm] 51)).alloc (.cells #[.func (.func 79) #[] #[]] 116)).alloc (.cells #[.int .i64 2, .int .i64 3] 3)) (some ⟨w.heap.size + 1, 0, none⟩) [79]) := by have h := (rowF1 (w.alloc (.cells #[.int .i64 t.id, .int .i64 t.st, .int .i64 t.snap, .int .i64 t.cs, .slice ra t.rs.length rc, .slice wa t.ws.length wc, .bool t.out, .string t.nm] 51)) 79).below ((belowRefl _).alloc (Nat.le_refl _) (.cells #[.int .i64 2, .int .i64 3] 3)); simpa [Hid] using h
  have RI : Hid (GRow encI (((w.alloc (.cells #[.int .i64 t.id, .int .i64 t.st, .int .i64 t.snap, .int .i64 t.cs, .slice ra t.rs.length rc, .slice wa t.ws.length wc, .bool t.out, .string t.nm] 51)).alloc (.cells #[.func (.func 79) #[] #[]] 116)).alloc (.cells #[.int .i64 2, .int .i64 3] 3)) (some ⟨w.heap.size + 1 + 1, 0, none⟩) [2, 3]) := by have h := rowI2 ((w.alloc (.cells #[.int .i64 t.id, .int .i64 t.st, .int .i64 t.snap, .int .i64 t.cs, .slice ra t.rs.length rc, .slice wa t.ws.length wc, .bool t.out, .string t.nm] 51)).alloc (.cells #[.func (.func 79) #[] #[]] 116)) 2 3; simpa [Hid] using h
  refine wpAnyH_ready (rs := [4]) (by kernel_rfl) (by simp) ?_
  refine (AllReadyH.cons rfl (fun K hK => ?_) AllReadyH.nil)
  go_simp
  go_wp2_with fail
  refine (CI.out _ (some ⟨w.heap.size + 1 + 1, 0, none⟩) HBfi.out.drew RI.out.drew).mono ?_
  rintro e w2 ⟨a1, c1, n1, rfl, hn1, ho, hb2⟩
  have hbu := undrew hb2
  have HB9 : Hid (Below w.heap.size w w2) := HBfi.out.trans (hbu.mono HBfi.out.size)
  have BT9 : Hid (Bx w2 w.heap.size [.int .i64 t.id, .int .i64 t.st, .int .i64 t.snap, .int .i64 t.cs, .slice ra t.rs.length rc, .slice wa t.ws.length wc, .bool t.out, .string t.nm]) := BTfi.out.below hbu
  have HN1 : Hid (n1 = (xs.filter (inSt [2, 3])).length) := hn1
  have RO : Hid (GRow encT w2 a1 (xs.filter (inSt [2, 3]))) := by subst hn1; exact ho.grow
  clear ho hn1
  have RF9 : Hid (GRow encF w2 (some ⟨w.heap.size + 1, 0, none⟩) [79]) := RF.out.below hbu
  go_wp2_with fail
  refine hK.out _ _ ⟨BT9.out.c0, BT9.out.c1, BT9.out.c2, BT9.out.c3, BT9.out.c4, BT9.out.c5, BT9.out.c6, BT9.out.c7⟩ (fun hHeld9 => ?_)
  clear hK K hb2 hbu
  refine wpAnyH_ready (rs := [5]) (by kernel_rfl) (by simp) ?_
  refine (AllReadyH.cons rfl (fun K hK => ?_) AllReadyH.nil)
  go_simp
  go_wp2_with fail
  refine (CL.out _ (some ⟨w.heap.size + 1, 0, none⟩) a1 c1 n1 HB9.out RF9.out HN1.out RO.out).mono ?_
  rintro e w3 ⟨rfl, hb3⟩
  have HB10 : Hid (Below w.heap.size w w3) := (HB9.out).trans (hb3.mono (HB9.out).size)
  have BT10 : Hid (Bx w3 w.heap.size [.int .i64 t.id, .int .i64 t.st, .int .i64 t.snap, .int .i64 t.cs, .slice ra t.rs.length rc, .slice wa t.ws.length wc, .bool t.out, .string t.nm]) := (BT9.out).below hb3
  go_wp2_with fail
  refine hK.out _ _ ⟨BT10.out.c0, BT10.out.c1, BT10.out.c2, BT10.out.c3, BT10.out.c4, BT10.out.c5, BT10.out.c6, BT10.out.c7⟩ (fun hHeld10 => ?_)
  clear hK K hb3
  (refine wpAnyH_take (i := 6) (v := ?_) rfl (by kernel_rfl) (by kernel_rfl) (by kernel_rfl) (fun _ _ _ h => h) (Or.inl ⟨by rfl, ?_⟩) (by assumption) ?_; rotate_left; (focus (intro w hSw; (try dsimp only at hSw); go_simp; (try with_reducible rfl); done)); simp only [Act.put, List.getElem_toArray, List.getElem_cons_zero, List.getElem_cons_succ, List.setIfInBounds_toArray, List.set_cons_zero, List.set_cons_succ])
  refine wpAnyH_done (by kernel_rfl) ?_ _
  go_wp2
  go_ret
  exact ⟨rfl, HB10.out⟩
 ·go_simp
  have HBi : Hid (Below w.heap.size w ((w.alloc (.cells #[.int .i64 t.id, .int .i64 t.st, .int .i64 t.snap, .int .i64 t.cs, .slice ra t.rs.length rc, .slice wa t.ws.length wc, .bool t.out, .string t.nm] 51)).alloc (.cells #[.int .i64 2, .int .i64 3] 3))) := ((belowRefl w).alloc (Nat.le_refl _) _).alloc (by simp) _
  have BTi : Hid (Bx ((w.alloc (.cells #[.int .i64 t.id, .int .i64 t.st, .int .i64 t.snap, .int .i64 t.cs, .slice ra t.rs.length rc, .slice wa t.ws.length wc, .bool t.out, .string t.nm] 51)).alloc (.cells #[.int .i64 2, .int .i64 3] 3)) w.heap.size [.int .i64 t.id, .int .i64 t.st, .int .i64 t.snap, .int .i64 t.cs, .slice ra t.rs.length rc, .slice wa t.ws.length wc, .bool t.out, .string t.nm]) := ((Bx.new w [.int .i64 t.id, .int .i64 t.st, .int .i64 t.snap, .int .i64 t.cs, .slice ra t.rs.length rc, .slice wa t.ws.length wc, .bool t.out, .string t.nm] 51).alloc _)
  refine hK.out _ _ ⟨BTi.out.c0, BTi.out.c1, BTi.out.c2, BTi.out.c3, BTi.out.c4, BTi.out.c5, BTi.out.c6, BTi.out.c7⟩ (fun hHeldi => ?_)
  clear hK K
  refine wpAnyH_ready (rs := [1, 4]) (by kernel_rfl) (by simp) ?_
  refine (AllReadyH.cons rfl (fun K hK => ?_) (AllReadyH.cons rfl (fun K hK => ?_) AllReadyH.nil))
  ·go_simp
   have HBif : Hid (Below w.heap.size w (((w.alloc (.cells #[.int .i64 t.id, .int .i64 t.st, .int .i64 t.snap, .int .i64 t.cs, .slice ra t.rs.length rc, .slice wa t.ws.length wc, .bool t.out, .string t.nm] 51)).alloc (.cells #[.int .i64 2, .int .i64 3] 3)).alloc (.cells #[.func (.func 79) #[] #[]] 116))) := (((belowRefl w).alloc (Nat.le_refl _) _).alloc (by simp) _).alloc (by simp; omega) _
   have BTif : Hid (Bx (((w.alloc (.cells #[.int .i64 t.id, .int .i64 t.st, .int .i64 t.snap, .int .i64 t.cs, .slice ra t.rs.length rc, .slice wa t.ws.length wc, .bool t.out, .string t.nm] 51)).alloc (.cells #[.int .i64 2, .int .i64 3] 3)).alloc (.cells #[.func (.func 79) #[] #[]] 116)) w.heap.size [.int .i64 t.id, .int .i64 t.st, .int .i64 t.snap, .int .i64 t.cs, .slice ra t.rs.length rc, .slice wa t.ws.length wc, .bool t.out, .string t.nm]) := ((Bx.new w [.int .i64 t.id, .int .i64 t.st, .int .i64 t.snap, .int .i64 t.cs, .slice ra t.rs.length rc, .slice wa t.ws.length wc, .bool t.out, .string t.nm] 51).alloc _).alloc _
   refine hK.out _ _ ⟨BTif.out.c0, BTif.out.c1, BTif.out.c2, BTif.out.c3, BTif.out.c4, BTif.out.c5, BTif.out.c6, BTif.out.c7⟩ (fun hHeldif => ?_)
   clear hK K
   have RI : Hid (GRow encI (((w.alloc (.cells #[.int .i64 t.id, .int .i64 t.st, .int .i64 t.snap, .int .i64 t.cs, .slice ra t.rs.length rc, .slice wa t.ws.length wc, .bool t.out, .string t.nm] 51)).alloc (.cells #[.int .i64 2, .int .i64 3] 3)).alloc (.cells #[.func (.func 79) #[] #[]] 116)) (some ⟨w.heap.size + 1, 0, none⟩) [2, 3]) := by have h := (rowI2 (w.alloc (.cells #[.int .i64 t.id, .int .i64 t.st, .int .i64 t.snap, .int .i64 t.cs, .slice ra t.rs.length rc, .slice wa t.ws.length wc, .bool t.out, .string t.nm] 51)) 2 3).below ((belowRefl _).alloc (Nat.le_refl _) (.cells #[.func (.func 79) #[] #[]] 116)); simpa [Hid] using h
   have RF : Hid (GRow encF (((w.alloc (.cells #[.int .i64 t.id, .int .i64 t.st, .int .i64 t.snap, .int .i64 t.cs, .slice ra t.rs.length rc, .slice wa t.ws.length wc, .bool t.out, .string t.nm] 51)).alloc (.cells #[.int .i64 2, .int .i64 3] 3)).alloc (.cells #[.func (.func 79) #[] #[]] 116)) (some ⟨w.heap.size + 1 + 1, 0, none⟩) [79]) := by have h := rowF1 ((w.alloc (.cells #[.int .i64 t.id, .int .i64 t.st, .int .i64 t.snap, .int .i64 t.cs, .slice ra t.rs.length rc, .slice wa t.ws.length wc, .bool t.out, .string t.nm] 51)).alloc (.cells #[.int .i64 2, .int .i64 3] 3)) 79; simpa [Hid] using h
   refine wpAnyH_ready (rs := [4]) (by kernel_rfl) (by simp) ?_
   refine (AllReadyH.cons rfl (fun K hK => ?_) AllReadyH.nil)
   go_simp
   go_wp2_with fail
   refine (CI.out _ (some ⟨w.heap.size + 1, 0, none⟩) HBif.out.drew RI.out.drew).mono ?_
   rintro e w2 ⟨a1, c1, n1, rfl, hn1, ho, hb2⟩
   have hbu := undrew hb2
   have HB9 : Hid (Below w.heap.size w w2) := HBif.out.trans (hbu.mono HBif.out.size)
   have BT9 : Hid (Bx w2 w.heap.size [.int .i64 t.id, .int .i64 t.st, .int .i64 t.snap, .int .i64 t.cs, .slice ra t.rs.length rc, .slice wa t.ws.length wc, .bool t.out, .string t.nm]) := BTif.out.below hbu
   have HN1 : Hid (n1 = (xs.filter (inSt [2, 3])).length) := hn1
   have RO : Hid (GRow encT w2 a1 (xs.filter (inSt [2, 3]))) := by subst hn1; exact ho.grow
   clear ho hn1
   have RF9 : Hid (GRow encF w2 (some ⟨w.heap.size + 1 + 1, 0, none⟩) [79]) := RF.out.below hbu
   go_wp2_with fail
   refine hK.out _ _ ⟨BT9.out.c0, BT9.out.c1, BT9.out.c2, BT9.out.c3, BT9.out.c4, BT9.out.c5, BT9.out.c6, BT9.out.c7⟩ (fun hHeld9 => ?_)
   clear hK K hb2 hbu
   refine wpAnyH_ready (rs := [5]) (by kernel_rfl) (by simp) ?_
   refine (AllReadyH.cons rfl (fun K hK => ?_) AllReadyH.nil)
   go_simp
   go_wp2_with fail
   refine (CL.out _ (some ⟨w.heap.size + 1 + 1, 0, none⟩) a1 c1 n1 HB9.out RF9.out HN1.out RO.out).mono ?_
   rintro e w3 ⟨rfl, hb3⟩
   have HB10 : Hid (Below w.heap.size w w3) := (HB9.out).trans (hb3.mono (HB9.out).size)
   have BT10 : Hid (Bx w3 w.heap.size [.int .i64 t.id, .int .i64 t.st, .int .i64 t.snap, .int .i64 t.cs, .slice ra t.rs.length rc, .slice wa t.ws.length wc, .bool t.out, .string t.nm]) := (BT9.out).below hb3
   go_wp2_with fail
   refine hK.out _ _ ⟨BT10.out.c0, BT10.out.c1, BT10.out.c2, BT10.out.c3, BT10.out.c4, BT10.out.c5, BT10.out.c6, BT10.out.c7⟩ (fun hHeld10 => ?_)
   clear hK K hb3
   (refine wpAnyH_take (i := 6) (v := ?_) rfl (by kernel_rfl) (by kernel_rfl) (by kernel_rfl) (fun _ _ _ h => h) (Or.inl ⟨by rfl, ?_⟩) (by assumption) ?_; rotate_left; (focus (intro w hSw; (try dsimp only at hSw); go_simp; (try with_reducible rfl); done)); simp only [Act.put, List.getElem_toArray, List.getElem_cons_zero, List.getElem_cons_succ, List.setIfInBounds_toArray, List.set_cons_zero, List.set_cons_succ])
   refine wpAnyH_done (by kernel_rfl) ?_ _
   go_wp2
   go_ret
   exact ⟨rfl, HB10.out⟩
  ·have RI : Hid (GRow encI ((w.alloc (.cells #[.int .i64 t.id, .int .i64 t.st, .int .i64 t.snap, .int .i64 t.cs, .slice ra t.rs.length rc, .slice wa t.ws.length wc, .bool t.out, .string t.nm] 51)).alloc (.cells #[.int .i64 2, .int .i64 3] 3)) (some ⟨w.heap.size + 1, 0, none⟩) [2, 3]) := by have h := rowI2 (w.alloc (.cells #[.int .i64 t.id, .int .i64 t.st, .int .i64 t.snap, .int .i64 t.cs, .slice ra t.rs.length rc, .slice wa t.ws.length wc, .bool t.out, .string t.nm] 51)) 2 3; simpa [Hid] using h
   go_simp
   go_wp2_with fail
   refine (CI.out _ (some ⟨w.heap.size + 1, 0, none⟩) HBi.out.drew RI.out.drew).mono ?_
   rintro e w2 ⟨a1, c1, n1, rfl, hn1, ho, hb2⟩
   have hbu := undrew hb2
   have HB9 : Hid (Below w.heap.size w w2) := HBi.out.trans (hbu.mono HBi.out.size)
   have BT9 : Hid (Bx w2 w.heap.size [.int .i64 t.id, .int .i64 t.st, .int .i64 t.snap, .int .i64 t.cs, .slice ra t.rs.length rc, .slice wa t.ws.length wc, .bool t.out, .string t.nm]) := BTi.out.below hbu
   have HN1 : Hid (n1 = (xs.filter (inSt [2, 3])).length) := hn1
   have RO : Hid (GRow encT w2 a1 (xs.filter (inSt [2, 3]))) := by subst hn1; exact ho.grow
   clear ho hn1
   go_wp2_with fail
   refine hK.out _ _ ⟨BT9.out.c0, BT9.out.c1, BT9.out.c2, BT9.out.c3, BT9.out.c4, BT9.out.c5, BT9.out.c6, BT9.out.c7⟩ (fun hHeld9 => ?_)
   clear hK K hb2 hbu
   refine wpAnyH_ready (rs := [1]) (by kernel_rfl) (by simp) ?_
   refine (AllReadyH.cons rfl (fun K hK => ?_) AllReadyH.nil)
   go_simp
   have hba : Below w2.heap.size w2 (w2.alloc (.cells #[.func (.func 79) #[] #[]] 116)) := (belowRefl w2).alloc (Nat.le_refl _) _
   have HBl : Hid (Below w.heap.size w (w2.alloc (.cells #[.func (.func 79) #[] #[]] 116))) := HB9.out.trans (hba.mono HB9.out.size)
   have BTl : Hid (Bx (w2.alloc (.cells #[.func (.func 79) #[] #[]] 116)) w.heap.size [.int .i64 t.id, .int .i64 t.st, .int .i64 t.snap, .int .i64 t.cs, .slice ra t.rs.length rc, .slice wa t.ws.length wc, .bool t.out, .string t.nm]) := BT9.out.below hba
   have ROl : Hid (GRow encT (w2.alloc (.cells #[.func (.func 79) #[] #[]] 116)) a1 (xs.filter (inSt [2, 3]))) := RO.out.below hba
   refine hK.out _ _ ⟨BTl.out.c0, BTl.out.c1, BTl.out.c2, BTl.out.c3, BTl.out.c4, BTl.out.c5, BTl.out.c6, BTl.out.c7⟩ (fun hHeldl => ?_)
   clear hK K hba
   refine wpAnyH_ready (rs := [5]) (by kernel_rfl) (by simp) ?_
   refine (AllReadyH.cons rfl (fun K hK => ?_) AllReadyH.nil)
   go_simp
   go_wp2_with fail
   refine (CL.out _ (some ⟨w2.heap.size, 0, none⟩) a1 c1 n1 HBl.out (rowF1 w2 79) HN1.out ROl.out).mono ?_
   rintro e w3 ⟨rfl, hb3⟩
   have HB10 : Hid (Below w.heap.size w w3) := (HBl.out).trans (hb3.mono (HBl.out).size)
   have BT10 : Hid (Bx w3 w.heap.size [.int .i64 t.id, .int .i64 t.st, .int .i64 t.snap, .int .i64 t.cs, .slice ra t.rs.length rc, .slice wa t.ws.length wc, .bool t.out, .string t.nm]) := (BTl.out).below hb3
   go_wp2_with fail
   refine hK.out _ _ ⟨BT10.out.c0, BT10.out.c1, BT10.out.c2, BT10.out.c3, BT10.out.c4, BT10.out.c5, BT10.out.c6, BT10.out.c7⟩ (fun hHeld10 => ?_)
   clear hK K hb3
   (refine wpAnyH_take (i := 6) (v := ?_) rfl (by kernel_rfl) (by kernel_rfl) (by kernel_rfl) (fun _ _ _ h => h) (Or.inl ⟨by rfl, ?_⟩) (by assumption) ?_; rotate_left; (focus (intro w hSw; (try dsimp only at hSw); go_simp; (try with_reducible rfl); done)); simp only [Act.put, List.getElem_toArray, List.getElem_cons_zero, List.getElem_cons_succ, List.setIfInBounds_toArray, List.set_cons_zero, List.set_cons_succ])
   refine wpAnyH_done (by kernel_rfl) ?_ _
   go_wp2
   go_ret
   exact ⟨rfl, HB10.out⟩

end Go.Proofs.Ytjeicgibddfifaa

/- Who is ahead of whom: Blocked, OutOf and InOf of the program. -/
import Derived.Test.YtmijppfppigjcaaGreatPd01
import Derived.Test.YtmijppfppigjcaaGreatPd14
import Derived.Deep.RegionHeld3
import Derived.Test.YtmijppfppigjcaaGreatPd22
import Derived.Test.YtmijppfppigjcaaGreatPd21
import Derived.Test.YtmijppfppigjcaaGreatPd12
import Derived.Test.YtmijppfppigjcaaGreatPd18
import Derived.Test.YtmijppfppigjcaaGreatPd17
import Derived.Laws.EntriesVeiled
import Derived.Deep.Cut
import Derived.Deep.CutRange
namespace Go.Proofs.YtmijppfppigjcaaGreat
open Go.RowKit
open KM
attribute [local go_sem ↓] Go.wp_at_zero Go.wp_at_succ

theorem rowF1 (w : World) (q : Nat) : GRow encF (w.alloc (.cells #[.func (.func q) #[] #[]] 221)) (some ⟨w.heap.size, 0, none⟩) [q] := fun _ =>
 ⟨w.heap.size, 0, rfl, by simp, fun j hj i hi => by
  obtain rfl : j = 0 := by simpa using hj
  obtain rfl : i = 0 := by simpa [encF] using hi
  simp [encF]⟩
theorem rowI1 (w : World) (x : Int) : GRow encI (w.alloc (.cells #[.int .i64 x] 3)) (some ⟨w.heap.size, 0, none⟩) [x] := fun _ =>
 ⟨w.heap.size, 0, rfl, by simp, fun j hj i hi => by
  obtain rfl : j = 0 := by simpa using hj
  obtain rfl : i = 0 := by simpa [encI] using hi
  simp [encI]⟩
theorem lfit_filter (p : Tx → Bool) {xs : List Ta} (h : LFit (txs xs)) : LFit (txs (xs.filter fun x => p x.t)) := by
 rw [txs_filter]
 exact ⟨Nat.le_trans (List.length_filter_le _ _) h.1, fun t ht => h.2 t (List.mem_filter.1 ht).1⟩
set_option maxRecDepth 100000 in
set_option maxHeartbeats 2000000 in
theorem ioutof (t : Tx) (ra wa : Option Addr) (rc wc : Nat) (xs : List Ta) (a : Option Addr) (c n : Nat) (hx : n = xs.length) (hn : n ≤ 10000000) (ft : TFit t) (fx : LFit (txs xs)) (w : World) (ht : TRow w t ra wa) (hp : TRows w a xs) :
  Calls Tryz.prog 95 #[.agg #[.int .i64 t.id, .int .i64 t.st, .int .i64 t.snap, .int .i64 t.cs, .slice ra t.rs.length rc, .slice wa t.ws.length wc, .bool t.out, .string t.nm], .slice a n c] w fun e w' => e = .returned (.bool (outB t (txs xs))) ∧ Below w.heap.size w w' := by
 have HB1 : Hid (Below w.heap.size w (w.alloc (.cells #[.int .i64 t.id, .int .i64 t.st, .int .i64 t.snap, .int .i64 t.cs, .slice ra t.rs.length rc, .slice wa t.ws.length wc, .bool t.out, .string t.nm] 62))) := (belowRefl w).alloc (Nat.le_refl _) _
 have BT1 : Hid (Bx (w.alloc (.cells #[.int .i64 t.id, .int .i64 t.st, .int .i64 t.snap, .int .i64 t.cs, .slice ra t.rs.length rc, .slice wa t.ws.length wc, .bool t.out, .string t.nm] 62)) w.heap.size [.int .i64 t.id, .int .i64 t.st, .int .i64 t.snap, .int .i64 t.cs, .slice ra t.rs.length rc, .slice wa t.ws.length wc, .bool t.out, .string t.nm]) := Bx.new w [.int .i64 t.id, .int .i64 t.st, .int .i64 t.snap, .int .i64 t.cs, .slice ra t.rs.length rc, .slice wa t.ws.length wc, .bool t.out, .string t.nm] 62
 have HT : Hid (TRow w t ra wa) := ht
 have HP : Hid (TRows w a xs) := hp
 have FT : Hid (TFit t) := ft
 have FX : Hid (LFit (txs xs)) := fx
 have HX : Hid (n = xs.length) := hx
 have CI : Hid (∀ (W : World) (sa : Option Addr), Below w.heap.size w W → GRow encI W sa [3] → Calls Tryz.prog 134 #[.slice a n c, .slice sa 1 1] W fun e w' => ∃ (a1 : Option Addr) (c1 n1 : Nat), e = .returned (.slice a1 n1 c1) ∧ n1 = (xs.filter (inSt [3])).length ∧ GOwn encT 62 w' W.heap.size (.slice a1 n1 c1) (xs.filter (inSt [3])) ∧ Below W.heap.size W w') := fun W sa h1 h2 => inSt49 xs a c n HX.out hn [3] sa 1 (by simp) W (HP.out.below h1) h2
 have CL : Hid (∀ (W : World) (ca ya : Option Addr) (yc n1 : Nat), Below w.heap.size w W → GRow encF W ca [133] → n1 = (xs.filter (inSt [3])).length → GRow encT W ya (xs.filter (inSt [3])) → Calls Tryz.prog 132 #[.agg #[.int .i64 t.id, .int .i64 t.st, .int .i64 t.snap, .int .i64 t.cs, .slice ra t.rs.length rc, .slice wa t.ws.length wc, .bool t.out, .string t.nm], .slice ca 1 1, .slice ya n1 yc] W fun e w' => e = .returned (.bool (outB t (txs xs))) ∧ Below W.heap.size W w') := fun W ca ya yc n1 h1 h2 h3 h4 => by
  have h := lead_of 133 ahB ask50 [] [] (xs.filter (inSt [3])) ya yc n1 h3 (by rw [h3]; exact Nat.le_trans (List.length_filter_le _ _) (by rw [← HX.out]; omega)) (lfit_filter (fun x => inS [3] x.st) FX.out) (lead_nil _ ya yc n1) t ra wa rc wc ca 1 1 W rfl (Nat.le_refl _) FT.out (HT.out.below h1) ⟨h4, fun x hx => ((HP.out.each x (List.mem_filter.1 hx).1).below h1)⟩ h2
  rw [lead1] at h
  have e : (txs (xs.filter (inSt [3]))).any (ahB t) = outB t (txs xs) := by rw [show txs (xs.filter (inSt [3])) = (txs xs).filter (fun u : Tx => inS [3] u.st) from txs_filter (fun u : Tx => inS [3] u.st) xs]; simp only [outB, List.any_filter]; congr 1; funext x; simp [outQ, doneB, inS]
  rw [e] at h
  exact h
 clear ht hp ft fx hx
 go_enter Tryz.func95, Tryz.ntmps95
 go_wp2
 refine wp_region_held_drew (S := fun w' => w'.cell? ⟨w.heap.size, 0, none⟩ = some (.int .i64 t.id) ∧ w'.cell? ⟨w.heap.size, 1, none⟩ = some (.int .i64 t.st) ∧ w'.cell? ⟨w.heap.size, 2, none⟩ = some (.int .i64 t.snap) ∧ w'.cell? ⟨w.heap.size, 3, none⟩ = some (.int .i64 t.cs) ∧ w'.cell? ⟨w.heap.size, 4, none⟩ = some (.slice ra t.rs.length rc) ∧ w'.cell? ⟨w.heap.size, 5, none⟩ = some (.slice wa t.ws.length wc) ∧ w'.cell? ⟨w.heap.size, 6, none⟩ = some (.bool t.out) ∧ w'.cell? ⟨w.heap.size, 7, none⟩ = some (.string t.nm)) (by kernel_rfl) ⟨BT1.out.c0, BT1.out.c1, BT1.out.c2, BT1.out.c3, BT1.out.c4, BT1.out.c5, BT1.out.c6, BT1.out.c7⟩ (fun hHeld => ?_)
 (refine ti 0 ?_; simp only [Act.put, tA, tB, tD, tE, tF])
 (refine ti 2 ?_; simp only [Act.put, tA, tB, tC, tD, tE, tF])
 refine wpAnyH_ready (rs := [1, 3]) (by kernel_rfl) (by simp) ?_
 refine (AllReadyH.cons rfl (fun K hK => ?_) (AllReadyH.cons rfl (fun K hK => ?_) AllReadyH.nil))
 ·go_simp
  have HBf : Hid (Below w.heap.size w ((w.alloc (.cells #[.int .i64 t.id, .int .i64 t.st, .int .i64 t.snap, .int .i64 t.cs, .slice ra t.rs.length rc, .slice wa t.ws.length wc, .bool t.out, .string t.nm] 62)).alloc (.cells #[.func (.func 133) #[] #[]] 221))) := ((belowRefl w).alloc (Nat.le_refl _) _).alloc (by simp) _
  have BTf : Hid (Bx ((w.alloc (.cells #[.int .i64 t.id, .int .i64 t.st, .int .i64 t.snap, .int .i64 t.cs, .slice ra t.rs.length rc, .slice wa t.ws.length wc, .bool t.out, .string t.nm] 62)).alloc (.cells #[.func (.func 133) #[] #[]] 221)) w.heap.size [.int .i64 t.id, .int .i64 t.st, .int .i64 t.snap, .int .i64 t.cs, .slice ra t.rs.length rc, .slice wa t.ws.length wc, .bool t.out, .string t.nm]) := ((Bx.new w [.int .i64 t.id, .int .i64 t.st, .int .i64 t.snap, .int .i64 t.cs, .slice ra t.rs.length rc, .slice wa t.ws.length wc, .bool t.out, .string t.nm] 62).alloc _)
  refine hK.out _ _ ⟨BTf.out.c0, BTf.out.c1, BTf.out.c2, BTf.out.c3, BTf.out.c4, BTf.out.c5, BTf.out.c6, BTf.out.c7⟩ (fun hHeldf => ?_)
  clear hK K
  refine wpAnyH_ready (rs := [3]) (by kernel_rfl) (by simp) ?_
  refine (AllReadyH.cons rfl (fun K hK => ?_) AllReadyH.nil)
  go_simp
  have HBfi : Hid (Below w.heap.size w (((w.alloc (.cells #[.int .i64 t.id, .int .i64 t.st, .int .i64 t.snap, .int .i64 t.cs, .slice ra t.rs.length rc, .slice wa t.ws.length wc, .bool t.out, .string t.nm] 62)).alloc (.cells #[.func (.func 133) #[] #[]] 221)).alloc (.cells #[.int .i64 3] 3))) := (((belowRefl w).alloc (Nat.le_refl _) _).alloc (by simp) _).alloc (by simp; omega) _
  have BTfi : Hid (Bx (((w.alloc (.cells #[.int .i64 t.id, .int .i64 t.st, .int .i64 t.snap, .int .i64 t.cs, .slice ra t.rs.length rc, .slice wa t.ws.length wc, .bool t.out, .string t.nm] 62)).alloc (.cells #[.func (.func 133) #[] #[]] 221)).alloc (.cells #[.int .i64 3] 3)) w.heap.size [.int .i64 t.id, .int .i64 t.st, .int .i64 t.snap, .int .i64 t.cs, .slice ra t.rs.length rc, .slice wa t.ws.length wc, .bool t.out, .string t.nm]) := ((Bx.new w [.int .i64 t.id, .int .i64 t.st, .int .i64 t.snap, .int .i64 t.cs, .slice ra t.rs.length rc, .slice wa t.ws.length wc, .bool t.out, .string t.nm] 62).alloc _).alloc _
  refine hK.out _ _ ⟨BTfi.out.c0, BTfi.out.c1, BTfi.out.c2, BTfi.out.c3, BTfi.out.c4, BTfi.out.c5, BTfi.out.c6, BTfi.out.c7⟩ (fun hHeldfi => ?_)
  clear hK K
  have RF : Hid (GRow encF (((w.alloc (.cells #[.int .i64 t.id, .int .i64 t.st, .int .i64 t.snap, .int .i64 t.cs, .slice ra t.rs.length rc, .slice wa t.ws.length wc, .bool t.out, .string t.nm] 62)).alloc (.cells #[.func (.func 133) #[] #[]] 221)).alloc (.cells #[.int .i64 3] 3)) (some ⟨w.heap.size + 1, 0, none⟩) [133]) := by have h := (rowF1 (w.alloc (.cells #[.int .i64 t.id, .int .i64 t.st, .int .i64 t.snap, .int .i64 t.cs, .slice ra t.rs.length rc, .slice wa t.ws.length wc, .bool t.out, .string t.nm] 62)) 133).below ((belowRefl _).alloc (Nat.le_refl _) (.cells #[.int .i64 3] 3)); simpa [Hid] using h
  have RI : Hid (GRow encI (((w.alloc (.cells #[.int .i64 t.id, .int .i64 t.st, .int .i64 t.snap, .int .i64 t.cs, .slice ra t.rs.length rc, .slice wa t.ws.length wc, .bool t.out, .string t.nm] 62)).alloc (.cells #[.func (.func 133) #[] #[]] 221)).alloc (.cells #[.int .i64 3] 3)) (some ⟨w.heap.size + 1 + 1, 0, none⟩) [3]) := by have h := rowI1 ((w.alloc (.cells #[.int .i64 t.id, .int .i64 t.st, .int .i64 t.snap, .int .i64 t.cs, .slice ra t.rs.length rc, .slice wa t.ws.length wc, .bool t.out, .string t.nm] 62)).alloc (.cells #[.func (.func 133) #[] #[]] 221)) 3; simpa [Hid] using h
  refine wpAnyH_ready (rs := [4]) (by kernel_rfl) (by simp) ?_
  refine (AllReadyH.cons rfl (fun K hK => ?_) AllReadyH.nil)
  go_simp
  go_wp2_with fail
  refine (CI.out _ (some ⟨w.heap.size + 1 + 1, 0, none⟩) HBfi.out.drew RI.out.drew).mono ?_
  rintro e w2 ⟨a1, c1, n1, rfl, hn1, ho, hb2⟩
  have hbu := undrew hb2
  have HB9 : Hid (Below w.heap.size w w2) := HBfi.out.trans (hbu.mono HBfi.out.size)
  have BT9 : Hid (Bx w2 w.heap.size [.int .i64 t.id, .int .i64 t.st, .int .i64 t.snap, .int .i64 t.cs, .slice ra t.rs.length rc, .slice wa t.ws.length wc, .bool t.out, .string t.nm]) := BTfi.out.below hbu
  have HN1 : Hid (n1 = (xs.filter (inSt [3])).length) := hn1
  have RO : Hid (GRow encT w2 a1 (xs.filter (inSt [3]))) := by subst hn1; exact ho.grow
  clear ho hn1
  have RF9 : Hid (GRow encF w2 (some ⟨w.heap.size + 1, 0, none⟩) [133]) := RF.out.below hbu
  go_wp2_with fail
  refine hK.out _ _ ⟨BT9.out.c0, BT9.out.c1, BT9.out.c2, BT9.out.c3, BT9.out.c4, BT9.out.c5, BT9.out.c6, BT9.out.c7⟩ (fun hHeld9 => ?_)
  clear hK K hb2 hbu
  refine wpAnyH_ready (rs := [5]) (by kernel_rfl) (by simp) ?_
  refine (AllReadyH.cons rfl (fun K hK => ?_) AllReadyH.nil)
  go_simp
  go_wp2_with fail
  refine (CL.out _ (some ⟨w.heap.size + 1, 0, none⟩) a1 c1 n1 HB9.out RF9.out HN1.out RO.out).mono ?_
  rintro e w3 ⟨rfl, hb3⟩
  have HB10 : Hid (Below w.heap.size w w3) := (HB9.out).trans (hb3.mono (HB9.out).size)
  have BT10 : Hid (Bx w3 w.heap.size [.int .i64 t.id, .int .i64 t.st, .int .i64 t.snap, .int .i64 t.cs, .slice ra t.rs.length rc, .slice wa t.ws.length wc, .bool t.out, .string t.nm]) := (BT9.out).below hb3
  go_wp2_with fail
  refine hK.out _ _ ⟨BT10.out.c0, BT10.out.c1, BT10.out.c2, BT10.out.c3, BT10.out.c4, BT10.out.c5, BT10.out.c6, BT10.out.c7⟩ (fun hHeld10 => ?_)
  clear hK K hb3
  (refine ti 6 ?_; simp only [Act.put, tA, tB, tC, tD, tE, tF])
  refine wpAnyH_done (by kernel_rfl) ?_ _
  go_wp2
  go_ret
  exact ⟨rfl, HB10.out⟩
 ·go_simp
  have HBi : Hid (Below w.heap.size w ((w.alloc (.cells #[.int .i64 t.id, .int .i64 t.st, .int .i64 t.snap, .int .i64 t.cs, .slice ra t.rs.length rc, .slice wa t.ws.length wc, .bool t.out, .string t.nm] 62)).alloc (.cells #[.int .i64 3] 3))) := ((belowRefl w).alloc (Nat.le_refl _) _).alloc (by simp) _
  have BTi : Hid (Bx ((w.alloc (.cells #[.int .i64 t.id, .int .i64 t.st, .int .i64 t.snap, .int .i64 t.cs, .slice ra t.rs.length rc, .slice wa t.ws.length wc, .bool t.out, .string t.nm] 62)).alloc (.cells #[.int .i64 3] 3)) w.heap.size [.int .i64 t.id, .int .i64 t.st, .int .i64 t.snap, .int .i64 t.cs, .slice ra t.rs.length rc, .slice wa t.ws.length wc, .bool t.out, .string t.nm]) := ((Bx.new w [.int .i64 t.id, .int .i64 t.st, .int .i64 t.snap, .int .i64 t.cs, .slice ra t.rs.length rc, .slice wa t.ws.length wc, .bool t.out, .string t.nm] 62).alloc _)
  refine hK.out _ _ ⟨BTi.out.c0, BTi.out.c1, BTi.out.c2, BTi.out.c3, BTi.out.c4, BTi.out.c5, BTi.out.c6, BTi.out.c7⟩ (fun hHeldi => ?_)
  clear hK K
  refine wpAnyH_ready (rs := [1, 4]) (by kernel_rfl) (by simp) ?_
  refine (AllReadyH.cons rfl (fun K hK => ?_) (AllReadyH.cons rfl (fun K hK => ?_) AllReadyH.nil))
  ·go_simp
   have HBif : Hid (Below w.heap.size w (((w.alloc (.cells #[.int .i64 t.id, .int .i64 t.st, .int .i64 t.snap, .int .i64 t.cs, .slice ra t.rs.length rc, .slice wa t.ws.length wc, .bool t.out, .string t.nm] 62)).alloc (.cells #[.int .i64 3] 3)).alloc (.cells #[.func (.func 133) #[] #[]] 221))) := (((belowRefl w).alloc (Nat.le_refl _) _).alloc (by simp) _).alloc (by simp; omega) _
   have BTif : Hid (Bx (((w.alloc (.cells #[.int .i64 t.id, .int .i64 t.st, .int .i64 t.snap, .int .i64 t.cs, .slice ra t.rs.length rc, .slice wa t.ws.length wc, .bool t.out, .string t.nm] 62)).alloc (.cells #[.int .i64 3] 3)).alloc (.cells #[.func (.func 133) #[] #[]] 221)) w.heap.size [.int .i64 t.id, .int .i64 t.st, .int .i64 t.snap, .int .i64 t.cs, .slice ra t.rs.length rc, .slice wa t.ws.length wc, .bool t.out, .string t.nm]) := ((Bx.new w [.int .i64 t.id, .int .i64 t.st, .int .i64 t.snap, .int .i64 t.cs, .slice ra t.rs.length rc, .slice wa t.ws.length wc, .bool t.out, .string t.nm] 62).alloc _).alloc _
   refine hK.out _ _ ⟨BTif.out.c0, BTif.out.c1, BTif.out.c2, BTif.out.c3, BTif.out.c4, BTif.out.c5, BTif.out.c6, BTif.out.c7⟩ (fun hHeldif => ?_)
   clear hK K
   have RI : Hid (GRow encI (((w.alloc (.cells #[.int .i64 t.id, .int .i64 t.st, .int .i64 t.snap, .int .i64 t.cs, .slice ra t.rs.length rc, .slice wa t.ws.length wc, .bool t.out, .string t.nm] 62)).alloc (.cells #[.int .i64 3] 3)).alloc (.cells #[.func (.func 133) #[] #[]] 221)) (some ⟨w.heap.size + 1, 0, none⟩) [3]) := by have h := (rowI1 (w.alloc (.cells #[.int .i64 t.id, .int .i64 t.st, .int .i64 t.snap, .int .i64 t.cs, .slice ra t.rs.length rc, .slice wa t.ws.length wc, .bool t.out, .string t.nm] 62)) 3).below ((belowRefl _).alloc (Nat.le_refl _) (.cells #[.func (.func 133) #[] #[]] 221)); simpa [Hid] using h
   have RF : Hid (GRow encF (((w.alloc (.cells #[.int .i64 t.id, .int .i64 t.st, .int .i64 t.snap, .int .i64 t.cs, .slice ra t.rs.length rc, .slice wa t.ws.length wc, .bool t.out, .string t.nm] 62)).alloc (.cells #[.int .i64 3] 3)).alloc (.cells #[.func (.func 133) #[] #[]] 221)) (some ⟨w.heap.size + 1 + 1, 0, none⟩) [133]) := by have h := rowF1 ((w.alloc (.cells #[.int .i64 t.id, .int .i64 t.st, .int .i64 t.snap, .int .i64 t.cs, .slice ra t.rs.length rc, .slice wa t.ws.length wc, .bool t.out, .string t.nm] 62)).alloc (.cells #[.int .i64 3] 3)) 133; simpa [Hid] using h
   refine wpAnyH_ready (rs := [4]) (by kernel_rfl) (by simp) ?_
   refine (AllReadyH.cons rfl (fun K hK => ?_) AllReadyH.nil)
   go_simp
   go_wp2_with fail
   refine (CI.out _ (some ⟨w.heap.size + 1, 0, none⟩) HBif.out.drew RI.out.drew).mono ?_
   rintro e w2 ⟨a1, c1, n1, rfl, hn1, ho, hb2⟩
   have hbu := undrew hb2
   have HB9 : Hid (Below w.heap.size w w2) := HBif.out.trans (hbu.mono HBif.out.size)
   have BT9 : Hid (Bx w2 w.heap.size [.int .i64 t.id, .int .i64 t.st, .int .i64 t.snap, .int .i64 t.cs, .slice ra t.rs.length rc, .slice wa t.ws.length wc, .bool t.out, .string t.nm]) := BTif.out.below hbu
   have HN1 : Hid (n1 = (xs.filter (inSt [3])).length) := hn1
   have RO : Hid (GRow encT w2 a1 (xs.filter (inSt [3]))) := by subst hn1; exact ho.grow
   clear ho hn1
   have RF9 : Hid (GRow encF w2 (some ⟨w.heap.size + 1 + 1, 0, none⟩) [133]) := RF.out.below hbu
   go_wp2_with fail
   refine hK.out _ _ ⟨BT9.out.c0, BT9.out.c1, BT9.out.c2, BT9.out.c3, BT9.out.c4, BT9.out.c5, BT9.out.c6, BT9.out.c7⟩ (fun hHeld9 => ?_)
   clear hK K hb2 hbu
   refine wpAnyH_ready (rs := [5]) (by kernel_rfl) (by simp) ?_
   refine (AllReadyH.cons rfl (fun K hK => ?_) AllReadyH.nil)
   go_simp
   go_wp2_with fail
   refine (CL.out _ (some ⟨w.heap.size + 1 + 1, 0, none⟩) a1 c1 n1 HB9.out RF9.out HN1.out RO.out).mono ?_
   rintro e w3 ⟨rfl, hb3⟩
   have HB10 : Hid (Below w.heap.size w w3) := (HB9.out).trans (hb3.mono (HB9.out).size)
   have BT10 : Hid (Bx w3 w.heap.size [.int .i64 t.id, .int .i64 t.st, .int .i64 t.snap, .int .i64 t.cs, .slice ra t.rs.length rc, .slice wa t.ws.length wc, .bool t.out, .string t.nm]) := (BT9.out).below hb3
   go_wp2_with fail
   refine hK.out _ _ ⟨BT10.out.c0, BT10.out.c1, BT10.out.c2, BT10.out.c3, BT10.out.c4, BT10.out.c5, BT10.out.c6, BT10.out.c7⟩ (fun hHeld10 => ?_)
   clear hK K hb3
   (refine ti 6 ?_; simp only [Act.put, tA, tB, tC, tD, tE, tF])
   refine wpAnyH_done (by kernel_rfl) ?_ _
   go_wp2
   go_ret
   exact ⟨rfl, HB10.out⟩
  ·have RI : Hid (GRow encI ((w.alloc (.cells #[.int .i64 t.id, .int .i64 t.st, .int .i64 t.snap, .int .i64 t.cs, .slice ra t.rs.length rc, .slice wa t.ws.length wc, .bool t.out, .string t.nm] 62)).alloc (.cells #[.int .i64 3] 3)) (some ⟨w.heap.size + 1, 0, none⟩) [3]) := by have h := rowI1 (w.alloc (.cells #[.int .i64 t.id, .int .i64 t.st, .int .i64 t.snap, .int .i64 t.cs, .slice ra t.rs.length rc, .slice wa t.ws.length wc, .bool t.out, .string t.nm] 62)) 3; simpa [Hid] using h
   go_simp
   go_wp2_with fail
   refine (CI.out _ (some ⟨w.heap.size + 1, 0, none⟩) HBi.out.drew RI.out.drew).mono ?_
   rintro e w2 ⟨a1, c1, n1, rfl, hn1, ho, hb2⟩
   have hbu := undrew hb2
   have HB9 : Hid (Below w.heap.size w w2) := HBi.out.trans (hbu.mono HBi.out.size)
   have BT9 : Hid (Bx w2 w.heap.size [.int .i64 t.id, .int .i64 t.st, .int .i64 t.snap, .int .i64 t.cs, .slice ra t.rs.length rc, .slice wa t.ws.length wc, .bool t.out, .string t.nm]) := BTi.out.below hbu
   have HN1 : Hid (n1 = (xs.filter (inSt [3])).length) := hn1
   have RO : Hid (GRow encT w2 a1 (xs.filter (inSt [3]))) := by subst hn1; exact ho.grow
   clear ho hn1
   go_wp2_with fail
   refine hK.out _ _ ⟨BT9.out.c0, BT9.out.c1, BT9.out.c2, BT9.out.c3, BT9.out.c4, BT9.out.c5, BT9.out.c6, BT9.out.c7⟩ (fun hHeld9 => ?_)
   clear hK K hb2 hbu
   refine wpAnyH_ready (rs := [1]) (by kernel_rfl) (by simp) ?_
   refine (AllReadyH.cons rfl (fun K hK => ?_) AllReadyH.nil)
   go_simp
   have hba : Below w2.heap.size w2 (w2.alloc (.cells #[.func (.func 133) #[] #[]] 221)) := (belowRefl w2).alloc (Nat.le_refl _) _
   have HBl : Hid (Below w.heap.size w (w2.alloc (.cells #[.func (.func 133) #[] #[]] 221))) := HB9.out.trans (hba.mono HB9.out.size)
   have BTl : Hid (Bx (w2.alloc (.cells #[.func (.func 133) #[] #[]] 221)) w.heap.size [.int .i64 t.id, .int .i64 t.st, .int .i64 t.snap, .int .i64 t.cs, .slice ra t.rs.length rc, .slice wa t.ws.length wc, .bool t.out, .string t.nm]) := BT9.out.below hba
   have ROl : Hid (GRow encT (w2.alloc (.cells #[.func (.func 133) #[] #[]] 221)) a1 (xs.filter (inSt [3]))) := RO.out.below hba
   refine hK.out _ _ ⟨BTl.out.c0, BTl.out.c1, BTl.out.c2, BTl.out.c3, BTl.out.c4, BTl.out.c5, BTl.out.c6, BTl.out.c7⟩ (fun hHeldl => ?_)
   clear hK K hba
   refine wpAnyH_ready (rs := [5]) (by kernel_rfl) (by simp) ?_
   refine (AllReadyH.cons rfl (fun K hK => ?_) AllReadyH.nil)
   go_simp
   go_wp2_with fail
   refine (CL.out _ (some ⟨w2.heap.size, 0, none⟩) a1 c1 n1 HBl.out (rowF1 w2 133) HN1.out ROl.out).mono ?_
   rintro e w3 ⟨rfl, hb3⟩
   have HB10 : Hid (Below w.heap.size w w3) := (HBl.out).trans (hb3.mono (HBl.out).size)
   have BT10 : Hid (Bx w3 w.heap.size [.int .i64 t.id, .int .i64 t.st, .int .i64 t.snap, .int .i64 t.cs, .slice ra t.rs.length rc, .slice wa t.ws.length wc, .bool t.out, .string t.nm]) := (BTl.out).below hb3
   go_wp2_with fail
   refine hK.out _ _ ⟨BT10.out.c0, BT10.out.c1, BT10.out.c2, BT10.out.c3, BT10.out.c4, BT10.out.c5, BT10.out.c6, BT10.out.c7⟩ (fun hHeld10 => ?_)
   clear hK K hb3
   (refine ti 6 ?_; simp only [Act.put, tA, tB, tC, tD, tE, tF])
   refine wpAnyH_done (by kernel_rfl) ?_ _
   go_wp2
   go_ret
   exact ⟨rfl, HB10.out⟩

end Go.Proofs.YtmijppfppigjcaaGreat

namespace Go.Proofs.YtmijppfppigjcaaGreat
open Go.RowKit
open KM
open VM
attribute [local go_sem ↓] Go.wp_at_zero Go.wp_at_succ

theorem Ea.mk {w : World} {lo hi : Nat} {ys : List Ta} (d : Tx) (h : Ea w lo hi ys) : Ea w lo hi (ys.map (mkA d)) := fun y hy => by
 obtain ⟨z, hz, rfl⟩ := List.mem_map.1 hy
 obtain ⟨p, q, h1, h2, h3⟩ := h z hz
 exact ⟨p, q, h1, h2, ⟨h3.ex⟩⟩
theorem TLie.as {w : World} {lo hi : Nat} {t u : Tx} {ra wa : Option Addr} {rc wc : Nat} (h : TLie w lo hi t ra rc wa wc) (hr : u.rs = t.rs) (hw : u.ws = t.ws) : TLie w lo hi u ra rc wa wc := by
 obtain ⟨m, h1, h2, h3, h4⟩ := h.ex
 exact ⟨m, h1, h2, by rw [hr]; exact h3, by rw [hw]; exact h4⟩
theorem Lo.zn {w w' : World} {lo hi l h : Nat} {v : Value} {ys : List Ta} (k : Lo w lo hi v ys) (hz : Zn l h w w') (hne : hi ≤ l ∨ h ≤ lo) : Lo w' lo hi v ys :=
 ⟨k.own.zn hz hne, fun y hy => by
  obtain ⟨p, q, h1, h2, h3⟩ := k.ea y hy
  exact ⟨p, q, h1, h2, h3.zn hz (by
   obtain ⟨m, g1, g2, _, _⟩ := h3.ex
   omega)⟩⟩
theorem Ea.zn {w w' : World} {lo hi l h : Nat} {ys : List Ta} (k : Ea w lo hi ys) (hz : Zn l h w w') (hne : hi ≤ l ∨ h ≤ lo) : Ea w' lo hi ys := fun y hy => by
  obtain ⟨p, q, h1, h2, h3⟩ := k y hy
  exact ⟨p, q, h1, h2, h3.zn hz (by
   obtain ⟨m, g1, g2, _, _⟩ := h3.ex
   omega)⟩
theorem fit_done {t : Tx} {cs : Int} (h : TFit t) : TFit (doneT t cs) := ⟨h.1, h.2.1, h.2.2.1, h.2.2.2.1, by show (⟨#[]⟩ : ByteArray).size ≤ _; decide⟩

end Go.Proofs.YtmijppfppigjcaaGreat

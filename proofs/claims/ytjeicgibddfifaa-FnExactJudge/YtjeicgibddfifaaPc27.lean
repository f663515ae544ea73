/- Who is ahead of whom: the specification of Danger. -/
import Derived.Test.YtjeicgibddfifaaPc17
import Derived.Deep.CutRange
import Derived.Deep.RegionHeld3
namespace Go.Proofs.Ytjeicgibddfifaa
open Go.RowKit
open KM
attribute [local go_sem ↓] Go.wp_at_zero Go.wp_at_succ

def qQ (t p q : Tx) : Bool := readyB q && decide (q.id ≠ t.id) && ahB q p
def dQ (t : Tx) (l : List Tx) (p : Tx) : Bool := ((readyB p || doneB p) && p.out && ahB t p) || (readyB p && ahB p t && (ahB t p || l.any (qQ t p)))
def dangerB (t : Tx) (l : List Tx) : Bool := (intoB t l && outB t l) || l.any (dQ t l)

set_option maxRecDepth 100000 in
set_option maxHeartbeats 8000000 in
theorem sdanger (t : Tx) (ra wa : Option Addr) (rc wk : Nat) (xs : List Ta) (a : Option Addr) (c n : Nat) (hx : n = xs.length) (hn : n ≤ 10000000) (ft : TFit t) (fx : LFw (txs xs)) (w : World) (ht : TRow w t ra wa) (hp : TRows w a xs) :
  Calls Try.prog 33 #[.agg #[.int .i64 t.id, .int .i64 t.st, .int .i64 t.snap, .int .i64 t.cs, .slice ra t.rs.length rc, .slice wa t.ws.length wk, .bool t.out, .string t.nm], .slice a n c] w fun e w' => e = .returned (.bool (dangerB t (txs xs))) ∧ Below w.heap.size w w' := by
 have HT : Hid (TRow (w.alloc (.cells #[.int .i64 t.id, .int .i64 t.st, .int .i64 t.snap, .int .i64 t.cs, .slice ra t.rs.length rc, .slice wa t.ws.length wk, .bool t.out, .string t.nm] 51)) t ra wa) := ht.below ((belowRefl w).alloc (Nat.le_refl _) _)
 have HP : Hid (TRows (w.alloc (.cells #[.int .i64 t.id, .int .i64 t.st, .int .i64 t.snap, .int .i64 t.cs, .slice ra t.rs.length rc, .slice wa t.ws.length wk, .bool t.out, .string t.nm] 51)) a xs) := hp.below ((belowRefl w).alloc (Nat.le_refl _) _)
 have FT : Hid (TFit t) := ft
 have FX : Hid (LFw (txs xs)) := fx
 have HX : Hid (n = xs.length) := hx
 have HB0 : Hid (Below w.heap.size w (w.alloc (.cells #[.int .i64 t.id, .int .i64 t.st, .int .i64 t.snap, .int .i64 t.cs, .slice ra t.rs.length rc, .slice wa t.ws.length wk, .bool t.out, .string t.nm] 51))) := (belowRefl w).alloc (Nat.le_refl _) _
 have BT0 : Hid (Bx (w.alloc (.cells #[.int .i64 t.id, .int .i64 t.st, .int .i64 t.snap, .int .i64 t.cs, .slice ra t.rs.length rc, .slice wa t.ws.length wk, .bool t.out, .string t.nm] 51)) w.heap.size [.int .i64 t.id, .int .i64 t.st, .int .i64 t.snap, .int .i64 t.cs, .slice ra t.rs.length rc, .slice wa t.ws.length wk, .bool t.out, .string t.nm]) := Bx.new w [.int .i64 t.id, .int .i64 t.st, .int .i64 t.snap, .int .i64 t.cs, .slice ra t.rs.length rc, .slice wa t.ws.length wk, .bool t.out, .string t.nm] 51
 have CI : Hid (∀ W : World, Below (w.alloc (.cells #[.int .i64 t.id, .int .i64 t.st, .int .i64 t.snap, .int .i64 t.cs, .slice ra t.rs.length rc, .slice wa t.ws.length wk, .bool t.out, .string t.nm] 51)).heap.size (w.alloc (.cells #[.int .i64 t.id, .int .i64 t.st, .int .i64 t.snap, .int .i64 t.cs, .slice ra t.rs.length rc, .slice wa t.ws.length wk, .bool t.out, .string t.nm] 51)) W → _) := fun W h => sinof t ra wa rc wk xs a c n HX.out (by omega) FT.out FX.out W (HT.out.below h) (HP.out.below h)
 have CO : Hid (∀ W : World, Below (w.alloc (.cells #[.int .i64 t.id, .int .i64 t.st, .int .i64 t.snap, .int .i64 t.cs, .slice ra t.rs.length rc, .slice wa t.ws.length wk, .bool t.out, .string t.nm] 51)).heap.size (w.alloc (.cells #[.int .i64 t.id, .int .i64 t.st, .int .i64 t.snap, .int .i64 t.cs, .slice ra t.rs.length rc, .slice wa t.ws.length wk, .bool t.out, .string t.nm] 51)) W → _) := fun W h => soutof t ra wa rc wk xs a c n HX.out (by omega) FT.out FX.out W (HT.out.below h) (HP.out.below h)
 clear ht hp ft fx hx
 go_enter Try.func33, Try.ntmps33
 go_upto_region 1 with fail
 go_cut [16] from 9 to 17 (fun cc wx => cc = .bool (intoB t (txs xs) && outB t (txs xs)) ∧ Hid (Below (w.alloc (.cells #[.int .i64 t.id, .int .i64 t.st, .int .i64 t.snap, .int .i64 t.cs, .slice ra t.rs.length rc, .slice wa t.ws.length wk, .bool t.out, .string t.nm] 51)).heap.size (w.alloc (.cells #[.int .i64 t.id, .int .i64 t.st, .int .i64 t.snap, .int .i64 t.cs, .slice ra t.rs.length rc, .slice wa t.ws.length wk, .bool t.out, .string t.nm] 51)) wx))
 case first =>
  have y0 := BT0.out.c0
  have y1 := BT0.out.c1
  have y2 := BT0.out.c2
  have y3 := BT0.out.c3
  have y4 := BT0.out.c4
  have y5 := BT0.out.c5
  have y6 := BT0.out.c6
  have y7 := BT0.out.c7
  cases hi : intoB t (txs xs)
  ·rw [hi] at CI
   go_wp2_with fail
   refine (CI.out _ (belowRefl _)).mono ?_
   rintro e w1 ⟨rfl, hb1⟩
   go_wp2
   go_meet
   exact ⟨by rw [hi]; rfl, hb1⟩
  ·rw [hi] at CI
   go_wp2_with fail
   refine (CI.out _ (belowRefl _)).mono ?_
   rintro e w1 ⟨rfl, hb1⟩
   have BT1 := BT0.out.below hb1
   clear y0 y1 y2 y3 y4 y5 y6 y7
   have y0 := BT1.c0
   have y1 := BT1.c1
   have y2 := BT1.c2
   have y3 := BT1.c3
   have y4 := BT1.c4
   have y5 := BT1.c5
   have y6 := BT1.c6
   have y7 := BT1.c7
   go_wp2_with fail
   refine (CO.out _ hb1).mono ?_
   rintro e w2 ⟨rfl, hb2⟩
   go_wp2
   go_meet
   exact ⟨by rw [hi]; rfl, hb1.trans (hb2.mono hb1.size)⟩
 case rest =>
 obtain ⟨rfl, HB⟩ := hcut
 cases hio : (intoB t (txs xs) && outB t (txs xs))
 ·have HIO : Hid ((intoB t (txs xs) && outB t (txs xs)) = false) := hio
  clear hio
  go_wp2
  go_loopw [5] (fun tk wr => ∃ k : Nat, k ≤ n ∧ tk = .int .i64 k ∧ Hid (NoneOf (dQ t (txs xs)) xs k) ∧ Hid (Below (w.alloc (.cells #[.int .i64 t.id, .int .i64 t.st, .int .i64 t.snap, .int .i64 t.cs, .slice ra t.rs.length rc, .slice wa t.ws.length wk, .bool t.out, .string t.nm] 51)).heap.size (w.alloc (.cells #[.int .i64 t.id, .int .i64 t.st, .int .i64 t.snap, .int .i64 t.cs, .slice ra t.rs.length rc, .slice wa t.ws.length wk, .bool t.out, .string t.nm] 51)) wr)) (fun tk _ => n - (intOf tk).toNat)
  case atStart => exact ⟨0, Nat.zero_le _, rfl, (fun j hj h => by omega), HB⟩
  case round =>
   clear HB
   obtain ⟨k, hk, rfl, HN, HB⟩ := hrel
   by_cases hlt : k < n
   ·have hlt' : (k : Int) < (n : Int) := by omega
    have h0 : (0 : Int) ≤ (k : Int) := by omega
    have hkx : k < xs.length := by rw [← HX.out]; exact hlt
    obtain ⟨b, o, rfl, hbl, hc, ht⟩ := (HP.out.below HB.out).cls k hkx
    have hfx : TFit xs[k].t := FX.out.2 _ (List.mem_map.2 ⟨_, List.getElem_mem hkx, rfl⟩)
    have HYes : Hid ((dQ t (txs xs)) xs[k].t = true → (dangerB t (txs xs)) = true) := fun h => by show dangerB t (txs xs) = true; unfold dangerB; rw [any_yes _ xs k hkx h, Bool.or_true]
    have HNo : Hid ((dQ t (txs xs)) xs[k].t = false → NoneOf (dQ t (txs xs)) xs (k + 1)) := fun h => none_more HN.out hkx h
    obtain ⟨x, hx⟩ : ∃ x, x = xs[k] := ⟨_, rfl⟩
    rw [← hx] at hc ht hfx HYes HNo
    have FXX : Hid (TFit x.t) := hfx
    have TT : Hid (TRow wr t ra wa) := HT.out.below HB.out
    have TP : Hid (TRow wr x.t x.ra x.wa) := ht
    have LL : Hid (TRows wr (some ⟨b, o, none⟩) xs) := HP.out.below HB.out
    have BT : Hid (Bx wr w.heap.size [.int .i64 t.id, .int .i64 t.st, .int .i64 t.snap, .int .i64 t.cs, .slice ra t.rs.length rc, .slice wa t.ws.length wk, .bool t.out, .string t.nm]) := BT0.out.below HB.out
    have r0 := hc.c0
    have r1 := hc.c1
    have r2 := hc.c2
    have r3 := hc.c3
    have r4 := hc.c4
    have r5 := hc.c5
    have r6 := hc.c6
    have r7 := hc.c7
    clear hx hkx ht hfx hc hbl
    go_upto_region 7 with fail
    clear r0 r1 r2 r3 r4 r5 r6 r7
    have hba : Below wr.heap.size wr (wr.alloc (.cells #[.int .i64 x.t.id, .int .i64 x.t.st, .int .i64 x.t.snap, .int .i64 x.t.cs, .slice x.ra x.t.rs.length x.rc, .slice x.wa x.t.ws.length x.wc, .bool x.t.out, .string x.t.nm] 51)) := (belowRefl wr).alloc (Nat.le_refl _) _
    replace HB : Hid (Below (w.alloc (.cells #[.int .i64 t.id, .int .i64 t.st, .int .i64 t.snap, .int .i64 t.cs, .slice ra t.rs.length rc, .slice wa t.ws.length wk, .bool t.out, .string t.nm] 51)).heap.size (w.alloc (.cells #[.int .i64 t.id, .int .i64 t.st, .int .i64 t.snap, .int .i64 t.cs, .slice ra t.rs.length rc, .slice wa t.ws.length wk, .bool t.out, .string t.nm] 51)) (wr.alloc (.cells #[.int .i64 x.t.id, .int .i64 x.t.st, .int .i64 x.t.snap, .int .i64 x.t.cs, .slice x.ra x.t.rs.length x.rc, .slice x.wa x.t.ws.length x.wc, .bool x.t.out, .string x.t.nm] 51))) := HB.out.trans (hba.mono HB.out.size)
    replace TT : Hid (TRow (wr.alloc (.cells #[.int .i64 x.t.id, .int .i64 x.t.st, .int .i64 x.t.snap, .int .i64 x.t.cs, .slice x.ra x.t.rs.length x.rc, .slice x.wa x.t.ws.length x.wc, .bool x.t.out, .string x.t.nm] 51)) t ra wa) := TT.out.below hba
    replace TP : Hid (TRow (wr.alloc (.cells #[.int .i64 x.t.id, .int .i64 x.t.st, .int .i64 x.t.snap, .int .i64 x.t.cs, .slice x.ra x.t.rs.length x.rc, .slice x.wa x.t.ws.length x.wc, .bool x.t.out, .string x.t.nm] 51)) x.t x.ra x.wa) := TP.out.below hba
    replace LL : Hid (TRows (wr.alloc (.cells #[.int .i64 x.t.id, .int .i64 x.t.st, .int .i64 x.t.snap, .int .i64 x.t.cs, .slice x.ra x.t.rs.length x.rc, .slice x.wa x.t.ws.length x.wc, .bool x.t.out, .string x.t.nm] 51)) (some ⟨b, o, none⟩) xs) := LL.out.below hba
    replace BT : Hid (Bx (wr.alloc (.cells #[.int .i64 x.t.id, .int .i64 x.t.st, .int .i64 x.t.snap, .int .i64 x.t.cs, .slice x.ra x.t.rs.length x.rc, .slice x.wa x.t.ws.length x.wc, .bool x.t.out, .string x.t.nm] 51)) w.heap.size [.int .i64 t.id, .int .i64 t.st, .int .i64 t.snap, .int .i64 t.cs, .slice ra t.rs.length rc, .slice wa t.ws.length wk, .bool t.out, .string t.nm]) := BT.out.below hba
    have BP : Hid (Bx (wr.alloc (.cells #[.int .i64 x.t.id, .int .i64 x.t.st, .int .i64 x.t.snap, .int .i64 x.t.cs, .slice x.ra x.t.rs.length x.rc, .slice x.wa x.t.ws.length x.wc, .bool x.t.out, .string x.t.nm] 51)) wr.heap.size [.int .i64 x.t.id, .int .i64 x.t.st, .int .i64 x.t.snap, .int .i64 x.t.cs, .slice x.ra x.t.rs.length x.rc, .slice x.wa x.t.ws.length x.wc, .bool x.t.out, .string x.t.nm]) := Bx.new wr [.int .i64 x.t.id, .int .i64 x.t.st, .int .i64 x.t.snap, .int .i64 x.t.cs, .slice x.ra x.t.rs.length x.rc, .slice x.wa x.t.ws.length x.wc, .bool x.t.out, .string x.t.nm] 51
    clear hba
    generalize (wr.alloc (.cells #[.int .i64 x.t.id, .int .i64 x.t.st, .int .i64 x.t.snap, .int .i64 x.t.cs, .slice x.ra x.t.rs.length x.rc, .slice x.wa x.t.ws.length x.wc, .bool x.t.out, .string x.t.nm] 51)) = v1 at *
    generalize wr.heap.size = bp at *
    have CTX : Hid (∀ W : World, TRow W t ra wa → TRow W x.t x.ra x.wa → _) := fun W h1 h2 => sahead t x.t ra wa rc wk x.ra x.wa x.rc x.wc (Nat.le_trans FT.out.1 (by omega)) (Nat.le_trans FXX.out.2.2.1 (by omega)) W h1.r h2.w
    have CXT : Hid (∀ W : World, TRow W x.t x.ra x.wa → TRow W t ra wa → _) := fun W h1 h2 => sahead x.t t x.ra x.wa x.rc x.wc ra wa rc wk (Nat.le_trans FXX.out.1 (by omega)) (Nat.le_trans FT.out.2.2.1 (by omega)) W h1.r h2.w
    have y0 := BT.out.c0
    have y1 := BT.out.c1
    have y2 := BT.out.c2
    have y3 := BT.out.c3
    have y4 := BT.out.c4
    have y5 := BT.out.c5
    have y6 := BT.out.c6
    have y7 := BT.out.c7
    have x0 := BP.out.c0
    have x1 := BP.out.c1
    have x2 := BP.out.c2
    have x3 := BP.out.c3
    have x4 := BP.out.c4
    have x5 := BP.out.c5
    have x6 := BP.out.c6
    have x7 := BP.out.c7
    by_cases k2 : x.t.st = 2
    ·have k2b : (x.t.st == 2) = true := by simp [k2]
     have hR2 : Hid (readyB x.t = true) := by show _ = _; simp [readyB, k2]
     clear k2
     cases ho : x.t.out
     ·have hA1o : Hid (x.t.out = false) := ho
      have hO : Hid (x.t.out = false) := ho
      rw [ho] at BP CTX CXT x6
      clear ho
      cases hA2 : ahB x.t t
      ·have HQ : Hid (dQ t (txs xs) x.t = false) := by show _ = _; unfold dQ; simp [hA2, hA1o.out]
       rw [hA2] at CXT
       clear hA2
       go_wp2_with fail
       refine (CXT.out _ TP.out TT.out).mono ?_
       rintro e v2 ⟨rfl, hb⟩
       clear y0 y1 y2 y3 y4 y5 y6 y7 x0 x1 x2 x3 x4 x5 x6 x7
       replace HB : Hid (Below (w.alloc (.cells #[.int .i64 t.id, .int .i64 t.st, .int .i64 t.snap, .int .i64 t.cs, .slice ra t.rs.length rc, .slice wa t.ws.length wk, .bool t.out, .string t.nm] 51)).heap.size (w.alloc (.cells #[.int .i64 t.id, .int .i64 t.st, .int .i64 t.snap, .int .i64 t.cs, .slice ra t.rs.length rc, .slice wa t.ws.length wk, .bool t.out, .string t.nm] 51)) v2) := HB.out.trans (hb.mono HB.out.size)
       replace TT : Hid (TRow v2 t ra wa) := TT.out.below hb
       replace TP : Hid (TRow v2 x.t x.ra x.wa) := TP.out.below hb
       replace LL : Hid (TRows v2 (some ⟨b, o, none⟩) xs) := LL.out.below hb
       replace BT : Hid (Bx v2 w.heap.size [.int .i64 t.id, .int .i64 t.st, .int .i64 t.snap, .int .i64 t.cs, .slice ra t.rs.length rc, .slice wa t.ws.length wk, .bool t.out, .string t.nm]) := BT.out.below hb
       replace BP : Hid (Bx v2 bp [.int .i64 x.t.id, .int .i64 x.t.st, .int .i64 x.t.snap, .int .i64 x.t.cs, .slice x.ra x.t.rs.length x.rc, .slice x.wa x.t.ws.length x.wc, .bool false, .string x.t.nm]) := BP.out.below hb
       clear hb
       have y0 := BT.out.c0
       have y1 := BT.out.c1
       have y2 := BT.out.c2
       have y3 := BT.out.c3
       have y4 := BT.out.c4
       have y5 := BT.out.c5
       have y6 := BT.out.c6
       have y7 := BT.out.c7
       have x0 := BP.out.c0
       have x1 := BP.out.c1
       have x2 := BP.out.c2
       have x3 := BP.out.c3
       have x4 := BP.out.c4
       have x5 := BP.out.c5
       have x6 := BP.out.c6
       have x7 := BP.out.c7
       go_wp2
       go_loopw [7] (fun tj wr2 => ∃ j : Nat, j ≤ n ∧ tj = .int .i64 j ∧ Hid (Below v2.heap.size v2 wr2)) (fun tj _ => n - (intOf tj).toNat)
       case atStart => exact ⟨0, Nat.zero_le _, rfl, belowRefl _⟩
       case round =>
        obtain ⟨j, hj, rfl, HBi⟩ := hrel
        have hbi := HBi.out
        obtain ⟨vz, hvz⟩ : ∃ z, z = wr := ⟨_, rfl⟩
        subst hvz
        clear y0 y1 y2 y3 y4 y5 y6 y7 x0 x1 x2 x3 x4 x5 x6 x7
        replace HB : Hid (Below (w.alloc (.cells #[.int .i64 t.id, .int .i64 t.st, .int .i64 t.snap, .int .i64 t.cs, .slice ra t.rs.length rc, .slice wa t.ws.length wk, .bool t.out, .string t.nm] 51)).heap.size (w.alloc (.cells #[.int .i64 t.id, .int .i64 t.st, .int .i64 t.snap, .int .i64 t.cs, .slice ra t.rs.length rc, .slice wa t.ws.length wk, .bool t.out, .string t.nm] 51)) vz) := HB.out.trans (hbi.mono HB.out.size)
        replace TT : Hid (TRow vz t ra wa) := TT.out.below hbi
        replace TP : Hid (TRow vz x.t x.ra x.wa) := TP.out.below hbi
        replace LL : Hid (TRows vz (some ⟨b, o, none⟩) xs) := LL.out.below hbi
        replace BT : Hid (Bx vz w.heap.size [.int .i64 t.id, .int .i64 t.st, .int .i64 t.snap, .int .i64 t.cs, .slice ra t.rs.length rc, .slice wa t.ws.length wk, .bool t.out, .string t.nm]) := BT.out.below hbi
        replace BP : Hid (Bx vz bp [.int .i64 x.t.id, .int .i64 x.t.st, .int .i64 x.t.snap, .int .i64 x.t.cs, .slice x.ra x.t.rs.length x.rc, .slice x.wa x.t.ws.length x.wc, .bool false, .string x.t.nm]) := BP.out.below hbi
        clear hbi HBi
        have y0 := BT.out.c0
        have y1 := BT.out.c1
        have y2 := BT.out.c2
        have y3 := BT.out.c3
        have y4 := BT.out.c4
        have y5 := BT.out.c5
        have y6 := BT.out.c6
        have y7 := BT.out.c7
        have x0 := BP.out.c0
        have x1 := BP.out.c1
        have x2 := BP.out.c2
        have x3 := BP.out.c3
        have x4 := BP.out.c4
        have x5 := BP.out.c5
        have x6 := BP.out.c6
        have x7 := BP.out.c7
        by_cases hjl : j < n
        ·have hjl' : (j : Int) < (n : Int) := by omega
         have hjd : decide (j < n) = true := decide_eq_true hjl
         go_wp2_with fail
         refine (CXT.out _ TP.out TT.out).mono ?_
         rintro e v3 ⟨rfl, hb⟩
         clear y0 y1 y2 y3 y4 y5 y6 y7 x0 x1 x2 x3 x4 x5 x6 x7
         replace HB : Hid (Below (w.alloc (.cells #[.int .i64 t.id, .int .i64 t.st, .int .i64 t.snap, .int .i64 t.cs, .slice ra t.rs.length rc, .slice wa t.ws.length wk, .bool t.out, .string t.nm] 51)).heap.size (w.alloc (.cells #[.int .i64 t.id, .int .i64 t.st, .int .i64 t.snap, .int .i64 t.cs, .slice ra t.rs.length rc, .slice wa t.ws.length wk, .bool t.out, .string t.nm] 51)) v3) := HB.out.trans (hb.mono HB.out.size)
         replace TT : Hid (TRow v3 t ra wa) := TT.out.below hb
         replace TP : Hid (TRow v3 x.t x.ra x.wa) := TP.out.below hb
         replace LL : Hid (TRows v3 (some ⟨b, o, none⟩) xs) := LL.out.below hb
         replace BT : Hid (Bx v3 w.heap.size [.int .i64 t.id, .int .i64 t.st, .int .i64 t.snap, .int .i64 t.cs, .slice ra t.rs.length rc, .slice wa t.ws.length wk, .bool t.out, .string t.nm]) := BT.out.below hb
         replace BP : Hid (Bx v3 bp [.int .i64 x.t.id, .int .i64 x.t.st, .int .i64 x.t.snap, .int .i64 x.t.cs, .slice x.ra x.t.rs.length x.rc, .slice x.wa x.t.ws.length x.wc, .bool false, .string x.t.nm]) := BP.out.below hb
         clear hb
         have y0 := BT.out.c0
         have y1 := BT.out.c1
         have y2 := BT.out.c2
         have y3 := BT.out.c3
         have y4 := BT.out.c4
         have y5 := BT.out.c5
         have y6 := BT.out.c6
         have y7 := BT.out.c7
         have x0 := BP.out.c0
         have x1 := BP.out.c1
         have x2 := BP.out.c2
         have x3 := BP.out.c3
         have x4 := BP.out.c4
         have x5 := BP.out.c5
         have x6 := BP.out.c6
         have x7 := BP.out.c7
         go_wp2
         go_roundw
         case rel => exact ⟨k + 1, by omega, by go_num, HNo.out HQ.out, HB⟩
         case measure => simp [intOf]; omega
        ·have hjl' : ¬ (j : Int) < (n : Int) := by omega
         have hjd : decide (j < n) = false := decide_eq_false hjl
         have hje : decide ((j : Int) < (n : Int)) = false := decide_eq_false hjl'
         go_wp2
         go_roundw
         case rel => exact ⟨k + 1, by omega, by go_num, HNo.out HQ.out, HB⟩
         case measure => simp [intOf]; omega
      ·have hA2t : Hid (ahB x.t t = true) := hA2
       rw [hA2] at CXT
       clear hA2
       cases hA1 : ahB t x.t
       ·have hA1r : Hid (ahB t x.t = false) := hA1
        rw [hA1] at CTX
        clear hA1
        go_wp2_with fail
        refine (CXT.out _ TP.out TT.out).mono ?_
        rintro e v2 ⟨rfl, hb⟩
        clear y0 y1 y2 y3 y4 y5 y6 y7 x0 x1 x2 x3 x4 x5 x6 x7
        replace HB : Hid (Below (w.alloc (.cells #[.int .i64 t.id, .int .i64 t.st, .int .i64 t.snap, .int .i64 t.cs, .slice ra t.rs.length rc, .slice wa t.ws.length wk, .bool t.out, .string t.nm] 51)).heap.size (w.alloc (.cells #[.int .i64 t.id, .int .i64 t.st, .int .i64 t.snap, .int .i64 t.cs, .slice ra t.rs.length rc, .slice wa t.ws.length wk, .bool t.out, .string t.nm] 51)) v2) := HB.out.trans (hb.mono HB.out.size)
        replace TT : Hid (TRow v2 t ra wa) := TT.out.below hb
        replace TP : Hid (TRow v2 x.t x.ra x.wa) := TP.out.below hb
        replace LL : Hid (TRows v2 (some ⟨b, o, none⟩) xs) := LL.out.below hb
        replace BT : Hid (Bx v2 w.heap.size [.int .i64 t.id, .int .i64 t.st, .int .i64 t.snap, .int .i64 t.cs, .slice ra t.rs.length rc, .slice wa t.ws.length wk, .bool t.out, .string t.nm]) := BT.out.below hb
        replace BP : Hid (Bx v2 bp [.int .i64 x.t.id, .int .i64 x.t.st, .int .i64 x.t.snap, .int .i64 x.t.cs, .slice x.ra x.t.rs.length x.rc, .slice x.wa x.t.ws.length x.wc, .bool false, .string x.t.nm]) := BP.out.below hb
        clear hb
        have y0 := BT.out.c0
        have y1 := BT.out.c1
        have y2 := BT.out.c2
        have y3 := BT.out.c3
        have y4 := BT.out.c4
        have y5 := BT.out.c5
        have y6 := BT.out.c6
        have y7 := BT.out.c7
        have x0 := BP.out.c0
        have x1 := BP.out.c1
        have x2 := BP.out.c2
        have x3 := BP.out.c3
        have x4 := BP.out.c4
        have x5 := BP.out.c5
        have x6 := BP.out.c6
        have x7 := BP.out.c7
        go_wp2_with fail
        refine (CTX.out _ TT.out TP.out).mono ?_
        rintro e v3 ⟨rfl, hb⟩
        clear y0 y1 y2 y3 y4 y5 y6 y7 x0 x1 x2 x3 x4 x5 x6 x7
        replace HB : Hid (Below (w.alloc (.cells #[.int .i64 t.id, .int .i64 t.st, .int .i64 t.snap, .int .i64 t.cs, .slice ra t.rs.length rc, .slice wa t.ws.length wk, .bool t.out, .string t.nm] 51)).heap.size (w.alloc (.cells #[.int .i64 t.id, .int .i64 t.st, .int .i64 t.snap, .int .i64 t.cs, .slice ra t.rs.length rc, .slice wa t.ws.length wk, .bool t.out, .string t.nm] 51)) v3) := HB.out.trans (hb.mono HB.out.size)
        replace TT : Hid (TRow v3 t ra wa) := TT.out.below hb
        replace TP : Hid (TRow v3 x.t x.ra x.wa) := TP.out.below hb
        replace LL : Hid (TRows v3 (some ⟨b, o, none⟩) xs) := LL.out.below hb
        replace BT : Hid (Bx v3 w.heap.size [.int .i64 t.id, .int .i64 t.st, .int .i64 t.snap, .int .i64 t.cs, .slice ra t.rs.length rc, .slice wa t.ws.length wk, .bool t.out, .string t.nm]) := BT.out.below hb
        replace BP : Hid (Bx v3 bp [.int .i64 x.t.id, .int .i64 x.t.st, .int .i64 x.t.snap, .int .i64 x.t.cs, .slice x.ra x.t.rs.length x.rc, .slice x.wa x.t.ws.length x.wc, .bool false, .string x.t.nm]) := BP.out.below hb
        clear hb
        have y0 := BT.out.c0
        have y1 := BT.out.c1
        have y2 := BT.out.c2
        have y3 := BT.out.c3
        have y4 := BT.out.c4
        have y5 := BT.out.c5
        have y6 := BT.out.c6
        have y7 := BT.out.c7
        have x0 := BP.out.c0
        have x1 := BP.out.c1
        have x2 := BP.out.c2
        have x3 := BP.out.c3
        have x4 := BP.out.c4
        have x5 := BP.out.c5
        have x6 := BP.out.c6
        have x7 := BP.out.c7
        have HSub : Hid (NoneOf (qQ t x.t) xs n → dQ t (txs xs) x.t = false) := fun h => by
         have e := any_none h (by rw [← HX.out]; omega)
         show dQ t (txs xs) x.t = false
         unfold dQ
         rw [e]
         simp [hA1r.out]
        have HSy : Hid (∀ j (hj : j < xs.length), qQ t x.t xs[j].t = true → dQ t (txs xs) x.t = true) := fun j hj h => by
         have e := any_yes (qQ t x.t) xs j hj h
         show dQ t (txs xs) x.t = true
         unfold dQ
         rw [e]
         simp [hR2.out, hA2t.out]
        go_wp2
        go_loopw [7] (fun tj wr2 => ∃ j : Nat, j ≤ n ∧ tj = .int .i64 j ∧ Hid (NoneOf (qQ t x.t) xs j) ∧ Hid (Below v3.heap.size v3 wr2)) (fun tj _ => n - (intOf tj).toNat)
        case atStart => exact ⟨0, Nat.zero_le _, rfl, (fun j hj h => by omega), belowRefl _⟩
        case round =>
         obtain ⟨j, hj, rfl, HNi, HBi⟩ := hrel
         have hbi := HBi.out
         obtain ⟨vz, hvz⟩ : ∃ z, z = wr := ⟨_, rfl⟩
         subst hvz
         clear y0 y1 y2 y3 y4 y5 y6 y7 x0 x1 x2 x3 x4 x5 x6 x7
         replace HB : Hid (Below (w.alloc (.cells #[.int .i64 t.id, .int .i64 t.st, .int .i64 t.snap, .int .i64 t.cs, .slice ra t.rs.length rc, .slice wa t.ws.length wk, .bool t.out, .string t.nm] 51)).heap.size (w.alloc (.cells #[.int .i64 t.id, .int .i64 t.st, .int .i64 t.snap, .int .i64 t.cs, .slice ra t.rs.length rc, .slice wa t.ws.length wk, .bool t.out, .string t.nm] 51)) vz) := HB.out.trans (hbi.mono HB.out.size)
         replace TT : Hid (TRow vz t ra wa) := TT.out.below hbi
         replace TP : Hid (TRow vz x.t x.ra x.wa) := TP.out.below hbi
         replace LL : Hid (TRows vz (some ⟨b, o, none⟩) xs) := LL.out.below hbi
         replace BT : Hid (Bx vz w.heap.size [.int .i64 t.id, .int .i64 t.st, .int .i64 t.snap, .int .i64 t.cs, .slice ra t.rs.length rc, .slice wa t.ws.length wk, .bool t.out, .string t.nm]) := BT.out.below hbi
         replace BP : Hid (Bx vz bp [.int .i64 x.t.id, .int .i64 x.t.st, .int .i64 x.t.snap, .int .i64 x.t.cs, .slice x.ra x.t.rs.length x.rc, .slice x.wa x.t.ws.length x.wc, .bool false, .string x.t.nm]) := BP.out.below hbi
         clear hbi
         have y0 := BT.out.c0
         have y1 := BT.out.c1
         have y2 := BT.out.c2
         have y3 := BT.out.c3
         have y4 := BT.out.c4
         have y5 := BT.out.c5
         have y6 := BT.out.c6
         have y7 := BT.out.c7
         have x0 := BP.out.c0
         have x1 := BP.out.c1
         have x2 := BP.out.c2
         have x3 := BP.out.c3
         have x4 := BP.out.c4
         have x5 := BP.out.c5
         have x6 := BP.out.c6
         have x7 := BP.out.c7
         by_cases hjl : j < n
         ·have hjl' : (j : Int) < (n : Int) := by omega
          have hjd : decide (j < n) = true := decide_eq_true hjl
          have hj0 : (0 : Int) ≤ (j : Int) := by omega
          go_wp2_with fail
          refine (CXT.out _ TP.out TT.out).mono ?_
          rintro e vy ⟨rfl, hb⟩
          clear y0 y1 y2 y3 y4 y5 y6 y7 x0 x1 x2 x3 x4 x5 x6 x7
          replace HBi := hide (HBi.out.trans (hb.mono HBi.out.size))
          replace HB : Hid (Below (w.alloc (.cells #[.int .i64 t.id, .int .i64 t.st, .int .i64 t.snap, .int .i64 t.cs, .slice ra t.rs.length rc, .slice wa t.ws.length wk, .bool t.out, .string t.nm] 51)).heap.size (w.alloc (.cells #[.int .i64 t.id, .int .i64 t.st, .int .i64 t.snap, .int .i64 t.cs, .slice ra t.rs.length rc, .slice wa t.ws.length wk, .bool t.out, .string t.nm] 51)) vy) := HB.out.trans (hb.mono HB.out.size)
          replace TT : Hid (TRow vy t ra wa) := TT.out.below hb
          replace TP : Hid (TRow vy x.t x.ra x.wa) := TP.out.below hb
          replace LL : Hid (TRows vy (some ⟨b, o, none⟩) xs) := LL.out.below hb
          replace BT : Hid (Bx vy w.heap.size [.int .i64 t.id, .int .i64 t.st, .int .i64 t.snap, .int .i64 t.cs, .slice ra t.rs.length rc, .slice wa t.ws.length wk, .bool t.out, .string t.nm]) := BT.out.below hb
          replace BP : Hid (Bx vy bp [.int .i64 x.t.id, .int .i64 x.t.st, .int .i64 x.t.snap, .int .i64 x.t.cs, .slice x.ra x.t.rs.length x.rc, .slice x.wa x.t.ws.length x.wc, .bool false, .string x.t.nm]) := BP.out.below hb
          clear hb
          have hjx : j < xs.length := by rw [← HX.out]; exact hjl
          obtain ⟨b9, o9, e9, hbl9, hc9, ht9⟩ := LL.out.cls j hjx
          cases e9
          have hfy : TFit xs[j].t := FX.out.2 _ (List.mem_map.2 ⟨_, List.getElem_mem hjx, rfl⟩)
          have HY2 : Hid (qQ t x.t xs[j].t = true → dQ t (txs xs) x.t = true) := fun h => HSy.out j hjx h
          have HN2 : Hid (qQ t x.t xs[j].t = false → NoneOf (qQ t x.t) xs (j + 1)) := fun h => none_more HNi.out hjx h
          obtain ⟨y, hy⟩ : ∃ y, y = xs[j] := ⟨_, rfl⟩
          rw [← hy] at hc9 ht9 hfy HY2 HN2
          have FYY : Hid (TFit y.t) := hfy
          have TQ : Hid (TRow vy y.t y.ra y.wa) := ht9
          have s0 := hc9.c0
          have s1 := hc9.c1
          have s2 := hc9.c2
          have s3 := hc9.c3
          have s4 := hc9.c4
          have s5 := hc9.c5
          have s6 := hc9.c6
          have s7 := hc9.c7
          clear hy hjx ht9 hfy hc9 hbl9
          have y0 := BT.out.c0
          have y1 := BT.out.c1
          have y2 := BT.out.c2
          have y3 := BT.out.c3
          have y4 := BT.out.c4
          have y5 := BT.out.c5
          have y6 := BT.out.c6
          have y7 := BT.out.c7
          have x0 := BP.out.c0
          have x1 := BP.out.c1
          have x2 := BP.out.c2
          have x3 := BP.out.c3
          have x4 := BP.out.c4
          have x5 := BP.out.c5
          have x6 := BP.out.c6
          have x7 := BP.out.c7
          go_upto_region 15 with fail
          clear s0 s1 s2 s3 s4 s5 s6 s7
          clear y0 y1 y2 y3 y4 y5 y6 y7 x0 x1 x2 x3 x4 x5 x6 x7
          have hba : Below vy.heap.size vy (vy.alloc (.cells #[.int .i64 y.t.id, .int .i64 y.t.st, .int .i64 y.t.snap, .int .i64 y.t.cs, .slice y.ra y.t.rs.length y.rc, .slice y.wa y.t.ws.length y.wc, .bool y.t.out, .string y.t.nm] 51)) := (belowRefl vy).alloc (Nat.le_refl _) _
          replace HBi := hide (HBi.out.trans (hba.mono HBi.out.size))
          replace HB : Hid (Below (w.alloc (.cells #[.int .i64 t.id, .int .i64 t.st, .int .i64 t.snap, .int .i64 t.cs, .slice ra t.rs.length rc, .slice wa t.ws.length wk, .bool t.out, .string t.nm] 51)).heap.size (w.alloc (.cells #[.int .i64 t.id, .int .i64 t.st, .int .i64 t.snap, .int .i64 t.cs, .slice ra t.rs.length rc, .slice wa t.ws.length wk, .bool t.out, .string t.nm] 51)) (vy.alloc (.cells #[.int .i64 y.t.id, .int .i64 y.t.st, .int .i64 y.t.snap, .int .i64 y.t.cs, .slice y.ra y.t.rs.length y.rc, .slice y.wa y.t.ws.length y.wc, .bool y.t.out, .string y.t.nm] 51))) := HB.out.trans (hba.mono HB.out.size)
          replace TT : Hid (TRow (vy.alloc (.cells #[.int .i64 y.t.id, .int .i64 y.t.st, .int .i64 y.t.snap, .int .i64 y.t.cs, .slice y.ra y.t.rs.length y.rc, .slice y.wa y.t.ws.length y.wc, .bool y.t.out, .string y.t.nm] 51)) t ra wa) := TT.out.below hba
          replace TP : Hid (TRow (vy.alloc (.cells #[.int .i64 y.t.id, .int .i64 y.t.st, .int .i64 y.t.snap, .int .i64 y.t.cs, .slice y.ra y.t.rs.length y.rc, .slice y.wa y.t.ws.length y.wc, .bool y.t.out, .string y.t.nm] 51)) x.t x.ra x.wa) := TP.out.below hba
          replace LL : Hid (TRows (vy.alloc (.cells #[.int .i64 y.t.id, .int .i64 y.t.st, .int .i64 y.t.snap, .int .i64 y.t.cs, .slice y.ra y.t.rs.length y.rc, .slice y.wa y.t.ws.length y.wc, .bool y.t.out, .string y.t.nm] 51)) (some ⟨b, o, none⟩) xs) := LL.out.below hba
          replace BT : Hid (Bx (vy.alloc (.cells #[.int .i64 y.t.id, .int .i64 y.t.st, .int .i64 y.t.snap, .int .i64 y.t.cs, .slice y.ra y.t.rs.length y.rc, .slice y.wa y.t.ws.length y.wc, .bool y.t.out, .string y.t.nm] 51)) w.heap.size [.int .i64 t.id, .int .i64 t.st, .int .i64 t.snap, .int .i64 t.cs, .slice ra t.rs.length rc, .slice wa t.ws.length wk, .bool t.out, .string t.nm]) := BT.out.below hba
          replace BP : Hid (Bx (vy.alloc (.cells #[.int .i64 y.t.id, .int .i64 y.t.st, .int .i64 y.t.snap, .int .i64 y.t.cs, .slice y.ra y.t.rs.length y.rc, .slice y.wa y.t.ws.length y.wc, .bool y.t.out, .string y.t.nm] 51)) bp [.int .i64 x.t.id, .int .i64 x.t.st, .int .i64 x.t.snap, .int .i64 x.t.cs, .slice x.ra x.t.rs.length x.rc, .slice x.wa x.t.ws.length x.wc, .bool false, .string x.t.nm]) := BP.out.below hba
          replace TQ : Hid (TRow (vy.alloc (.cells #[.int .i64 y.t.id, .int .i64 y.t.st, .int .i64 y.t.snap, .int .i64 y.t.cs, .slice y.ra y.t.rs.length y.rc, .slice y.wa y.t.ws.length y.wc, .bool y.t.out, .string y.t.nm] 51)) y.t y.ra y.wa) := TQ.out.below hba
          have BQ : Hid (Bx (vy.alloc (.cells #[.int .i64 y.t.id, .int .i64 y.t.st, .int .i64 y.t.snap, .int .i64 y.t.cs, .slice y.ra y.t.rs.length y.rc, .slice y.wa y.t.ws.length y.wc, .bool y.t.out, .string y.t.nm] 51)) vy.heap.size [.int .i64 y.t.id, .int .i64 y.t.st, .int .i64 y.t.snap, .int .i64 y.t.cs, .slice y.ra y.t.rs.length y.rc, .slice y.wa y.t.ws.length y.wc, .bool y.t.out, .string y.t.nm]) := Bx.new vy [.int .i64 y.t.id, .int .i64 y.t.st, .int .i64 y.t.snap, .int .i64 y.t.cs, .slice y.ra y.t.rs.length y.rc, .slice y.wa y.t.ws.length y.wc, .bool y.t.out, .string y.t.nm] 51
          clear hba
          generalize (vy.alloc (.cells #[.int .i64 y.t.id, .int .i64 y.t.st, .int .i64 y.t.snap, .int .i64 y.t.cs, .slice y.ra y.t.rs.length y.rc, .slice y.wa y.t.ws.length y.wc, .bool y.t.out, .string y.t.nm] 51)) = v7 at *
          generalize vy.heap.size = bq at *
          have CYX : Hid (∀ W : World, TRow W y.t y.ra y.wa → TRow W x.t x.ra x.wa → _) := fun W h1 h2 => sahead y.t x.t y.ra y.wa y.rc y.wc x.ra x.wa x.rc x.wc (Nat.le_trans FYY.out.1 (by omega)) (Nat.le_trans FXX.out.2.2.1 (by omega)) W h1.r h2.w
          rw [hO.out] at CYX
          have y0 := BT.out.c0
          have y1 := BT.out.c1
          have y2 := BT.out.c2
          have y3 := BT.out.c3
          have y4 := BT.out.c4
          have y5 := BT.out.c5
          have y6 := BT.out.c6
          have y7 := BT.out.c7
          have x0 := BP.out.c0
          have x1 := BP.out.c1
          have x2 := BP.out.c2
          have x3 := BP.out.c3
          have x4 := BP.out.c4
          have x5 := BP.out.c5
          have x6 := BP.out.c6
          have x7 := BP.out.c7
          have z0 := BQ.out.c0
          have z1 := BQ.out.c1
          have z2 := BQ.out.c2
          have z3 := BQ.out.c3
          have z4 := BQ.out.c4
          have z5 := BQ.out.c5
          have z6 := BQ.out.c6
          have z7 := BQ.out.c7
          by_cases q2 : y.t.st = 2
          ·have q2b : (y.t.st == 2) = true := by simp [q2]
           by_cases q3 : y.t.id = t.id
           ·have HQi : Hid (qQ t x.t y.t = false) := by show _ = _; simp [qQ, q3]
            have q3b : (y.t.id != t.id) = false := by simp [q3]
            have q3d : decide (y.t.id = t.id) = true := by simp [q3]
            clear q2 q3
            go_wp2
            go_roundw
            case rel => exact ⟨j + 1, by omega, by go_num, HN2.out HQi.out, HBi⟩
            case measure => simp [intOf]; omega
           ·have q3b : (y.t.id != t.id) = true := by simp [q3]
            have EQ : Hid (qQ t x.t y.t = ahB y.t x.t) := by show _ = _; simp [qQ, readyB, q2, q3]
            clear q2
            cases hA : ahB y.t x.t
            ·have HQi : Hid (qQ t x.t y.t = false) := by show _ = _; rw [EQ.out, hA]
             rw [hA] at CYX
             clear hA
             go_wp2_with fail
             refine (CYX.out _ TQ.out TP.out).mono ?_
             rintro e v8 ⟨rfl, hb⟩
             replace HBi := hide (HBi.out.trans (hb.mono HBi.out.size))
             go_wp2
             go_roundw
             case rel => exact ⟨j + 1, by omega, by go_num, HN2.out HQi.out, HBi⟩
             case measure => simp [intOf]; omega
            ·have HQ : Hid (dQ t (txs xs) x.t = true) := HY2.out (by rw [EQ.out, hA])
             rw [hA] at CYX
             clear hA
             go_wp2_with fail
             refine (CYX.out _ TQ.out TP.out).mono ?_
             rintro e v8 ⟨rfl, hb⟩
             replace HB := hide (HB.out.trans (hb.mono HB.out.size))
             go_wp2
             go_ret
             exact ⟨ret_bool (HYes.out HQ.out).symm, HB0.out.trans ((HB.out).mono HB0.out.size)⟩
          ·have q2b : (y.t.st == 2) = false := by simp [q2]
           have HQi : Hid (qQ t x.t y.t = false) := by show _ = _; simp [qQ, readyB, q2]
           go_wp2
           go_roundw
           case rel => exact ⟨j + 1, by omega, by go_num, HN2.out HQi.out, HBi⟩
           case measure => simp [intOf]; omega
         ·have hjl' : ¬ (j : Int) < (n : Int) := by omega
          have hjd : decide (j < n) = false := decide_eq_false hjl
          have hje : decide ((j : Int) < (n : Int)) = false := decide_eq_false hjl'
          have HQ : Hid (dQ t (txs xs) x.t = false) := HSub.out (fun i hi hij => HNi.out i hi (by omega))
          go_wp2
          go_roundw
          case rel => exact ⟨k + 1, by omega, by go_num, HNo.out HQ.out, HB⟩
          case measure => simp [intOf]; omega
       ·have HQ : Hid (dQ t (txs xs) x.t = true) := by show _ = _; unfold dQ; simp [hR2.out, hA2t.out, hA1]
        rw [hA1] at CTX
        clear hA1
        go_wp2_with fail
        refine (CXT.out _ TP.out TT.out).mono ?_
        rintro e v2 ⟨rfl, hb⟩
        clear y0 y1 y2 y3 y4 y5 y6 y7 x0 x1 x2 x3 x4 x5 x6 x7
        replace HB : Hid (Below (w.alloc (.cells #[.int .i64 t.id, .int .i64 t.st, .int .i64 t.snap, .int .i64 t.cs, .slice ra t.rs.length rc, .slice wa t.ws.length wk, .bool t.out, .string t.nm] 51)).heap.size (w.alloc (.cells #[.int .i64 t.id, .int .i64 t.st, .int .i64 t.snap, .int .i64 t.cs, .slice ra t.rs.length rc, .slice wa t.ws.length wk, .bool t.out, .string t.nm] 51)) v2) := HB.out.trans (hb.mono HB.out.size)
        replace TT : Hid (TRow v2 t ra wa) := TT.out.below hb
        replace TP : Hid (TRow v2 x.t x.ra x.wa) := TP.out.below hb
        replace LL : Hid (TRows v2 (some ⟨b, o, none⟩) xs) := LL.out.below hb
        replace BT : Hid (Bx v2 w.heap.size [.int .i64 t.id, .int .i64 t.st, .int .i64 t.snap, .int .i64 t.cs, .slice ra t.rs.length rc, .slice wa t.ws.length wk, .bool t.out, .string t.nm]) := BT.out.below hb
        replace BP : Hid (Bx v2 bp [.int .i64 x.t.id, .int .i64 x.t.st, .int .i64 x.t.snap, .int .i64 x.t.cs, .slice x.ra x.t.rs.length x.rc, .slice x.wa x.t.ws.length x.wc, .bool false, .string x.t.nm]) := BP.out.below hb
        clear hb
        have y0 := BT.out.c0
        have y1 := BT.out.c1
        have y2 := BT.out.c2
        have y3 := BT.out.c3
        have y4 := BT.out.c4
        have y5 := BT.out.c5
        have y6 := BT.out.c6
        have y7 := BT.out.c7
        have x0 := BP.out.c0
        have x1 := BP.out.c1
        have x2 := BP.out.c2
        have x3 := BP.out.c3
        have x4 := BP.out.c4
        have x5 := BP.out.c5
        have x6 := BP.out.c6
        have x7 := BP.out.c7
        go_wp2_with fail
        refine (CTX.out _ TT.out TP.out).mono ?_
        rintro e v3 ⟨rfl, hb⟩
        clear y0 y1 y2 y3 y4 y5 y6 y7 x0 x1 x2 x3 x4 x5 x6 x7
        replace HB : Hid (Below (w.alloc (.cells #[.int .i64 t.id, .int .i64 t.st, .int .i64 t.snap, .int .i64 t.cs, .slice ra t.rs.length rc, .slice wa t.ws.length wk, .bool t.out, .string t.nm] 51)).heap.size (w.alloc (.cells #[.int .i64 t.id, .int .i64 t.st, .int .i64 t.snap, .int .i64 t.cs, .slice ra t.rs.length rc, .slice wa t.ws.length wk, .bool t.out, .string t.nm] 51)) v3) := HB.out.trans (hb.mono HB.out.size)
        replace TT : Hid (TRow v3 t ra wa) := TT.out.below hb
        replace TP : Hid (TRow v3 x.t x.ra x.wa) := TP.out.below hb
        replace LL : Hid (TRows v3 (some ⟨b, o, none⟩) xs) := LL.out.below hb
        replace BT : Hid (Bx v3 w.heap.size [.int .i64 t.id, .int .i64 t.st, .int .i64 t.snap, .int .i64 t.cs, .slice ra t.rs.length rc, .slice wa t.ws.length wk, .bool t.out, .string t.nm]) := BT.out.below hb
        replace BP : Hid (Bx v3 bp [.int .i64 x.t.id, .int .i64 x.t.st, .int .i64 x.t.snap, .int .i64 x.t.cs, .slice x.ra x.t.rs.length x.rc, .slice x.wa x.t.ws.length x.wc, .bool false, .string x.t.nm]) := BP.out.below hb
        clear hb
        have y0 := BT.out.c0
        have y1 := BT.out.c1
        have y2 := BT.out.c2
        have y3 := BT.out.c3
        have y4 := BT.out.c4
        have y5 := BT.out.c5
        have y6 := BT.out.c6
        have y7 := BT.out.c7
        have x0 := BP.out.c0
        have x1 := BP.out.c1
        have x2 := BP.out.c2
        have x3 := BP.out.c3
        have x4 := BP.out.c4
        have x5 := BP.out.c5
        have x6 := BP.out.c6
        have x7 := BP.out.c7
        go_wp2
        go_ret
        exact ⟨ret_bool (HYes.out HQ.out).symm, HB0.out.trans ((HB.out).mono HB0.out.size)⟩
     ·have hO : Hid (x.t.out = true) := ho
      rw [ho] at BP CTX CXT x6
      clear ho
      cases hA1 : ahB t x.t
      ·have hA1r : Hid (ahB t x.t = false) := hA1
       have hA1o : Hid (ahB t x.t = false) := hA1
       rw [hA1] at CTX
       clear hA1
       go_wp2_with fail
       refine (CTX.out _ TT.out TP.out).mono ?_
       rintro e v2 ⟨rfl, hb⟩
       clear y0 y1 y2 y3 y4 y5 y6 y7 x0 x1 x2 x3 x4 x5 x6 x7
       replace HB : Hid (Below (w.alloc (.cells #[.int .i64 t.id, .int .i64 t.st, .int .i64 t.snap, .int .i64 t.cs, .slice ra t.rs.length rc, .slice wa t.ws.length wk, .bool t.out, .string t.nm] 51)).heap.size (w.alloc (.cells #[.int .i64 t.id, .int .i64 t.st, .int .i64 t.snap, .int .i64 t.cs, .slice ra t.rs.length rc, .slice wa t.ws.length wk, .bool t.out, .string t.nm] 51)) v2) := HB.out.trans (hb.mono HB.out.size)
       replace TT : Hid (TRow v2 t ra wa) := TT.out.below hb
       replace TP : Hid (TRow v2 x.t x.ra x.wa) := TP.out.below hb
       replace LL : Hid (TRows v2 (some ⟨b, o, none⟩) xs) := LL.out.below hb
       replace BT : Hid (Bx v2 w.heap.size [.int .i64 t.id, .int .i64 t.st, .int .i64 t.snap, .int .i64 t.cs, .slice ra t.rs.length rc, .slice wa t.ws.length wk, .bool t.out, .string t.nm]) := BT.out.below hb
       replace BP : Hid (Bx v2 bp [.int .i64 x.t.id, .int .i64 x.t.st, .int .i64 x.t.snap, .int .i64 x.t.cs, .slice x.ra x.t.rs.length x.rc, .slice x.wa x.t.ws.length x.wc, .bool true, .string x.t.nm]) := BP.out.below hb
       clear hb
       have y0 := BT.out.c0
       have y1 := BT.out.c1
       have y2 := BT.out.c2
       have y3 := BT.out.c3
       have y4 := BT.out.c4
       have y5 := BT.out.c5
       have y6 := BT.out.c6
       have y7 := BT.out.c7
       have x0 := BP.out.c0
       have x1 := BP.out.c1
       have x2 := BP.out.c2
       have x3 := BP.out.c3
       have x4 := BP.out.c4
       have x5 := BP.out.c5
       have x6 := BP.out.c6
       have x7 := BP.out.c7
       cases hA2 : ahB x.t t
       ·have HQ : Hid (dQ t (txs xs) x.t = false) := by show _ = _; unfold dQ; simp [hA2, hA1o.out]
        rw [hA2] at CXT
        clear hA2
        go_wp2_with fail
        refine (CXT.out _ TP.out TT.out).mono ?_
        rintro e v3 ⟨rfl, hb⟩
        clear y0 y1 y2 y3 y4 y5 y6 y7 x0 x1 x2 x3 x4 x5 x6 x7
        replace HB : Hid (Below (w.alloc (.cells #[.int .i64 t.id, .int .i64 t.st, .int .i64 t.snap, .int .i64 t.cs, .slice ra t.rs.length rc, .slice wa t.ws.length wk, .bool t.out, .string t.nm] 51)).heap.size (w.alloc (.cells #[.int .i64 t.id, .int .i64 t.st, .int .i64 t.snap, .int .i64 t.cs, .slice ra t.rs.length rc, .slice wa t.ws.length wk, .bool t.out, .string t.nm] 51)) v3) := HB.out.trans (hb.mono HB.out.size)
        replace TT : Hid (TRow v3 t ra wa) := TT.out.below hb
        replace TP : Hid (TRow v3 x.t x.ra x.wa) := TP.out.below hb
        replace LL : Hid (TRows v3 (some ⟨b, o, none⟩) xs) := LL.out.below hb
        replace BT : Hid (Bx v3 w.heap.size [.int .i64 t.id, .int .i64 t.st, .int .i64 t.snap, .int .i64 t.cs, .slice ra t.rs.length rc, .slice wa t.ws.length wk, .bool t.out, .string t.nm]) := BT.out.below hb
        replace BP : Hid (Bx v3 bp [.int .i64 x.t.id, .int .i64 x.t.st, .int .i64 x.t.snap, .int .i64 x.t.cs, .slice x.ra x.t.rs.length x.rc, .slice x.wa x.t.ws.length x.wc, .bool true, .string x.t.nm]) := BP.out.below hb
        clear hb
        have y0 := BT.out.c0
        have y1 := BT.out.c1
        have y2 := BT.out.c2
        have y3 := BT.out.c3
        have y4 := BT.out.c4
        have y5 := BT.out.c5
        have y6 := BT.out.c6
        have y7 := BT.out.c7
        have x0 := BP.out.c0
        have x1 := BP.out.c1
        have x2 := BP.out.c2
        have x3 := BP.out.c3
        have x4 := BP.out.c4
        have x5 := BP.out.c5
        have x6 := BP.out.c6
        have x7 := BP.out.c7
        go_wp2
        go_loopw [7] (fun tj wr2 => ∃ j : Nat, j ≤ n ∧ tj = .int .i64 j ∧ Hid (Below v3.heap.size v3 wr2)) (fun tj _ => n - (intOf tj).toNat)
        case atStart => exact ⟨0, Nat.zero_le _, rfl, belowRefl _⟩
        case round =>
         obtain ⟨j, hj, rfl, HBi⟩ := hrel
         have hbi := HBi.out
         obtain ⟨vz, hvz⟩ : ∃ z, z = wr := ⟨_, rfl⟩
         subst hvz
         clear y0 y1 y2 y3 y4 y5 y6 y7 x0 x1 x2 x3 x4 x5 x6 x7
         replace HB : Hid (Below (w.alloc (.cells #[.int .i64 t.id, .int .i64 t.st, .int .i64 t.snap, .int .i64 t.cs, .slice ra t.rs.length rc, .slice wa t.ws.length wk, .bool t.out, .string t.nm] 51)).heap.size (w.alloc (.cells #[.int .i64 t.id, .int .i64 t.st, .int .i64 t.snap, .int .i64 t.cs, .slice ra t.rs.length rc, .slice wa t.ws.length wk, .bool t.out, .string t.nm] 51)) vz) := HB.out.trans (hbi.mono HB.out.size)
         replace TT : Hid (TRow vz t ra wa) := TT.out.below hbi
         replace TP : Hid (TRow vz x.t x.ra x.wa) := TP.out.below hbi
         replace LL : Hid (TRows vz (some ⟨b, o, none⟩) xs) := LL.out.below hbi
         replace BT : Hid (Bx vz w.heap.size [.int .i64 t.id, .int .i64 t.st, .int .i64 t.snap, .int .i64 t.cs, .slice ra t.rs.length rc, .slice wa t.ws.length wk, .bool t.out, .string t.nm]) := BT.out.below hbi
         replace BP : Hid (Bx vz bp [.int .i64 x.t.id, .int .i64 x.t.st, .int .i64 x.t.snap, .int .i64 x.t.cs, .slice x.ra x.t.rs.length x.rc, .slice x.wa x.t.ws.length x.wc, .bool true, .string x.t.nm]) := BP.out.below hbi
         clear hbi HBi
         have y0 := BT.out.c0
         have y1 := BT.out.c1
         have y2 := BT.out.c2
         have y3 := BT.out.c3
         have y4 := BT.out.c4
         have y5 := BT.out.c5
         have y6 := BT.out.c6
         have y7 := BT.out.c7
         have x0 := BP.out.c0
         have x1 := BP.out.c1
         have x2 := BP.out.c2
         have x3 := BP.out.c3
         have x4 := BP.out.c4
         have x5 := BP.out.c5
         have x6 := BP.out.c6
         have x7 := BP.out.c7
         by_cases hjl : j < n
         ·have hjl' : (j : Int) < (n : Int) := by omega
          have hjd : decide (j < n) = true := decide_eq_true hjl
          go_wp2_with fail
          refine (CXT.out _ TP.out TT.out).mono ?_
          rintro e v4 ⟨rfl, hb⟩
          clear y0 y1 y2 y3 y4 y5 y6 y7 x0 x1 x2 x3 x4 x5 x6 x7
          replace HB : Hid (Below (w.alloc (.cells #[.int .i64 t.id, .int .i64 t.st, .int .i64 t.snap, .int .i64 t.cs, .slice ra t.rs.length rc, .slice wa t.ws.length wk, .bool t.out, .string t.nm] 51)).heap.size (w.alloc (.cells #[.int .i64 t.id, .int .i64 t.st, .int .i64 t.snap, .int .i64 t.cs, .slice ra t.rs.length rc, .slice wa t.ws.length wk, .bool t.out, .string t.nm] 51)) v4) := HB.out.trans (hb.mono HB.out.size)
          replace TT : Hid (TRow v4 t ra wa) := TT.out.below hb
          replace TP : Hid (TRow v4 x.t x.ra x.wa) := TP.out.below hb
          replace LL : Hid (TRows v4 (some ⟨b, o, none⟩) xs) := LL.out.below hb
          replace BT : Hid (Bx v4 w.heap.size [.int .i64 t.id, .int .i64 t.st, .int .i64 t.snap, .int .i64 t.cs, .slice ra t.rs.length rc, .slice wa t.ws.length wk, .bool t.out, .string t.nm]) := BT.out.below hb
          replace BP : Hid (Bx v4 bp [.int .i64 x.t.id, .int .i64 x.t.st, .int .i64 x.t.snap, .int .i64 x.t.cs, .slice x.ra x.t.rs.length x.rc, .slice x.wa x.t.ws.length x.wc, .bool true, .string x.t.nm]) := BP.out.below hb
          clear hb
          have y0 := BT.out.c0
          have y1 := BT.out.c1
          have y2 := BT.out.c2
          have y3 := BT.out.c3
          have y4 := BT.out.c4
          have y5 := BT.out.c5
          have y6 := BT.out.c6
          have y7 := BT.out.c7
          have x0 := BP.out.c0
          have x1 := BP.out.c1
          have x2 := BP.out.c2
          have x3 := BP.out.c3
          have x4 := BP.out.c4
          have x5 := BP.out.c5
          have x6 := BP.out.c6
          have x7 := BP.out.c7
          go_wp2
          go_roundw
          case rel => exact ⟨k + 1, by omega, by go_num, HNo.out HQ.out, HB⟩
          case measure => simp [intOf]; omega
         ·have hjl' : ¬ (j : Int) < (n : Int) := by omega
          have hjd : decide (j < n) = false := decide_eq_false hjl
          have hje : decide ((j : Int) < (n : Int)) = false := decide_eq_false hjl'
          go_wp2
          go_roundw
          case rel => exact ⟨k + 1, by omega, by go_num, HNo.out HQ.out, HB⟩
          case measure => simp [intOf]; omega
       ·have hA2t : Hid (ahB x.t t = true) := hA2
        rw [hA2] at CXT
        clear hA2
        go_wp2_with fail
        refine (CXT.out _ TP.out TT.out).mono ?_
        rintro e v3 ⟨rfl, hb⟩
        clear y0 y1 y2 y3 y4 y5 y6 y7 x0 x1 x2 x3 x4 x5 x6 x7
        replace HB : Hid (Below (w.alloc (.cells #[.int .i64 t.id, .int .i64 t.st, .int .i64 t.snap, .int .i64 t.cs, .slice ra t.rs.length rc, .slice wa t.ws.length wk, .bool t.out, .string t.nm] 51)).heap.size (w.alloc (.cells #[.int .i64 t.id, .int .i64 t.st, .int .i64 t.snap, .int .i64 t.cs, .slice ra t.rs.length rc, .slice wa t.ws.length wk, .bool t.out, .string t.nm] 51)) v3) := HB.out.trans (hb.mono HB.out.size)
        replace TT : Hid (TRow v3 t ra wa) := TT.out.below hb
        replace TP : Hid (TRow v3 x.t x.ra x.wa) := TP.out.below hb
        replace LL : Hid (TRows v3 (some ⟨b, o, none⟩) xs) := LL.out.below hb
        replace BT : Hid (Bx v3 w.heap.size [.int .i64 t.id, .int .i64 t.st, .int .i64 t.snap, .int .i64 t.cs, .slice ra t.rs.length rc, .slice wa t.ws.length wk, .bool t.out, .string t.nm]) := BT.out.below hb
        replace BP : Hid (Bx v3 bp [.int .i64 x.t.id, .int .i64 x.t.st, .int .i64 x.t.snap, .int .i64 x.t.cs, .slice x.ra x.t.rs.length x.rc, .slice x.wa x.t.ws.length x.wc, .bool true, .string x.t.nm]) := BP.out.below hb
        clear hb
        have y0 := BT.out.c0
        have y1 := BT.out.c1
        have y2 := BT.out.c2
        have y3 := BT.out.c3
        have y4 := BT.out.c4
        have y5 := BT.out.c5
        have y6 := BT.out.c6
        have y7 := BT.out.c7
        have x0 := BP.out.c0
        have x1 := BP.out.c1
        have x2 := BP.out.c2
        have x3 := BP.out.c3
        have x4 := BP.out.c4
        have x5 := BP.out.c5
        have x6 := BP.out.c6
        have x7 := BP.out.c7
        go_wp2_with fail
        refine (CTX.out _ TT.out TP.out).mono ?_
        rintro e v4 ⟨rfl, hb⟩
        clear y0 y1 y2 y3 y4 y5 y6 y7 x0 x1 x2 x3 x4 x5 x6 x7
        replace HB : Hid (Below (w.alloc (.cells #[.int .i64 t.id, .int .i64 t.st, .int .i64 t.snap, .int .i64 t.cs, .slice ra t.rs.length rc, .slice wa t.ws.length wk, .bool t.out, .string t.nm] 51)).heap.size (w.alloc (.cells #[.int .i64 t.id, .int .i64 t.st, .int .i64 t.snap, .int .i64 t.cs, .slice ra t.rs.length rc, .slice wa t.ws.length wk, .bool t.out, .string t.nm] 51)) v4) := HB.out.trans (hb.mono HB.out.size)
        replace TT : Hid (TRow v4 t ra wa) := TT.out.below hb
        replace TP : Hid (TRow v4 x.t x.ra x.wa) := TP.out.below hb
        replace LL : Hid (TRows v4 (some ⟨b, o, none⟩) xs) := LL.out.below hb
        replace BT : Hid (Bx v4 w.heap.size [.int .i64 t.id, .int .i64 t.st, .int .i64 t.snap, .int .i64 t.cs, .slice ra t.rs.length rc, .slice wa t.ws.length wk, .bool t.out, .string t.nm]) := BT.out.below hb
        replace BP : Hid (Bx v4 bp [.int .i64 x.t.id, .int .i64 x.t.st, .int .i64 x.t.snap, .int .i64 x.t.cs, .slice x.ra x.t.rs.length x.rc, .slice x.wa x.t.ws.length x.wc, .bool true, .string x.t.nm]) := BP.out.below hb
        clear hb
        have y0 := BT.out.c0
        have y1 := BT.out.c1
        have y2 := BT.out.c2
        have y3 := BT.out.c3
        have y4 := BT.out.c4
        have y5 := BT.out.c5
        have y6 := BT.out.c6
        have y7 := BT.out.c7
        have x0 := BP.out.c0
        have x1 := BP.out.c1
        have x2 := BP.out.c2
        have x3 := BP.out.c3
        have x4 := BP.out.c4
        have x5 := BP.out.c5
        have x6 := BP.out.c6
        have x7 := BP.out.c7
        have HSub : Hid (NoneOf (qQ t x.t) xs n → dQ t (txs xs) x.t = false) := fun h => by
         have e := any_none h (by rw [← HX.out]; omega)
         show dQ t (txs xs) x.t = false
         unfold dQ
         rw [e]
         simp [hA1r.out]
        have HSy : Hid (∀ j (hj : j < xs.length), qQ t x.t xs[j].t = true → dQ t (txs xs) x.t = true) := fun j hj h => by
         have e := any_yes (qQ t x.t) xs j hj h
         show dQ t (txs xs) x.t = true
         unfold dQ
         rw [e]
         simp [hR2.out, hA2t.out]
        go_wp2
        go_loopw [7] (fun tj wr2 => ∃ j : Nat, j ≤ n ∧ tj = .int .i64 j ∧ Hid (NoneOf (qQ t x.t) xs j) ∧ Hid (Below v4.heap.size v4 wr2)) (fun tj _ => n - (intOf tj).toNat)
        case atStart => exact ⟨0, Nat.zero_le _, rfl, (fun j hj h => by omega), belowRefl _⟩
        case round =>
         obtain ⟨j, hj, rfl, HNi, HBi⟩ := hrel
         have hbi := HBi.out
         obtain ⟨vz, hvz⟩ : ∃ z, z = wr := ⟨_, rfl⟩
         subst hvz
         clear y0 y1 y2 y3 y4 y5 y6 y7 x0 x1 x2 x3 x4 x5 x6 x7
         replace HB : Hid (Below (w.alloc (.cells #[.int .i64 t.id, .int .i64 t.st, .int .i64 t.snap, .int .i64 t.cs, .slice ra t.rs.length rc, .slice wa t.ws.length wk, .bool t.out, .string t.nm] 51)).heap.size (w.alloc (.cells #[.int .i64 t.id, .int .i64 t.st, .int .i64 t.snap, .int .i64 t.cs, .slice ra t.rs.length rc, .slice wa t.ws.length wk, .bool t.out, .string t.nm] 51)) vz) := HB.out.trans (hbi.mono HB.out.size)
         replace TT : Hid (TRow vz t ra wa) := TT.out.below hbi
         replace TP : Hid (TRow vz x.t x.ra x.wa) := TP.out.below hbi
         replace LL : Hid (TRows vz (some ⟨b, o, none⟩) xs) := LL.out.below hbi
         replace BT : Hid (Bx vz w.heap.size [.int .i64 t.id, .int .i64 t.st, .int .i64 t.snap, .int .i64 t.cs, .slice ra t.rs.length rc, .slice wa t.ws.length wk, .bool t.out, .string t.nm]) := BT.out.below hbi
         replace BP : Hid (Bx vz bp [.int .i64 x.t.id, .int .i64 x.t.st, .int .i64 x.t.snap, .int .i64 x.t.cs, .slice x.ra x.t.rs.length x.rc, .slice x.wa x.t.ws.length x.wc, .bool true, .string x.t.nm]) := BP.out.below hbi
         clear hbi
         have y0 := BT.out.c0
         have y1 := BT.out.c1
         have y2 := BT.out.c2
         have y3 := BT.out.c3
         have y4 := BT.out.c4
         have y5 := BT.out.c5
         have y6 := BT.out.c6
         have y7 := BT.out.c7
         have x0 := BP.out.c0
         have x1 := BP.out.c1
         have x2 := BP.out.c2
         have x3 := BP.out.c3
         have x4 := BP.out.c4
         have x5 := BP.out.c5
         have x6 := BP.out.c6
         have x7 := BP.out.c7
         by_cases hjl : j < n
         ·have hjl' : (j : Int) < (n : Int) := by omega
          have hjd : decide (j < n) = true := decide_eq_true hjl
          have hj0 : (0 : Int) ≤ (j : Int) := by omega
          go_wp2_with fail
          refine (CXT.out _ TP.out TT.out).mono ?_
          rintro e vy ⟨rfl, hb⟩
          clear y0 y1 y2 y3 y4 y5 y6 y7 x0 x1 x2 x3 x4 x5 x6 x7
          replace HBi := hide (HBi.out.trans (hb.mono HBi.out.size))
          replace HB : Hid (Below (w.alloc (.cells #[.int .i64 t.id, .int .i64 t.st, .int .i64 t.snap, .int .i64 t.cs, .slice ra t.rs.length rc, .slice wa t.ws.length wk, .bool t.out, .string t.nm] 51)).heap.size (w.alloc (.cells #[.int .i64 t.id, .int .i64 t.st, .int .i64 t.snap, .int .i64 t.cs, .slice ra t.rs.length rc, .slice wa t.ws.length wk, .bool t.out, .string t.nm] 51)) vy) := HB.out.trans (hb.mono HB.out.size)
          replace TT : Hid (TRow vy t ra wa) := TT.out.below hb
          replace TP : Hid (TRow vy x.t x.ra x.wa) := TP.out.below hb
          replace LL : Hid (TRows vy (some ⟨b, o, none⟩) xs) := LL.out.below hb
          replace BT : Hid (Bx vy w.heap.size [.int .i64 t.id, .int .i64 t.st, .int .i64 t.snap, .int .i64 t.cs, .slice ra t.rs.length rc, .slice wa t.ws.length wk, .bool t.out, .string t.nm]) := BT.out.below hb
          replace BP : Hid (Bx vy bp [.int .i64 x.t.id, .int .i64 x.t.st, .int .i64 x.t.snap, .int .i64 x.t.cs, .slice x.ra x.t.rs.length x.rc, .slice x.wa x.t.ws.length x.wc, .bool true, .string x.t.nm]) := BP.out.below hb
          clear hb
          have hjx : j < xs.length := by rw [← HX.out]; exact hjl
          obtain ⟨b9, o9, e9, hbl9, hc9, ht9⟩ := LL.out.cls j hjx
          cases e9
          have hfy : TFit xs[j].t := FX.out.2 _ (List.mem_map.2 ⟨_, List.getElem_mem hjx, rfl⟩)
          have HY2 : Hid (qQ t x.t xs[j].t = true → dQ t (txs xs) x.t = true) := fun h => HSy.out j hjx h
          have HN2 : Hid (qQ t x.t xs[j].t = false → NoneOf (qQ t x.t) xs (j + 1)) := fun h => none_more HNi.out hjx h
          obtain ⟨y, hy⟩ : ∃ y, y = xs[j] := ⟨_, rfl⟩
          rw [← hy] at hc9 ht9 hfy HY2 HN2
          have FYY : Hid (TFit y.t) := hfy
          have TQ : Hid (TRow vy y.t y.ra y.wa) := ht9
          have s0 := hc9.c0
          have s1 := hc9.c1
          have s2 := hc9.c2
          have s3 := hc9.c3
          have s4 := hc9.c4
          have s5 := hc9.c5
          have s6 := hc9.c6
          have s7 := hc9.c7
          clear hy hjx ht9 hfy hc9 hbl9
          have y0 := BT.out.c0
          have y1 := BT.out.c1
          have y2 := BT.out.c2
          have y3 := BT.out.c3
          have y4 := BT.out.c4
          have y5 := BT.out.c5
          have y6 := BT.out.c6
          have y7 := BT.out.c7
          have x0 := BP.out.c0
          have x1 := BP.out.c1
          have x2 := BP.out.c2
          have x3 := BP.out.c3
          have x4 := BP.out.c4
          have x5 := BP.out.c5
          have x6 := BP.out.c6
          have x7 := BP.out.c7
          go_upto_region 15 with fail
          clear s0 s1 s2 s3 s4 s5 s6 s7
          clear y0 y1 y2 y3 y4 y5 y6 y7 x0 x1 x2 x3 x4 x5 x6 x7
          have hba : Below vy.heap.size vy (vy.alloc (.cells #[.int .i64 y.t.id, .int .i64 y.t.st, .int .i64 y.t.snap, .int .i64 y.t.cs, .slice y.ra y.t.rs.length y.rc, .slice y.wa y.t.ws.length y.wc, .bool y.t.out, .string y.t.nm] 51)) := (belowRefl vy).alloc (Nat.le_refl _) _
          replace HBi := hide (HBi.out.trans (hba.mono HBi.out.size))
          replace HB : Hid (Below (w.alloc (.cells #[.int .i64 t.id, .int .i64 t.st, .int .i64 t.snap, .int .i64 t.cs, .slice ra t.rs.length rc, .slice wa t.ws.length wk, .bool t.out, .string t.nm] 51)).heap.size (w.alloc (.cells #[.int .i64 t.id, .int .i64 t.st, .int .i64 t.snap, .int .i64 t.cs, .slice ra t.rs.length rc, .slice wa t.ws.length wk, .bool t.out, .string t.nm] 51)) (vy.alloc (.cells #[.int .i64 y.t.id, .int .i64 y.t.st, .int .i64 y.t.snap, .int .i64 y.t.cs, .slice y.ra y.t.rs.length y.rc, .slice y.wa y.t.ws.length y.wc, .bool y.t.out, .string y.t.nm] 51))) := HB.out.trans (hba.mono HB.out.size)
          replace TT : Hid (TRow (vy.alloc (.cells #[.int .i64 y.t.id, .int .i64 y.t.st, .int .i64 y.t.snap, .int .i64 y.t.cs, .slice y.ra y.t.rs.length y.rc, .slice y.wa y.t.ws.length y.wc, .bool y.t.out, .string y.t.nm] 51)) t ra wa) := TT.out.below hba
          replace TP : Hid (TRow (vy.alloc (.cells #[.int .i64 y.t.id, .int .i64 y.t.st, .int .i64 y.t.snap, .int .i64 y.t.cs, .slice y.ra y.t.rs.length y.rc, .slice y.wa y.t.ws.length y.wc, .bool y.t.out, .string y.t.nm] 51)) x.t x.ra x.wa) := TP.out.below hba
          replace LL : Hid (TRows (vy.alloc (.cells #[.int .i64 y.t.id, .int .i64 y.t.st, .int .i64 y.t.snap, .int .i64 y.t.cs, .slice y.ra y.t.rs.length y.rc, .slice y.wa y.t.ws.length y.wc, .bool y.t.out, .string y.t.nm] 51)) (some ⟨b, o, none⟩) xs) := LL.out.below hba
          replace BT : Hid (Bx (vy.alloc (.cells #[.int .i64 y.t.id, .int .i64 y.t.st, .int .i64 y.t.snap, .int .i64 y.t.cs, .slice y.ra y.t.rs.length y.rc, .slice y.wa y.t.ws.length y.wc, .bool y.t.out, .string y.t.nm] 51)) w.heap.size [.int .i64 t.id, .int .i64 t.st, .int .i64 t.snap, .int .i64 t.cs, .slice ra t.rs.length rc, .slice wa t.ws.length wk, .bool t.out, .string t.nm]) := BT.out.below hba
          replace BP : Hid (Bx (vy.alloc (.cells #[.int .i64 y.t.id, .int .i64 y.t.st, .int .i64 y.t.snap, .int .i64 y.t.cs, .slice y.ra y.t.rs.length y.rc, .slice y.wa y.t.ws.length y.wc, .bool y.t.out, .string y.t.nm] 51)) bp [.int .i64 x.t.id, .int .i64 x.t.st, .int .i64 x.t.snap, .int .i64 x.t.cs, .slice x.ra x.t.rs.length x.rc, .slice x.wa x.t.ws.length x.wc, .bool true, .string x.t.nm]) := BP.out.below hba
          replace TQ : Hid (TRow (vy.alloc (.cells #[.int .i64 y.t.id, .int .i64 y.t.st, .int .i64 y.t.snap, .int .i64 y.t.cs, .slice y.ra y.t.rs.length y.rc, .slice y.wa y.t.ws.length y.wc, .bool y.t.out, .string y.t.nm] 51)) y.t y.ra y.wa) := TQ.out.below hba
          have BQ : Hid (Bx (vy.alloc (.cells #[.int .i64 y.t.id, .int .i64 y.t.st, .int .i64 y.t.snap, .int .i64 y.t.cs, .slice y.ra y.t.rs.length y.rc, .slice y.wa y.t.ws.length y.wc, .bool y.t.out, .string y.t.nm] 51)) vy.heap.size [.int .i64 y.t.id, .int .i64 y.t.st, .int .i64 y.t.snap, .int .i64 y.t.cs, .slice y.ra y.t.rs.length y.rc, .slice y.wa y.t.ws.length y.wc, .bool y.t.out, .string y.t.nm]) := Bx.new vy [.int .i64 y.t.id, .int .i64 y.t.st, .int .i64 y.t.snap, .int .i64 y.t.cs, .slice y.ra y.t.rs.length y.rc, .slice y.wa y.t.ws.length y.wc, .bool y.t.out, .string y.t.nm] 51
          clear hba
          generalize (vy.alloc (.cells #[.int .i64 y.t.id, .int .i64 y.t.st, .int .i64 y.t.snap, .int .i64 y.t.cs, .slice y.ra y.t.rs.length y.rc, .slice y.wa y.t.ws.length y.wc, .bool y.t.out, .string y.t.nm] 51)) = v7 at *
          generalize vy.heap.size = bq at *
          have CYX : Hid (∀ W : World, TRow W y.t y.ra y.wa → TRow W x.t x.ra x.wa → _) := fun W h1 h2 => sahead y.t x.t y.ra y.wa y.rc y.wc x.ra x.wa x.rc x.wc (Nat.le_trans FYY.out.1 (by omega)) (Nat.le_trans FXX.out.2.2.1 (by omega)) W h1.r h2.w
          rw [hO.out] at CYX
          have y0 := BT.out.c0
          have y1 := BT.out.c1
          have y2 := BT.out.c2
          have y3 := BT.out.c3
          have y4 := BT.out.c4
          have y5 := BT.out.c5
          have y6 := BT.out.c6
          have y7 := BT.out.c7
          have x0 := BP.out.c0
          have x1 := BP.out.c1
          have x2 := BP.out.c2
          have x3 := BP.out.c3
          have x4 := BP.out.c4
          have x5 := BP.out.c5
          have x6 := BP.out.c6
          have x7 := BP.out.c7
          have z0 := BQ.out.c0
          have z1 := BQ.out.c1
          have z2 := BQ.out.c2
          have z3 := BQ.out.c3
          have z4 := BQ.out.c4
          have z5 := BQ.out.c5
          have z6 := BQ.out.c6
          have z7 := BQ.out.c7
          by_cases q2 : y.t.st = 2
          ·have q2b : (y.t.st == 2) = true := by simp [q2]
           by_cases q3 : y.t.id = t.id
           ·have HQi : Hid (qQ t x.t y.t = false) := by show _ = _; simp [qQ, q3]
            have q3b : (y.t.id != t.id) = false := by simp [q3]
            have q3d : decide (y.t.id = t.id) = true := by simp [q3]
            clear q2 q3
            go_wp2
            go_roundw
            case rel => exact ⟨j + 1, by omega, by go_num, HN2.out HQi.out, HBi⟩
            case measure => simp [intOf]; omega
           ·have q3b : (y.t.id != t.id) = true := by simp [q3]
            have EQ : Hid (qQ t x.t y.t = ahB y.t x.t) := by show _ = _; simp [qQ, readyB, q2, q3]
            clear q2
            cases hA : ahB y.t x.t
            ·have HQi : Hid (qQ t x.t y.t = false) := by show _ = _; rw [EQ.out, hA]
             rw [hA] at CYX
             clear hA
             go_wp2_with fail
             refine (CYX.out _ TQ.out TP.out).mono ?_
             rintro e v8 ⟨rfl, hb⟩
             replace HBi := hide (HBi.out.trans (hb.mono HBi.out.size))
             go_wp2
             go_roundw
             case rel => exact ⟨j + 1, by omega, by go_num, HN2.out HQi.out, HBi⟩
             case measure => simp [intOf]; omega
            ·have HQ : Hid (dQ t (txs xs) x.t = true) := HY2.out (by rw [EQ.out, hA])
             rw [hA] at CYX
             clear hA
             go_wp2_with fail
             refine (CYX.out _ TQ.out TP.out).mono ?_
             rintro e v8 ⟨rfl, hb⟩
             replace HB := hide (HB.out.trans (hb.mono HB.out.size))
             go_wp2
             go_ret
             exact ⟨ret_bool (HYes.out HQ.out).symm, HB0.out.trans ((HB.out).mono HB0.out.size)⟩
          ·have q2b : (y.t.st == 2) = false := by simp [q2]
           have HQi : Hid (qQ t x.t y.t = false) := by show _ = _; simp [qQ, readyB, q2]
           go_wp2
           go_roundw
           case rel => exact ⟨j + 1, by omega, by go_num, HN2.out HQi.out, HBi⟩
           case measure => simp [intOf]; omega
         ·have hjl' : ¬ (j : Int) < (n : Int) := by omega
          have hjd : decide (j < n) = false := decide_eq_false hjl
          have hje : decide ((j : Int) < (n : Int)) = false := decide_eq_false hjl'
          have HQ : Hid (dQ t (txs xs) x.t = false) := HSub.out (fun i hi hij => HNi.out i hi (by omega))
          go_wp2
          go_roundw
          case rel => exact ⟨k + 1, by omega, by go_num, HNo.out HQ.out, HB⟩
          case measure => simp [intOf]; omega
      ·have HQ : Hid (dQ t (txs xs) x.t = true) := by show _ = _; unfold dQ; simp [hR2.out, hO.out, hA1]
       rw [hA1] at CTX
       clear hA1
       go_wp2_with fail
       refine (CTX.out _ TT.out TP.out).mono ?_
       rintro e v2 ⟨rfl, hb⟩
       clear y0 y1 y2 y3 y4 y5 y6 y7 x0 x1 x2 x3 x4 x5 x6 x7
       replace HB : Hid (Below (w.alloc (.cells #[.int .i64 t.id, .int .i64 t.st, .int .i64 t.snap, .int .i64 t.cs, .slice ra t.rs.length rc, .slice wa t.ws.length wk, .bool t.out, .string t.nm] 51)).heap.size (w.alloc (.cells #[.int .i64 t.id, .int .i64 t.st, .int .i64 t.snap, .int .i64 t.cs, .slice ra t.rs.length rc, .slice wa t.ws.length wk, .bool t.out, .string t.nm] 51)) v2) := HB.out.trans (hb.mono HB.out.size)
       replace TT : Hid (TRow v2 t ra wa) := TT.out.below hb
       replace TP : Hid (TRow v2 x.t x.ra x.wa) := TP.out.below hb
       replace LL : Hid (TRows v2 (some ⟨b, o, none⟩) xs) := LL.out.below hb
       replace BT : Hid (Bx v2 w.heap.size [.int .i64 t.id, .int .i64 t.st, .int .i64 t.snap, .int .i64 t.cs, .slice ra t.rs.length rc, .slice wa t.ws.length wk, .bool t.out, .string t.nm]) := BT.out.below hb
       replace BP : Hid (Bx v2 bp [.int .i64 x.t.id, .int .i64 x.t.st, .int .i64 x.t.snap, .int .i64 x.t.cs, .slice x.ra x.t.rs.length x.rc, .slice x.wa x.t.ws.length x.wc, .bool true, .string x.t.nm]) := BP.out.below hb
       clear hb
       have y0 := BT.out.c0
       have y1 := BT.out.c1
       have y2 := BT.out.c2
       have y3 := BT.out.c3
       have y4 := BT.out.c4
       have y5 := BT.out.c5
       have y6 := BT.out.c6
       have y7 := BT.out.c7
       have x0 := BP.out.c0
       have x1 := BP.out.c1
       have x2 := BP.out.c2
       have x3 := BP.out.c3
       have x4 := BP.out.c4
       have x5 := BP.out.c5
       have x6 := BP.out.c6
       have x7 := BP.out.c7
       go_wp2
       go_ret
       exact ⟨ret_bool (HYes.out HQ.out).symm, HB0.out.trans ((HB.out).mono HB0.out.size)⟩
    ·have k2b : (x.t.st == 2) = false := by simp [k2]
     have hR2 : Hid (readyB x.t = false) := by show _ = _; simp [readyB, k2]
     by_cases k3 : x.t.st = 3
     ·have k3b : (x.t.st == 3) = true := by simp [k3]
      have hD : Hid (doneB x.t = true) := by show _ = _; simp [doneB, k3]
      clear k3
      cases ho : x.t.out
      ·have HQ : Hid (dQ t (txs xs) x.t = false) := by show _ = _; unfold dQ; simp [hR2.out, ho]
       rw [ho] at BP CTX CXT x6
       clear ho
       go_wp2
       go_loopw [7] (fun tj wr2 => ∃ j : Nat, j ≤ n ∧ tj = .int .i64 j ∧ Hid (Below v1.heap.size v1 wr2)) (fun tj _ => n - (intOf tj).toNat)
       case atStart => exact ⟨0, Nat.zero_le _, rfl, belowRefl _⟩
       case round =>
        obtain ⟨j, hj, rfl, HBi⟩ := hrel
        have hbi := HBi.out
        obtain ⟨vz, hvz⟩ : ∃ z, z = wr := ⟨_, rfl⟩
        subst hvz
        clear y0 y1 y2 y3 y4 y5 y6 y7 x0 x1 x2 x3 x4 x5 x6 x7
        replace HB : Hid (Below (w.alloc (.cells #[.int .i64 t.id, .int .i64 t.st, .int .i64 t.snap, .int .i64 t.cs, .slice ra t.rs.length rc, .slice wa t.ws.length wk, .bool t.out, .string t.nm] 51)).heap.size (w.alloc (.cells #[.int .i64 t.id, .int .i64 t.st, .int .i64 t.snap, .int .i64 t.cs, .slice ra t.rs.length rc, .slice wa t.ws.length wk, .bool t.out, .string t.nm] 51)) vz) := HB.out.trans (hbi.mono HB.out.size)
        replace TT : Hid (TRow vz t ra wa) := TT.out.below hbi
        replace TP : Hid (TRow vz x.t x.ra x.wa) := TP.out.below hbi
        replace LL : Hid (TRows vz (some ⟨b, o, none⟩) xs) := LL.out.below hbi
        replace BT : Hid (Bx vz w.heap.size [.int .i64 t.id, .int .i64 t.st, .int .i64 t.snap, .int .i64 t.cs, .slice ra t.rs.length rc, .slice wa t.ws.length wk, .bool t.out, .string t.nm]) := BT.out.below hbi
        replace BP : Hid (Bx vz bp [.int .i64 x.t.id, .int .i64 x.t.st, .int .i64 x.t.snap, .int .i64 x.t.cs, .slice x.ra x.t.rs.length x.rc, .slice x.wa x.t.ws.length x.wc, .bool false, .string x.t.nm]) := BP.out.below hbi
        clear hbi HBi
        have y0 := BT.out.c0
        have y1 := BT.out.c1
        have y2 := BT.out.c2
        have y3 := BT.out.c3
        have y4 := BT.out.c4
        have y5 := BT.out.c5
        have y6 := BT.out.c6
        have y7 := BT.out.c7
        have x0 := BP.out.c0
        have x1 := BP.out.c1
        have x2 := BP.out.c2
        have x3 := BP.out.c3
        have x4 := BP.out.c4
        have x5 := BP.out.c5
        have x6 := BP.out.c6
        have x7 := BP.out.c7
        by_cases hjl : j < n
        ·have hjl' : (j : Int) < (n : Int) := by omega
         have hjd : decide (j < n) = true := decide_eq_true hjl
         go_wp2
         go_roundw
         case rel => exact ⟨k + 1, by omega, by go_num, HNo.out HQ.out, HB⟩
         case measure => simp [intOf]; omega
        ·have hjl' : ¬ (j : Int) < (n : Int) := by omega
         have hjd : decide (j < n) = false := decide_eq_false hjl
         have hje : decide ((j : Int) < (n : Int)) = false := decide_eq_false hjl'
         go_wp2
         go_roundw
         case rel => exact ⟨k + 1, by omega, by go_num, HNo.out HQ.out, HB⟩
         case measure => simp [intOf]; omega
      ·have hO : Hid (x.t.out = true) := ho
       rw [ho] at BP CTX CXT x6
       clear ho
       cases hA1 : ahB t x.t
       ·have HQ : Hid (dQ t (txs xs) x.t = false) := by show _ = _; unfold dQ; simp [hR2.out, hA1]
        rw [hA1] at CTX
        clear hA1
        go_wp2_with fail
        refine (CTX.out _ TT.out TP.out).mono ?_
        rintro e v2 ⟨rfl, hb⟩
        clear y0 y1 y2 y3 y4 y5 y6 y7 x0 x1 x2 x3 x4 x5 x6 x7
        replace HB : Hid (Below (w.alloc (.cells #[.int .i64 t.id, .int .i64 t.st, .int .i64 t.snap, .int .i64 t.cs, .slice ra t.rs.length rc, .slice wa t.ws.length wk, .bool t.out, .string t.nm] 51)).heap.size (w.alloc (.cells #[.int .i64 t.id, .int .i64 t.st, .int .i64 t.snap, .int .i64 t.cs, .slice ra t.rs.length rc, .slice wa t.ws.length wk, .bool t.out, .string t.nm] 51)) v2) := HB.out.trans (hb.mono HB.out.size)
        replace TT : Hid (TRow v2 t ra wa) := TT.out.below hb
        replace TP : Hid (TRow v2 x.t x.ra x.wa) := TP.out.below hb
        replace LL : Hid (TRows v2 (some ⟨b, o, none⟩) xs) := LL.out.below hb
        replace BT : Hid (Bx v2 w.heap.size [.int .i64 t.id, .int .i64 t.st, .int .i64 t.snap, .int .i64 t.cs, .slice ra t.rs.length rc, .slice wa t.ws.length wk, .bool t.out, .string t.nm]) := BT.out.below hb
        replace BP : Hid (Bx v2 bp [.int .i64 x.t.id, .int .i64 x.t.st, .int .i64 x.t.snap, .int .i64 x.t.cs, .slice x.ra x.t.rs.length x.rc, .slice x.wa x.t.ws.length x.wc, .bool true, .string x.t.nm]) := BP.out.below hb
        clear hb
        have y0 := BT.out.c0
        have y1 := BT.out.c1
        have y2 := BT.out.c2
        have y3 := BT.out.c3
        have y4 := BT.out.c4
        have y5 := BT.out.c5
        have y6 := BT.out.c6
        have y7 := BT.out.c7
        have x0 := BP.out.c0
        have x1 := BP.out.c1
        have x2 := BP.out.c2
        have x3 := BP.out.c3
        have x4 := BP.out.c4
        have x5 := BP.out.c5
        have x6 := BP.out.c6
        have x7 := BP.out.c7
        go_wp2
        go_loopw [7] (fun tj wr2 => ∃ j : Nat, j ≤ n ∧ tj = .int .i64 j ∧ Hid (Below v2.heap.size v2 wr2)) (fun tj _ => n - (intOf tj).toNat)
        case atStart => exact ⟨0, Nat.zero_le _, rfl, belowRefl _⟩
        case round =>
         obtain ⟨j, hj, rfl, HBi⟩ := hrel
         have hbi := HBi.out
         obtain ⟨vz, hvz⟩ : ∃ z, z = wr := ⟨_, rfl⟩
         subst hvz
         clear y0 y1 y2 y3 y4 y5 y6 y7 x0 x1 x2 x3 x4 x5 x6 x7
         replace HB : Hid (Below (w.alloc (.cells #[.int .i64 t.id, .int .i64 t.st, .int .i64 t.snap, .int .i64 t.cs, .slice ra t.rs.length rc, .slice wa t.ws.length wk, .bool t.out, .string t.nm] 51)).heap.size (w.alloc (.cells #[.int .i64 t.id, .int .i64 t.st, .int .i64 t.snap, .int .i64 t.cs, .slice ra t.rs.length rc, .slice wa t.ws.length wk, .bool t.out, .string t.nm] 51)) vz) := HB.out.trans (hbi.mono HB.out.size)
         replace TT : Hid (TRow vz t ra wa) := TT.out.below hbi
         replace TP : Hid (TRow vz x.t x.ra x.wa) := TP.out.below hbi
         replace LL : Hid (TRows vz (some ⟨b, o, none⟩) xs) := LL.out.below hbi
         replace BT : Hid (Bx vz w.heap.size [.int .i64 t.id, .int .i64 t.st, .int .i64 t.snap, .int .i64 t.cs, .slice ra t.rs.length rc, .slice wa t.ws.length wk, .bool t.out, .string t.nm]) := BT.out.below hbi
         replace BP : Hid (Bx vz bp [.int .i64 x.t.id, .int .i64 x.t.st, .int .i64 x.t.snap, .int .i64 x.t.cs, .slice x.ra x.t.rs.length x.rc, .slice x.wa x.t.ws.length x.wc, .bool true, .string x.t.nm]) := BP.out.below hbi
         clear hbi HBi
         have y0 := BT.out.c0
         have y1 := BT.out.c1
         have y2 := BT.out.c2
         have y3 := BT.out.c3
         have y4 := BT.out.c4
         have y5 := BT.out.c5
         have y6 := BT.out.c6
         have y7 := BT.out.c7
         have x0 := BP.out.c0
         have x1 := BP.out.c1
         have x2 := BP.out.c2
         have x3 := BP.out.c3
         have x4 := BP.out.c4
         have x5 := BP.out.c5
         have x6 := BP.out.c6
         have x7 := BP.out.c7
         by_cases hjl : j < n
         ·have hjl' : (j : Int) < (n : Int) := by omega
          have hjd : decide (j < n) = true := decide_eq_true hjl
          go_wp2
          go_roundw
          case rel => exact ⟨k + 1, by omega, by go_num, HNo.out HQ.out, HB⟩
          case measure => simp [intOf]; omega
         ·have hjl' : ¬ (j : Int) < (n : Int) := by omega
          have hjd : decide (j < n) = false := decide_eq_false hjl
          have hje : decide ((j : Int) < (n : Int)) = false := decide_eq_false hjl'
          go_wp2
          go_roundw
          case rel => exact ⟨k + 1, by omega, by go_num, HNo.out HQ.out, HB⟩
          case measure => simp [intOf]; omega
       ·have HQ : Hid (dQ t (txs xs) x.t = true) := by show _ = _; unfold dQ; simp [hD.out, hO.out, hA1]
        rw [hA1] at CTX
        clear hA1
        go_wp2_with fail
        refine (CTX.out _ TT.out TP.out).mono ?_
        rintro e v2 ⟨rfl, hb⟩
        clear y0 y1 y2 y3 y4 y5 y6 y7 x0 x1 x2 x3 x4 x5 x6 x7
        replace HB : Hid (Below (w.alloc (.cells #[.int .i64 t.id, .int .i64 t.st, .int .i64 t.snap, .int .i64 t.cs, .slice ra t.rs.length rc, .slice wa t.ws.length wk, .bool t.out, .string t.nm] 51)).heap.size (w.alloc (.cells #[.int .i64 t.id, .int .i64 t.st, .int .i64 t.snap, .int .i64 t.cs, .slice ra t.rs.length rc, .slice wa t.ws.length wk, .bool t.out, .string t.nm] 51)) v2) := HB.out.trans (hb.mono HB.out.size)
        replace TT : Hid (TRow v2 t ra wa) := TT.out.below hb
        replace TP : Hid (TRow v2 x.t x.ra x.wa) := TP.out.below hb
        replace LL : Hid (TRows v2 (some ⟨b, o, none⟩) xs) := LL.out.below hb
        replace BT : Hid (Bx v2 w.heap.size [.int .i64 t.id, .int .i64 t.st, .int .i64 t.snap, .int .i64 t.cs, .slice ra t.rs.length rc, .slice wa t.ws.length wk, .bool t.out, .string t.nm]) := BT.out.below hb
        replace BP : Hid (Bx v2 bp [.int .i64 x.t.id, .int .i64 x.t.st, .int .i64 x.t.snap, .int .i64 x.t.cs, .slice x.ra x.t.rs.length x.rc, .slice x.wa x.t.ws.length x.wc, .bool true, .string x.t.nm]) := BP.out.below hb
        clear hb
        have y0 := BT.out.c0
        have y1 := BT.out.c1
        have y2 := BT.out.c2
        have y3 := BT.out.c3
        have y4 := BT.out.c4
        have y5 := BT.out.c5
        have y6 := BT.out.c6
        have y7 := BT.out.c7
        have x0 := BP.out.c0
        have x1 := BP.out.c1
        have x2 := BP.out.c2
        have x3 := BP.out.c3
        have x4 := BP.out.c4
        have x5 := BP.out.c5
        have x6 := BP.out.c6
        have x7 := BP.out.c7
        go_wp2
        go_ret
        exact ⟨ret_bool (HYes.out HQ.out).symm, HB0.out.trans ((HB.out).mono HB0.out.size)⟩
     ·have k3b : (x.t.st == 3) = false := by simp [k3]
      have HQ : Hid (dQ t (txs xs) x.t = false) := by show _ = _; unfold dQ; simp [hR2.out, doneB, k3]
      go_wp2
      go_loopw [7] (fun tj wr2 => ∃ j : Nat, j ≤ n ∧ tj = .int .i64 j ∧ Hid (Below v1.heap.size v1 wr2)) (fun tj _ => n - (intOf tj).toNat)
      case atStart => exact ⟨0, Nat.zero_le _, rfl, belowRefl _⟩
      case round =>
       obtain ⟨j, hj, rfl, HBi⟩ := hrel
       have hbi := HBi.out
       obtain ⟨vz, hvz⟩ : ∃ z, z = wr := ⟨_, rfl⟩
       subst hvz
       clear y0 y1 y2 y3 y4 y5 y6 y7 x0 x1 x2 x3 x4 x5 x6 x7
       replace HB : Hid (Below (w.alloc (.cells #[.int .i64 t.id, .int .i64 t.st, .int .i64 t.snap, .int .i64 t.cs, .slice ra t.rs.length rc, .slice wa t.ws.length wk, .bool t.out, .string t.nm] 51)).heap.size (w.alloc (.cells #[.int .i64 t.id, .int .i64 t.st, .int .i64 t.snap, .int .i64 t.cs, .slice ra t.rs.length rc, .slice wa t.ws.length wk, .bool t.out, .string t.nm] 51)) vz) := HB.out.trans (hbi.mono HB.out.size)
       replace TT : Hid (TRow vz t ra wa) := TT.out.below hbi
       replace TP : Hid (TRow vz x.t x.ra x.wa) := TP.out.below hbi
       replace LL : Hid (TRows vz (some ⟨b, o, none⟩) xs) := LL.out.below hbi
       replace BT : Hid (Bx vz w.heap.size [.int .i64 t.id, .int .i64 t.st, .int .i64 t.snap, .int .i64 t.cs, .slice ra t.rs.length rc, .slice wa t.ws.length wk, .bool t.out, .string t.nm]) := BT.out.below hbi
       replace BP : Hid (Bx vz bp [.int .i64 x.t.id, .int .i64 x.t.st, .int .i64 x.t.snap, .int .i64 x.t.cs, .slice x.ra x.t.rs.length x.rc, .slice x.wa x.t.ws.length x.wc, .bool x.t.out, .string x.t.nm]) := BP.out.below hbi
       clear hbi HBi
       have y0 := BT.out.c0
       have y1 := BT.out.c1
       have y2 := BT.out.c2
       have y3 := BT.out.c3
       have y4 := BT.out.c4
       have y5 := BT.out.c5
       have y6 := BT.out.c6
       have y7 := BT.out.c7
       have x0 := BP.out.c0
       have x1 := BP.out.c1
       have x2 := BP.out.c2
       have x3 := BP.out.c3
       have x4 := BP.out.c4
       have x5 := BP.out.c5
       have x6 := BP.out.c6
       have x7 := BP.out.c7
       by_cases hjl : j < n
       ·have hjl' : (j : Int) < (n : Int) := by omega
        have hjd : decide (j < n) = true := decide_eq_true hjl
        go_wp2
        go_roundw
        case rel => exact ⟨k + 1, by omega, by go_num, HNo.out HQ.out, HB⟩
        case measure => simp [intOf]; omega
       ·have hjl' : ¬ (j : Int) < (n : Int) := by omega
        have hjd : decide (j < n) = false := decide_eq_false hjl
        have hje : decide ((j : Int) < (n : Int)) = false := decide_eq_false hjl'
        go_wp2
        go_roundw
        case rel => exact ⟨k + 1, by omega, by go_num, HNo.out HQ.out, HB⟩
        case measure => simp [intOf]; omega
   ·have hd : ¬ (k : Int) < (n : Int) := by omega
    have HR : Hid ((dangerB t (txs xs)) = false) := by
     have h := any_none HN.out (by rw [← HX.out]; omega)
     show dangerB t (txs xs) = false; unfold dangerB; rw [h, HIO.out]; rfl
    go_wp2
    go_ret
    exact ⟨ret_bool HR.out.symm, HB0.out.trans ((HB.out).mono HB0.out.size)⟩
 ·have HR : Hid (dangerB t (txs xs) = true) := by show _ = _; unfold dangerB; rw [hio]; rfl
  go_wp2
  go_ret
  exact ⟨ret_bool HR.out.symm, HB0.out.trans ((HB.out).mono HB0.out.size)⟩

end Go.Proofs.Ytjeicgibddfifaa

/- The law FnSerials, walked. -/
import Derived.Test.YtbajpnbodhhmjaaGreatPs01
import Derived.Test.YtbajpnbodhhmjaaGreatPs34
import Derived.Test.YtbajpnbodhhmjaaGreatPs09
import Derived.Deep.RegionHeld3
namespace Go.Proofs.YtbajpnbodhhmjaaGreat
open Go.RowKit
open KM
open VM
attribute [local go_sem ↓] Go.wp_at_zero Go.wp_at_succ

def rnA (i : Nat) (y : Ta) : Ta := ⟨rnT i y.t, y.ra, y.rc, y.wa, y.wc⟩
def zsOf (ys : List Ta) : List Ta := ys.mapIdx rnA
theorem zs_len (ys : List Ta) : (zsOf ys).length = ys.length := by simp [zsOf]
theorem zs_txs (ys : List Ta) : txs (zsOf ys) = rn (txs ys) := by
 refine List.ext_getElem (by simp [txs, zsOf, rn]) (fun i h1 h2 => ?_)
 simp [txs, zsOf, rn, rnA]
theorem zs_next (ys : List Ta) (k : Nat) (hk : k < ys.length) : zsOf (ys.take (k + 1)) = zsOf (ys.take k) ++ [rnA k ys[k]] := by
 unfold zsOf
 rw [List.take_succ_eq_append_getElem hk, List.mapIdx_append]
 simp [List.length_take, Nat.min_eq_left (Nat.le_of_lt hk)]
theorem zs_play (ys : List Ta) (k : Nat) (hk : k < ys.length) : playL (txs (zsOf (ys.take (k + 1)))) = playB (playL (txs (zsOf (ys.take k)))) (rnA k ys[k]).t.ws := by
 rw [zs_next ys k hk]
 unfold txs
 rw [List.map_append]
 exact playL_snoc _ _
theorem zs_rows {w : World} {ys : List Ta} (h : ∀ y ∈ ys, TRow w y.t y.ra y.wa) : ∀ z ∈ zsOf ys, TRow w z.t z.ra z.wa := fun z hz => by
 obtain ⟨i, hi, rfl⟩ := List.mem_iff_getElem.1 hz
 have hi2 : i < ys.length := by rw [zs_len] at hi; exact hi
 have h2 := h _ (List.getElem_mem hi2)
 have e : (zsOf ys)[i] = rnA i ys[i] := by simp [zsOf]
 rw [e]
 exact ⟨h2.r, h2.w⟩

set_option maxRecDepth 100000 in
set_option maxHeartbeats 8000000 in
theorem law3 (len cap : Nat) (a : Option Addr) (w : World) (hl0 : len ≤ 9223372036854775807) (hr : CodeRow w a len) :
  Calls Tryz.prog 3 #[.slice a len cap] w fun e w' => e = .returned (.bool true) ∧ Below w.heap.size w w' := by
 have HBG : Hid (∀ W : World, Calls Tryz.prog 4 #[.slice a len cap] W fun e w' => e = .returned (.bool (decide ((1048576 : Int) < (len : Int)))) ∧ w' = W) := fun W => big10 len cap a W
 have HR : Hid (CodeRow w a len) := hr
 clear hr
 by_cases hl : len ≤ 1048576
 ·rw [decide_eq_false (by omega)] at HBG
  go_enter Tryz.func3, Tryz.ntmps3
  go_wp2_with fail
  refine (HBG.out _).mono ?_
  rintro e w ⟨rfl, rfl⟩
  go_wp2_with fail
  refine (dDones len cap a hl _ HR.out).mono ?_
  rintro e w1 ⟨ys, cs, la, lc, hd, hyl, hcs, rfl, ho, hb1⟩
  have HD := hide hd
  have HB1 := hide hb1
  have HL : Hid (TRows w1 la ys) := ho.rows
  clear hd ho hb1
  obtain ⟨n, hn⟩ : ∃ n, n = ys.length := ⟨_, rfl⟩
  have HN : Hid (n = ys.length) := hn
  have hn5 : n ≤ 5 := by omega
  rw [← hn]
  clear hn hyl
  have WA1 : Hid (GOwn encT 30 ((w1.alloc (.cells #[] 30)).alloc (.cells #[] 62)) w1.heap.size (.slice (some ⟨w1.heap.size, 0, none⟩) 0 0) []) := (GOwn.empty w1 w1.heap.size (Nat.le_refl _)).alloc _
  have WM1 : Hid (GOwn encR 62 ((w1.alloc (.cells #[] 30)).alloc (.cells #[] 62)) w1.heap.size (.slice (some ⟨w1.heap.size + 1, 0, none⟩) 0 0) []) := by
   have h := GOwn.empty (E := encR) (e := 62) (w1.alloc (.cells #[] 30)) w1.heap.size (by simp)
   simpa [Hid] using h
  have HBa : Hid (Below w1.heap.size w1 ((w1.alloc (.cells #[] 30)).alloc (.cells #[] 62))) := ((belowRefl w1).alloc (Nat.le_refl _) _).alloc (by simp) _
  go_upto_region 6 with fail
  generalize ((w1.alloc (.cells #[] 30)).alloc (.cells #[] 62)) = w1a at *
  go_wp2
  go_loopw [4, 5, 6] (fun sv mv iv wr => ∃ k : Nat, k ≤ n ∧ iv = .int .i64 k ∧ Hid (GOwn encT 30 wr w1.heap.size sv (zsOf (ys.take k))) ∧ Hid (GOwn encR 62 wr w1.heap.size mv (playL (txs (zsOf (ys.take k))))) ∧ Hid (Below w1.heap.size w1 wr)) (fun _ _ iv _ => n - (intOf iv).toNat)
  case atStart => exact ⟨0, Nat.zero_le _, rfl, WA1, WM1, HBa⟩
  case round =>
   clear WA1 WM1 HBa
   obtain ⟨k, hk, rfl, HOs, HOm, HB⟩ := hrel
   obtain ⟨vo, hvo⟩ : ∃ z, z = wr := ⟨_, rfl⟩
   subst hvo
   by_cases hlt : k < n
   ·have hlt' : (k : Int) < (n : Int) := by omega
    have hk0 : (0 : Int) ≤ (k : Int) := by omega
    have hky : k < ys.length := by rw [← HN.out]; exact hlt
    have hkt : k < (txs ys).length := by rw [txs_len]; exact hky
    obtain ⟨b, off, rfl, hbl, hc, -⟩ := (HL.out.below HB.out).cls k hky
    have hrow : TRow w1 ys[k].t ys[k].ra ys[k].wa := HL.out.each _ (List.getElem_mem hky)
    have HDk := hide (HD.out.each _ (List.getElem_mem hkt)).1
    have HNX := hide (zs_next ys k hky)
    have HPX := hide (zs_play ys k hky)
    obtain ⟨y, hy⟩ : ∃ y, y = ys[k] := ⟨_, rfl⟩
    have hyt : (txs ys)[k] = y.t := by rw [hy]; simp [txs]
    rw [hyt] at HDk
    rw [← hy] at hc hrow HNX HPX
    have HRow := hide hrow
    have hpl : (playL (txs (zsOf (ys.take k)))).length ≤ 15 := by
     rw [zs_txs]
     have h1 := rn_len (txs (ys.take k))
     have h2 : (txs (ys.take k)).length ≤ 5 := by rw [txs_len, List.length_take]; omega
     refine Nat.le_trans (playL_len _ (fun t ht => ?_)) (by omega : 3 * (rn (txs (ys.take k))).length ≤ 15)
     have hd9 : DonesD (txs (ys.take k)) cs := by have h := HD.out.take k; unfold txs at h ⊢; rw [List.map_take]; exact h
     exact ((rn_dones hd9).each t ht).1.wl
    have HPF : Hid (RFit (playL (txs (zsOf (ys.take k))))) := by
     show RFit _
     rw [zs_txs]
     have hd9 : DonesD (txs (ys.take k)) cs := by have h := HD.out.take k; unfold txs at h ⊢; rw [List.map_take]; exact h
     exact playL_fit _ (fun t ht => ((rn_dones hd9).each t ht).1.ws.fit)
    have HPA : Hid (AscC (playL (txs (zsOf (ys.take k))))) := playL_asc _
    have hzl : (zsOf (ys.take k)).length ≤ 5 := by rw [zs_len, List.length_take]; omega
    obtain ⟨F, hF⟩ : ∃ F, F = playL (txs (zsOf (ys.take k))) := ⟨_, rfl⟩
    rw [← hF] at HOm HPX hpl HPF HPA
    obtain ⟨zs, hzs⟩ : ∃ zs, zs = zsOf (ys.take k) := ⟨_, rfl⟩
    rw [← hzs] at HOs HNX hzl
    clear hF hzs hy hyt hkt hky hrow
    obtain ⟨sa, sc, rfl, _⟩ := HOs.out.row
    obtain ⟨ma, mc, rfl, _⟩ := HOm.out.row
    obtain ⟨M, hM⟩ : ∃ M, M = F.length := ⟨_, rfl⟩
    rw [← hM] at HOm hpl ⊢
    have HM : Hid (M = F.length) := hM
    obtain ⟨L, hL⟩ : ∃ L, L = zs.length := ⟨_, rfl⟩
    rw [← hL] at HOs hzl ⊢
    have HLz : Hid (L = zs.length) := hL
    clear hM hL
    have r0 := hc.c0
    have r1 := hc.c1
    have r2 := hc.c2
    have r3 := hc.c3
    have r4 := hc.c4
    have r5 := hc.c5
    have r6 := hc.c6
    have r7 := hc.c7
    clear hc
    have X1 : Hid (Bx (vo.alloc (.cells #[.int .i64 y.t.id, .int .i64 y.t.st, .int .i64 y.t.snap, .int .i64 y.t.cs, .slice y.ra y.t.rs.length y.rc, .slice y.wa y.t.ws.length y.wc, .bool y.t.out, .string y.t.nm] 30)) vo.heap.size [.int .i64 y.t.id, .int .i64 y.t.st, .int .i64 y.t.snap, .int .i64 y.t.cs, .slice y.ra y.t.rs.length y.rc, .slice y.wa y.t.ws.length y.wc, .bool y.t.out, .string y.t.nm]) := Bx.new vo [.int .i64 y.t.id, .int .i64 y.t.st, .int .i64 y.t.snap, .int .i64 y.t.cs, .slice y.ra y.t.rs.length y.rc, .slice y.wa y.t.ws.length y.wc, .bool y.t.out, .string y.t.nm] 30
    have HBv : Hid (Below vo.heap.size vo (vo.alloc (.cells #[.int .i64 y.t.id, .int .i64 y.t.st, .int .i64 y.t.snap, .int .i64 y.t.cs, .slice y.ra y.t.rs.length y.rc, .slice y.wa y.t.ws.length y.wc, .bool y.t.out, .string y.t.nm] 30))) := (belowRefl vo).alloc (Nat.le_refl _) _
    go_upto_region 10 with fail
    clear r0 r1 r2 r3 r4 r5 r6 r7 hbl
    generalize (vo.alloc (.cells #[.int .i64 y.t.id, .int .i64 y.t.st, .int .i64 y.t.snap, .int .i64 y.t.cs, .slice y.ra y.t.rs.length y.rc, .slice y.wa y.t.ws.length y.wc, .bool y.t.out, .string y.t.nm] 30)) = v1 at *
    have y2 := X1.out.c2
    have f2 := X1.out.fz 2
    have X2 := hide (X1.out.set 2 (.int .i64 (k : Int)))
    have HBv2 : Hid (Below vo.heap.size vo (v1.setCell ⟨vo.heap.size, 2, none⟩ (.int .i64 (k : Int)))) := HBv.out.setCell (Nat.le_refl _) _
    go_upto_region 11 with fail
    clear y2 f2 X1 HBv
    generalize (v1.setCell ⟨vo.heap.size, 2, none⟩ (.int .i64 (k : Int))) = v2 at *
    have y3 := X2.out.c3
    have f3 := X2.out.fz 3
    have ew : IntKind.i64.wrap ((k : Int) + 1) = (k : Int) + 1 := by rw [IntKind.wrap_i64]; omega
    have X3 := hide (X2.out.set 3 (.int .i64 ((k : Int) + 1)))
    have HBv3 : Hid (Below vo.heap.size vo (v2.setCell ⟨vo.heap.size, 3, none⟩ (.int .i64 ((k : Int) + 1)))) := HBv2.out.setCell (Nat.le_refl _) _
    go_upto_region 12 with fail
    clear y3 f3 X2 HBv2 ew
    generalize (v2.setCell ⟨vo.heap.size, 3, none⟩ (.int .i64 ((k : Int) + 1))) = v3 at *
    obtain ⟨z, hz⟩ : ∃ z, z = rnA k y := ⟨_, rfl⟩
    rw [← hz] at HNX HPX
    have X4 : Hid (Bx v3 vo.heap.size [.int .i64 z.t.id, .int .i64 z.t.st, .int .i64 z.t.snap, .int .i64 z.t.cs, .slice z.ra z.t.rs.length z.rc, .slice z.wa z.t.ws.length z.wc, .bool z.t.out, .string z.t.nm]) := by rw [hz]; exact X3.out
    have HDz : Hid (z.t.ws.length ≤ 3 ∧ WFit z.t.ws) := by rw [hz]; exact ⟨HDk.out.wl, HDk.out.ws.fit⟩
    have HRz : Hid (TRow w1 z.t z.ra z.wa) := by rw [hz]; exact ⟨HRow.out.r, HRow.out.w⟩
    clear hz X3 HRow HDk
    have y0 := X4.out.c0
    have y1 := X4.out.c1
    have y2 := X4.out.c2
    have y3 := X4.out.c3
    have y4 := X4.out.c4
    have y5 := X4.out.c5
    have y6 := X4.out.c6
    have y7 := X4.out.c7
    have OS3 : Hid (GOwn encT 30 v3 w1.heap.size (.slice sa L sc) zs) := HOs.out.below HBv3.out
    have OM3 : Hid (GOwn encR 62 v3 w1.heap.size (.slice ma M mc) F) := HOm.out.below HBv3.out
    have hs3 : w1.heap.size ≤ v3.heap.size := Nat.le_trans HB.out.size HBv3.out.size
    have hvs : w1.heap.size ≤ vo.heap.size := HB.out.size
    have HBK : Hid ((v3.alloc (.cells #[.int .i64 z.t.id, .int .i64 z.t.st, .int .i64 z.t.snap, .int .i64 z.t.cs, .slice z.ra z.t.rs.length z.rc, .slice z.wa z.t.ws.length z.wc, .bool z.t.out, .string z.t.nm] 30)).heap[v3.heap.size]? = some (.cells (encT.enc z).toArray 30 (0, 0))) := heap_alloc_new v3 _
    have OS4 := hide (OS3.out.alloc (.cells #[.int .i64 z.t.id, .int .i64 z.t.st, .int .i64 z.t.snap, .int .i64 z.t.cs, .slice z.ra z.t.rs.length z.rc, .slice z.wa z.t.ws.length z.wc, .bool z.t.out, .string z.t.nm] 30))
    have OM4 := hide (OM3.out.alloc (.cells #[.int .i64 z.t.id, .int .i64 z.t.st, .int .i64 z.t.snap, .int .i64 z.t.cs, .slice z.ra z.t.rs.length z.rc, .slice z.wa z.t.ws.length z.wc, .bool z.t.out, .string z.t.nm] 30))
    have X5 := hide (X4.out.alloc (.cells #[.int .i64 z.t.id, .int .i64 z.t.st, .int .i64 z.t.snap, .int .i64 z.t.cs, .slice z.ra z.t.rs.length z.rc, .slice z.wa z.t.ws.length z.wc, .bool z.t.out, .string z.t.nm] 30))
    have HB5 : Hid (Below w1.heap.size w1 (v3.alloc (.cells #[.int .i64 z.t.id, .int .i64 z.t.st, .int .i64 z.t.snap, .int .i64 z.t.cs, .slice z.ra z.t.rs.length z.rc, .slice z.wa z.t.ws.length z.wc, .bool z.t.out, .string z.t.nm] 30))) := (HB.out.trans (HBv3.out.mono HB.out.size)).alloc hs3 _
    have HV5 : Hid (Below vo.heap.size vo (v3.alloc (.cells #[.int .i64 z.t.id, .int .i64 z.t.st, .int .i64 z.t.snap, .int .i64 z.t.cs, .slice z.ra z.t.rs.length z.rc, .slice z.wa z.t.ws.length z.wc, .bool z.t.out, .string z.t.nm] 30))) := HBv3.out.alloc HBv3.out.size _
    have hs5 : w1.heap.size ≤ (v3.alloc (.cells #[.int .i64 z.t.id, .int .i64 z.t.st, .int .i64 z.t.snap, .int .i64 z.t.cs, .slice z.ra z.t.rs.length z.rc, .slice z.wa z.t.ws.length z.wc, .bool z.t.out, .string z.t.nm] 30)).heap.size := by rw [World.size_alloc]; omega
    have hzl9 : zs.length ≤ 100000000 := by have := HLz.out; omega
    have HAw : Hid (∀ e, (Value.slice sa zs.length sc).ownBlock = some e → e < vo.heap.size) := by
     have h1 := HOs.out
     rw [HLz.out] at h1
     exact fun e h => (World.ownsRow.lt h1 e h).2
    clear HOs HOm OS3 OM3
    have OS4' : Hid (GOwn encT 30 (v3.alloc (.cells #[.int .i64 z.t.id, .int .i64 z.t.st, .int .i64 z.t.snap, .int .i64 z.t.cs, .slice z.ra z.t.rs.length z.rc, .slice z.wa z.t.ws.length z.wc, .bool z.t.out, .string z.t.nm] 30)) w1.heap.size (.slice sa zs.length sc) zs) := by show GOwn _ _ _ _ _ _; rw [← HLz.out]; exact OS4.out
    clear OS4
    go_wp2_with (at_builtin; rw [HLz.out]; refine wpAppK (E := encT) 24 30 104 _ Tryz.underlying24 Tryz.info30 rfl (by omega) rfl _ _ rfl (base := w1.heap.size) (v := .slice sa zs.length sc) (xs := zs) z tone rfl OS4'.out rfl HBK.out hzl9 hs5 ?_)
    intro g2 c2 w6 ho hg hgo hgl
    have X6 : Hid (Bx w6 vo.heap.size [.int .i64 z.t.id, .int .i64 z.t.st, .int .i64 z.t.snap, .int .i64 z.t.cs, .slice z.ra z.t.rs.length z.rc, .slice z.wa z.t.ws.length z.wc, .bool z.t.out, .string z.t.nm]) := bx_marked X5.out hg (fun e => by have := HAw.out _ e; omega)
    have OM6 : Hid (GOwn encR 62 w6 w1.heap.size (.slice ma M mc) F) := own_grown OM4.out hg (own_apart OM4.out OS4'.out (by decide))
    have HB6 : Hid (Below w1.heap.size w1 w6) := HB5.out.trans ((Below.refl _ _).grown hg hs5 (fun j hj => (World.ownsRow.lt OS4'.out j hj).1))
    have O6 : Hid (GOwn encT 30 w6 w1.heap.size (.slice (some ⟨g2, 0, none⟩) (zs.length + 1) c2) (zsOf (ys.take (k + 1)))) := by
     show GOwn _ _ _ _ _ _
     rw [HNX.out]; exact ho
    have HZ6 : Hid (zs.length + 1 ≤ 6) := by show _ ≤ _; have := HLz.out; omega
    obtain ⟨L6, hL6⟩ : ∃ L6, L6 = zs.length + 1 := ⟨_, rfl⟩
    rw [← hL6] at O6 ⊢
    clear hL6 ho hg hgo hgl OS4' OM4 HBK HNX X5 y0 y1 y2 y3 y4 y5 y6 y7 X4 hs5
    have x0 := X6.out.c0
    have x1 := X6.out.c1
    have x2 := X6.out.c2
    have x3 := X6.out.c3
    have x4 := X6.out.c4
    have x5 := X6.out.c5
    have x6 := X6.out.c6
    have x7 := X6.out.c7
    have R6 : Hid (GRow encR w6 ma F) := by have h := OM6.out; rw [HM.out] at h; exact h.grow
    go_wp2_with fail
    refine (iplay F ma mc M z.t z.ra z.wa z.rc z.wc HM.out (by omega) (by have := HDz.out.1; omega) HPF.out HDz.out.2 HPA.out _ R6.out (HRz.out.below HB6.out).w).mono ?_
    rintro e w7 ⟨a7, c7, L7, rfl, hL7, ho7, hb7⟩
    have O7 : Hid (GOwn encT 30 w7 w1.heap.size (.slice (some ⟨g2, 0, none⟩) L6 c2) (zsOf (ys.take (k + 1)))) := O6.out.below hb7
    have M7 : Hid (GOwn encR 62 w7 w1.heap.size (.slice a7 L7 c7) (playL (txs (zsOf (ys.take (k + 1)))))) := by
     show GOwn _ _ _ _ _ _
     rw [HPX.out]
     exact ho7.mono HB6.out.size
    have HB7 : Hid (Below w1.heap.size w1 w7) := HB6.out.trans (hb7.mono HB6.out.size)
    clear hL7 ho7 hb7 x0 x1 x2 x3 x4 x5 x6 x7
    go_wp2
    go_roundw
    case rel => exact ⟨k + 1, by omega, by go_num, O7, M7, HB7⟩
    case measure => simp [intOf]; omega
   ·have hlt' : ¬ (k : Int) < (n : Int) := by omega
    have hkk : ys.take k = ys := List.take_of_length_le (by have := HN.out; omega)
    have hos := HOs.out
    have hom := HOm.out
    rw [hkk] at hos hom
    obtain ⟨sa, sc, rfl, hgs⟩ := hos.row
    obtain ⟨ma, mc, rfl, hgm⟩ := hom.row
    have HDz : Hid (DonesD (txs (zsOf ys)) n) := by
     have h := rn_dones HD.out
     rw [txs_len, ← HN.out] at h
     show DonesD _ _
     rw [zs_txs]; exact h
    have HZE : Hid (serB (txs (zsOf ys)) = some (List.range n)) := by
     have h := rn_order HD.out
     rw [txs_len, ← HN.out] at h
     show _ = _
     rw [zs_txs]; exact h
    have HVW : Hid (viewB (playL (txs (zsOf ys))) allR = scanB (allV (txs (zsOf ys))) allR (n : Int)) := by
     have h := rn_view HD.out (by rw [txs_len, ← HN.out]; omega) allR
     rw [txs_len, ← HN.out] at h
     show _ = _
     rw [zs_txs]; exact h
    have HZL : Hid (n = (zsOf ys).length) := by show _ = _; rw [zs_len]; exact HN.out
    have ZR : Hid (TRows vo sa (zsOf ys)) := ⟨hgs, zs_rows (fun y hy => (HL.out.below HB.out).each y hy)⟩
    have YR : Hid (TRows vo la ys) := HL.out.below HB.out
    have RM : Hid (GRow encR vo ma (playL (txs (zsOf ys)))) := hgm
    have HBw : Hid (Below w.heap.size w vo) := HB1.out.trans (HB.out.mono HB1.out.size)
    have HFF : Hid (RFit (playL (txs (zsOf ys)))) := playL_fit _ (fun t ht => (HDz.out.each t ht).1.ws.fit)
    have hfl : (playL (txs (zsOf ys))).length ≤ 15 := Nat.le_trans (playL_len _ (fun t ht => (HDz.out.each t ht).1.wl)) (by rw [txs_len, zs_len, ← HN.out]; omega)
    have hvl : (allV (txs (zsOf ys))).length ≤ 15 := Nat.le_trans (allV_len _ (fun u hu => (HDz.out.each u hu).1.wl)) (by rw [txs_len, zs_len, ← HN.out]; omega)
    obtain ⟨zs, hzs⟩ : ∃ zs, zs = zsOf ys := ⟨_, rfl⟩
    rw [← hzs] at HDz HZE HVW HZL ZR RM HFF hfl hvl ⊢
    clear hzs hkk hos hom hgs hgm HOs HOm HB HL
    obtain ⟨F, hF⟩ : ∃ F, F = playL (txs zs) := ⟨_, rfl⟩
    rw [← hF] at HVW RM HFF hfl ⊢
    clear hF
    obtain ⟨M, hM⟩ : ∃ M, M = F.length := ⟨_, rfl⟩
    rw [← hM] at hfl ⊢
    have HM : Hid (M = F.length) := hM
    clear hM
    rw [← HZL.out]
    go_wp2_with fail
    refine (dPlay len cap a hl _ (HR.out.below HBw.out)).mono ?_
    rintro e w2 ⟨ms1, pa, pc, px, hA1, hF1, hl1, hT1, rfl, hO1, hX1, hb⟩
    have HA1 := hide hA1
    have HF1 := hide hF1
    have HT1 := hide hT1
    have hsp := hb.size
    replace HBw : Hid (Below w.heap.size w w2) := HBw.out.trans (hb.mono HBw.out.size)
    replace ZR : Hid (TRows w2 sa zs) := ZR.out.below hb
    replace YR : Hid (TRows w2 la ys) := YR.out.below hb
    replace RM : Hid (GRow encR w2 ma F) := RM.out.below hb
    obtain ⟨p1, hp1⟩ : ∃ p1, p1 = ms1.length := ⟨_, rfl⟩
    have HP1 : Hid (p1 = ms1.length) := hp1
    rw [← hp1] at hl1
    have RP0 : GRow encR w2 pa ms1 := hO1.grow
    rw [← hp1] at hO1 ⊢
    have OP : Hid (GOwn encR 62 w2 vo.heap.size (.slice pa p1 pc) ms1) := hO1
    have RP : Hid (GRow encR w2 pa ms1) := RP0
    have TP : Hid (TRow w2 px.t px.ra px.wa) := hX1.row
    clear hb hA1 hF1 hT1 hO1 hX1 RP0 hp1 hsp
    go_upto_region 15 with fail
    have hb : Below w2.heap.size w2 (w2.alloc (.cells #[.int .i64 px.t.id, .int .i64 px.t.st, .int .i64 px.t.snap, .int .i64 px.t.cs, .slice px.ra px.t.rs.length px.rc, .slice px.wa px.t.ws.length px.wc, .bool px.t.out, .string px.t.nm] 30)) := (belowRefl w2).alloc (Nat.le_refl _) _
    replace HBw : Hid (Below w.heap.size w (w2.alloc (.cells #[.int .i64 px.t.id, .int .i64 px.t.st, .int .i64 px.t.snap, .int .i64 px.t.cs, .slice px.ra px.t.rs.length px.rc, .slice px.wa px.t.ws.length px.wc, .bool px.t.out, .string px.t.nm] 30))) := HBw.out.trans (hb.mono HBw.out.size)
    replace ZR : Hid (TRows (w2.alloc (.cells #[.int .i64 px.t.id, .int .i64 px.t.st, .int .i64 px.t.snap, .int .i64 px.t.cs, .slice px.ra px.t.rs.length px.rc, .slice px.wa px.t.ws.length px.wc, .bool px.t.out, .string px.t.nm] 30)) sa zs) := ZR.out.below hb
    replace YR : Hid (TRows (w2.alloc (.cells #[.int .i64 px.t.id, .int .i64 px.t.st, .int .i64 px.t.snap, .int .i64 px.t.cs, .slice px.ra px.t.rs.length px.rc, .slice px.wa px.t.ws.length px.wc, .bool px.t.out, .string px.t.nm] 30)) la ys) := YR.out.below hb
    replace RM : Hid (GRow encR (w2.alloc (.cells #[.int .i64 px.t.id, .int .i64 px.t.st, .int .i64 px.t.snap, .int .i64 px.t.cs, .slice px.ra px.t.rs.length px.rc, .slice px.wa px.t.ws.length px.wc, .bool px.t.out, .string px.t.nm] 30)) ma F) := RM.out.below hb
    replace OP : Hid (GOwn encR 62 (w2.alloc (.cells #[.int .i64 px.t.id, .int .i64 px.t.st, .int .i64 px.t.snap, .int .i64 px.t.cs, .slice px.ra px.t.rs.length px.rc, .slice px.wa px.t.ws.length px.wc, .bool px.t.out, .string px.t.nm] 30)) vo.heap.size (.slice pa p1 pc) ms1) := OP.out.below hb
    replace RP : Hid (GRow encR (w2.alloc (.cells #[.int .i64 px.t.id, .int .i64 px.t.st, .int .i64 px.t.snap, .int .i64 px.t.cs, .slice px.ra px.t.rs.length px.rc, .slice px.wa px.t.ws.length px.wc, .bool px.t.out, .string px.t.nm] 30)) pa ms1) := RP.out.below hb
    replace TP : Hid (TRow (w2.alloc (.cells #[.int .i64 px.t.id, .int .i64 px.t.st, .int .i64 px.t.snap, .int .i64 px.t.cs, .slice px.ra px.t.rs.length px.rc, .slice px.wa px.t.ws.length px.wc, .bool px.t.out, .string px.t.nm] 30)) px.t px.ra px.wa) := TP.out.below hb
    clear hb
    have B9 : Hid (Bx (w2.alloc (.cells #[.int .i64 px.t.id, .int .i64 px.t.st, .int .i64 px.t.snap, .int .i64 px.t.cs, .slice px.ra px.t.rs.length px.rc, .slice px.wa px.t.ws.length px.wc, .bool px.t.out, .string px.t.nm] 30)) w2.heap.size [.int .i64 px.t.id, .int .i64 px.t.st, .int .i64 px.t.snap, .int .i64 px.t.cs, .slice px.ra px.t.rs.length px.rc, .slice px.wa px.t.ws.length px.wc, .bool px.t.out, .string px.t.nm]) := Bx.new w2 [.int .i64 px.t.id, .int .i64 px.t.st, .int .i64 px.t.snap, .int .i64 px.t.cs, .slice px.ra px.t.rs.length px.rc, .slice px.wa px.t.ws.length px.wc, .bool px.t.out, .string px.t.nm] 30
    generalize (w2.alloc (.cells #[.int .i64 px.t.id, .int .i64 px.t.st, .int .i64 px.t.snap, .int .i64 px.t.cs, .slice px.ra px.t.rs.length px.rc, .slice px.wa px.t.ws.length px.wc, .bool px.t.out, .string px.t.nm] 30)) = w3 at *
    go_wp2_with fail
    refine (dView len cap a hl _ (HR.out.below HBw.out)).mono ?_
    rintro e w4 ⟨ms2, qa, qc, rg, hA2, hF2, hl2, hG2, rfl, hO2, hb⟩
    have HF2 := hide hF2
    replace HBw : Hid (Below w.heap.size w w4) := HBw.out.trans (hb.mono HBw.out.size)
    replace ZR : Hid (TRows w4 sa zs) := ZR.out.below hb
    replace YR : Hid (TRows w4 la ys) := YR.out.below hb
    replace RM : Hid (GRow encR w4 ma F) := RM.out.below hb
    replace OP : Hid (GOwn encR 62 w4 vo.heap.size (.slice pa p1 pc) ms1) := OP.out.below hb
    replace RP : Hid (GRow encR w4 pa ms1) := RP.out.below hb
    replace TP : Hid (TRow w4 px.t px.ra px.wa) := TP.out.below hb
    replace B9 : Hid (Bx w4 w2.heap.size [.int .i64 px.t.id, .int .i64 px.t.st, .int .i64 px.t.snap, .int .i64 px.t.cs, .slice px.ra px.t.rs.length px.rc, .slice px.wa px.t.ws.length px.wc, .bool px.t.out, .string px.t.nm]) := B9.out.below hb
    obtain ⟨p2, hp2⟩ : ∃ p2, p2 = ms2.length := ⟨_, rfl⟩
    have HP2 : Hid (p2 = ms2.length) := hp2
    rw [← hp2] at hl2
    have RQ0 : GRow encR w4 qa ms2 := hO2.grow
    rw [← hp2]
    have RQ : Hid (GRow encR w4 qa ms2) := RQ0
    clear hb hA2 hF2 hG2 hO2 RQ0 hp2
    go_upto_region 16 with fail
    have hb : Below w4.heap.size w4 (w4.alloc (.cells #[.string rg.1, .string rg.2] 35)) := (belowRefl w4).alloc (Nat.le_refl _) _
    replace HBw : Hid (Below w.heap.size w (w4.alloc (.cells #[.string rg.1, .string rg.2] 35))) := HBw.out.trans (hb.mono HBw.out.size)
    replace ZR : Hid (TRows (w4.alloc (.cells #[.string rg.1, .string rg.2] 35)) sa zs) := ZR.out.below hb
    replace YR : Hid (TRows (w4.alloc (.cells #[.string rg.1, .string rg.2] 35)) la ys) := YR.out.below hb
    replace RM : Hid (GRow encR (w4.alloc (.cells #[.string rg.1, .string rg.2] 35)) ma F) := RM.out.below hb
    replace OP : Hid (GOwn encR 62 (w4.alloc (.cells #[.string rg.1, .string rg.2] 35)) vo.heap.size (.slice pa p1 pc) ms1) := OP.out.below hb
    replace RP : Hid (GRow encR (w4.alloc (.cells #[.string rg.1, .string rg.2] 35)) pa ms1) := RP.out.below hb
    replace TP : Hid (TRow (w4.alloc (.cells #[.string rg.1, .string rg.2] 35)) px.t px.ra px.wa) := TP.out.below hb
    replace B9 : Hid (Bx (w4.alloc (.cells #[.string rg.1, .string rg.2] 35)) w2.heap.size [.int .i64 px.t.id, .int .i64 px.t.st, .int .i64 px.t.snap, .int .i64 px.t.cs, .slice px.ra px.t.rs.length px.rc, .slice px.wa px.t.ws.length px.wc, .bool px.t.out, .string px.t.nm]) := B9.out.below hb
    replace RQ : Hid (GRow encR (w4.alloc (.cells #[.string rg.1, .string rg.2] 35)) qa ms2) := RQ.out.below hb
    clear hb
    have B11 : Hid (Bx (w4.alloc (.cells #[.string rg.1, .string rg.2] 35)) w4.heap.size [.string rg.1, .string rg.2]) := Bx.new w4 [.string rg.1, .string rg.2] 35
    generalize (w4.alloc (.cells #[.string rg.1, .string rg.2] 35)) = w5 at *
    go_wp2_with fail
    refine (dBef len cap a hl _ (HR.out.below HBw.out)).mono ?_
    rintro e w6 ⟨bx, bz, hbx, hbz, rfl, hO1, hO2, hb⟩
    have HBX := hide hbx
    have HBZ := hide hbz
    replace HBw : Hid (Below w.heap.size w w6) := HBw.out.trans (hb.mono HBw.out.size)
    replace ZR : Hid (TRows w6 sa zs) := ZR.out.below hb
    replace YR : Hid (TRows w6 la ys) := YR.out.below hb
    replace RM : Hid (GRow encR w6 ma F) := RM.out.below hb
    replace OP : Hid (GOwn encR 62 w6 vo.heap.size (.slice pa p1 pc) ms1) := OP.out.below hb
    replace RP : Hid (GRow encR w6 pa ms1) := RP.out.below hb
    replace TP : Hid (TRow w6 px.t px.ra px.wa) := TP.out.below hb
    replace B9 : Hid (Bx w6 w2.heap.size [.int .i64 px.t.id, .int .i64 px.t.st, .int .i64 px.t.snap, .int .i64 px.t.cs, .slice px.ra px.t.rs.length px.rc, .slice px.wa px.t.ws.length px.wc, .bool px.t.out, .string px.t.nm]) := B9.out.below hb
    replace RQ : Hid (GRow encR w6 qa ms2) := RQ.out.below hb
    replace B11 : Hid (Bx w6 w4.heap.size [.string rg.1, .string rg.2]) := B11.out.below hb
    have TBx : Hid (TRow w6 bx.t bx.ra bx.wa) := hO1.row
    have TBz : Hid (TRow w6 bz.t bz.ra bz.wa) := hO2.row
    clear hb hbx hbz hO1 hO2
    go_upto_region 17 with fail
    have hba : Below w6.heap.size w6 ((w6.alloc (.cells #[.int .i64 bx.t.id, .int .i64 bx.t.st, .int .i64 bx.t.snap, .int .i64 bx.t.cs, .slice bx.ra bx.t.rs.length bx.rc, .slice bx.wa bx.t.ws.length bx.wc, .bool bx.t.out, .string bx.t.nm] 30)).alloc (.cells #[.int .i64 bz.t.id, .int .i64 bz.t.st, .int .i64 bz.t.snap, .int .i64 bz.t.cs, .slice bz.ra bz.t.rs.length bz.rc, .slice bz.wa bz.t.ws.length bz.wc, .bool bz.t.out, .string bz.t.nm] 30)) := ((belowRefl w6).alloc (Nat.le_refl _) _).alloc (by simp) _
    replace HBw : Hid (Below w.heap.size w ((w6.alloc (.cells #[.int .i64 bx.t.id, .int .i64 bx.t.st, .int .i64 bx.t.snap, .int .i64 bx.t.cs, .slice bx.ra bx.t.rs.length bx.rc, .slice bx.wa bx.t.ws.length bx.wc, .bool bx.t.out, .string bx.t.nm] 30)).alloc (.cells #[.int .i64 bz.t.id, .int .i64 bz.t.st, .int .i64 bz.t.snap, .int .i64 bz.t.cs, .slice bz.ra bz.t.rs.length bz.rc, .slice bz.wa bz.t.ws.length bz.wc, .bool bz.t.out, .string bz.t.nm] 30))) := HBw.out.trans (hba.mono HBw.out.size)
    replace ZR : Hid (TRows ((w6.alloc (.cells #[.int .i64 bx.t.id, .int .i64 bx.t.st, .int .i64 bx.t.snap, .int .i64 bx.t.cs, .slice bx.ra bx.t.rs.length bx.rc, .slice bx.wa bx.t.ws.length bx.wc, .bool bx.t.out, .string bx.t.nm] 30)).alloc (.cells #[.int .i64 bz.t.id, .int .i64 bz.t.st, .int .i64 bz.t.snap, .int .i64 bz.t.cs, .slice bz.ra bz.t.rs.length bz.rc, .slice bz.wa bz.t.ws.length bz.wc, .bool bz.t.out, .string bz.t.nm] 30)) sa zs) := ZR.out.below hba
    replace YR : Hid (TRows ((w6.alloc (.cells #[.int .i64 bx.t.id, .int .i64 bx.t.st, .int .i64 bx.t.snap, .int .i64 bx.t.cs, .slice bx.ra bx.t.rs.length bx.rc, .slice bx.wa bx.t.ws.length bx.wc, .bool bx.t.out, .string bx.t.nm] 30)).alloc (.cells #[.int .i64 bz.t.id, .int .i64 bz.t.st, .int .i64 bz.t.snap, .int .i64 bz.t.cs, .slice bz.ra bz.t.rs.length bz.rc, .slice bz.wa bz.t.ws.length bz.wc, .bool bz.t.out, .string bz.t.nm] 30)) la ys) := YR.out.below hba
    replace RM : Hid (GRow encR ((w6.alloc (.cells #[.int .i64 bx.t.id, .int .i64 bx.t.st, .int .i64 bx.t.snap, .int .i64 bx.t.cs, .slice bx.ra bx.t.rs.length bx.rc, .slice bx.wa bx.t.ws.length bx.wc, .bool bx.t.out, .string bx.t.nm] 30)).alloc (.cells #[.int .i64 bz.t.id, .int .i64 bz.t.st, .int .i64 bz.t.snap, .int .i64 bz.t.cs, .slice bz.ra bz.t.rs.length bz.rc, .slice bz.wa bz.t.ws.length bz.wc, .bool bz.t.out, .string bz.t.nm] 30)) ma F) := RM.out.below hba
    replace OP : Hid (GOwn encR 62 ((w6.alloc (.cells #[.int .i64 bx.t.id, .int .i64 bx.t.st, .int .i64 bx.t.snap, .int .i64 bx.t.cs, .slice bx.ra bx.t.rs.length bx.rc, .slice bx.wa bx.t.ws.length bx.wc, .bool bx.t.out, .string bx.t.nm] 30)).alloc (.cells #[.int .i64 bz.t.id, .int .i64 bz.t.st, .int .i64 bz.t.snap, .int .i64 bz.t.cs, .slice bz.ra bz.t.rs.length bz.rc, .slice bz.wa bz.t.ws.length bz.wc, .bool bz.t.out, .string bz.t.nm] 30)) vo.heap.size (.slice pa p1 pc) ms1) := OP.out.below hba
    replace RP : Hid (GRow encR ((w6.alloc (.cells #[.int .i64 bx.t.id, .int .i64 bx.t.st, .int .i64 bx.t.snap, .int .i64 bx.t.cs, .slice bx.ra bx.t.rs.length bx.rc, .slice bx.wa bx.t.ws.length bx.wc, .bool bx.t.out, .string bx.t.nm] 30)).alloc (.cells #[.int .i64 bz.t.id, .int .i64 bz.t.st, .int .i64 bz.t.snap, .int .i64 bz.t.cs, .slice bz.ra bz.t.rs.length bz.rc, .slice bz.wa bz.t.ws.length bz.wc, .bool bz.t.out, .string bz.t.nm] 30)) pa ms1) := RP.out.below hba
    replace TP : Hid (TRow ((w6.alloc (.cells #[.int .i64 bx.t.id, .int .i64 bx.t.st, .int .i64 bx.t.snap, .int .i64 bx.t.cs, .slice bx.ra bx.t.rs.length bx.rc, .slice bx.wa bx.t.ws.length bx.wc, .bool bx.t.out, .string bx.t.nm] 30)).alloc (.cells #[.int .i64 bz.t.id, .int .i64 bz.t.st, .int .i64 bz.t.snap, .int .i64 bz.t.cs, .slice bz.ra bz.t.rs.length bz.rc, .slice bz.wa bz.t.ws.length bz.wc, .bool bz.t.out, .string bz.t.nm] 30)) px.t px.ra px.wa) := TP.out.below hba
    replace B9 : Hid (Bx ((w6.alloc (.cells #[.int .i64 bx.t.id, .int .i64 bx.t.st, .int .i64 bx.t.snap, .int .i64 bx.t.cs, .slice bx.ra bx.t.rs.length bx.rc, .slice bx.wa bx.t.ws.length bx.wc, .bool bx.t.out, .string bx.t.nm] 30)).alloc (.cells #[.int .i64 bz.t.id, .int .i64 bz.t.st, .int .i64 bz.t.snap, .int .i64 bz.t.cs, .slice bz.ra bz.t.rs.length bz.rc, .slice bz.wa bz.t.ws.length bz.wc, .bool bz.t.out, .string bz.t.nm] 30)) w2.heap.size [.int .i64 px.t.id, .int .i64 px.t.st, .int .i64 px.t.snap, .int .i64 px.t.cs, .slice px.ra px.t.rs.length px.rc, .slice px.wa px.t.ws.length px.wc, .bool px.t.out, .string px.t.nm]) := B9.out.below hba
    replace RQ : Hid (GRow encR ((w6.alloc (.cells #[.int .i64 bx.t.id, .int .i64 bx.t.st, .int .i64 bx.t.snap, .int .i64 bx.t.cs, .slice bx.ra bx.t.rs.length bx.rc, .slice bx.wa bx.t.ws.length bx.wc, .bool bx.t.out, .string bx.t.nm] 30)).alloc (.cells #[.int .i64 bz.t.id, .int .i64 bz.t.st, .int .i64 bz.t.snap, .int .i64 bz.t.cs, .slice bz.ra bz.t.rs.length bz.rc, .slice bz.wa bz.t.ws.length bz.wc, .bool bz.t.out, .string bz.t.nm] 30)) qa ms2) := RQ.out.below hba
    replace B11 : Hid (Bx ((w6.alloc (.cells #[.int .i64 bx.t.id, .int .i64 bx.t.st, .int .i64 bx.t.snap, .int .i64 bx.t.cs, .slice bx.ra bx.t.rs.length bx.rc, .slice bx.wa bx.t.ws.length bx.wc, .bool bx.t.out, .string bx.t.nm] 30)).alloc (.cells #[.int .i64 bz.t.id, .int .i64 bz.t.st, .int .i64 bz.t.snap, .int .i64 bz.t.cs, .slice bz.ra bz.t.rs.length bz.rc, .slice bz.wa bz.t.ws.length bz.wc, .bool bz.t.out, .string bz.t.nm] 30)) w4.heap.size [.string rg.1, .string rg.2]) := B11.out.below hba
    replace TBx : Hid (TRow ((w6.alloc (.cells #[.int .i64 bx.t.id, .int .i64 bx.t.st, .int .i64 bx.t.snap, .int .i64 bx.t.cs, .slice bx.ra bx.t.rs.length bx.rc, .slice bx.wa bx.t.ws.length bx.wc, .bool bx.t.out, .string bx.t.nm] 30)).alloc (.cells #[.int .i64 bz.t.id, .int .i64 bz.t.st, .int .i64 bz.t.snap, .int .i64 bz.t.cs, .slice bz.ra bz.t.rs.length bz.rc, .slice bz.wa bz.t.ws.length bz.wc, .bool bz.t.out, .string bz.t.nm] 30)) bx.t bx.ra bx.wa) := TBx.out.below hba
    replace TBz : Hid (TRow ((w6.alloc (.cells #[.int .i64 bx.t.id, .int .i64 bx.t.st, .int .i64 bx.t.snap, .int .i64 bx.t.cs, .slice bx.ra bx.t.rs.length bx.rc, .slice bx.wa bx.t.ws.length bx.wc, .bool bx.t.out, .string bx.t.nm] 30)).alloc (.cells #[.int .i64 bz.t.id, .int .i64 bz.t.st, .int .i64 bz.t.snap, .int .i64 bz.t.cs, .slice bz.ra bz.t.rs.length bz.rc, .slice bz.wa bz.t.ws.length bz.wc, .bool bz.t.out, .string bz.t.nm] 30)) bz.t bz.ra bz.wa) := TBz.out.below hba
    clear hba
    have B12 : Hid (Bx ((w6.alloc (.cells #[.int .i64 bx.t.id, .int .i64 bx.t.st, .int .i64 bx.t.snap, .int .i64 bx.t.cs, .slice bx.ra bx.t.rs.length bx.rc, .slice bx.wa bx.t.ws.length bx.wc, .bool bx.t.out, .string bx.t.nm] 30)).alloc (.cells #[.int .i64 bz.t.id, .int .i64 bz.t.st, .int .i64 bz.t.snap, .int .i64 bz.t.cs, .slice bz.ra bz.t.rs.length bz.rc, .slice bz.wa bz.t.ws.length bz.wc, .bool bz.t.out, .string bz.t.nm] 30)) w6.heap.size [.int .i64 bx.t.id, .int .i64 bx.t.st, .int .i64 bx.t.snap, .int .i64 bx.t.cs, .slice bx.ra bx.t.rs.length bx.rc, .slice bx.wa bx.t.ws.length bx.wc, .bool bx.t.out, .string bx.t.nm]) := (Bx.new w6 [.int .i64 bx.t.id, .int .i64 bx.t.st, .int .i64 bx.t.snap, .int .i64 bx.t.cs, .slice bx.ra bx.t.rs.length bx.rc, .slice bx.wa bx.t.ws.length bx.wc, .bool bx.t.out, .string bx.t.nm] 30).alloc _
    have B13 : Hid (Bx ((w6.alloc (.cells #[.int .i64 bx.t.id, .int .i64 bx.t.st, .int .i64 bx.t.snap, .int .i64 bx.t.cs, .slice bx.ra bx.t.rs.length bx.rc, .slice bx.wa bx.t.ws.length bx.wc, .bool bx.t.out, .string bx.t.nm] 30)).alloc (.cells #[.int .i64 bz.t.id, .int .i64 bz.t.st, .int .i64 bz.t.snap, .int .i64 bz.t.cs, .slice bz.ra bz.t.rs.length bz.rc, .slice bz.wa bz.t.ws.length bz.wc, .bool bz.t.out, .string bz.t.nm] 30)) (w6.heap.size + 1) [.int .i64 bz.t.id, .int .i64 bz.t.st, .int .i64 bz.t.snap, .int .i64 bz.t.cs, .slice bz.ra bz.t.rs.length bz.rc, .slice bz.wa bz.t.ws.length bz.wc, .bool bz.t.out, .string bz.t.nm]) := by have h := Bx.new (w6.alloc (.cells #[.int .i64 bx.t.id, .int .i64 bx.t.st, .int .i64 bx.t.snap, .int .i64 bx.t.cs, .slice bx.ra bx.t.rs.length bx.rc, .slice bx.wa bx.t.ws.length bx.wc, .bool bx.t.out, .string bx.t.nm] 30)) [.int .i64 bz.t.id, .int .i64 bz.t.st, .int .i64 bz.t.snap, .int .i64 bz.t.cs, .slice bz.ra bz.t.rs.length bz.rc, .slice bz.wa bz.t.ws.length bz.wc, .bool bz.t.out, .string bz.t.nm] 30; simpa [Hid] using h
    generalize ((w6.alloc (.cells #[.int .i64 bx.t.id, .int .i64 bx.t.st, .int .i64 bx.t.snap, .int .i64 bx.t.cs, .slice bx.ra bx.t.rs.length bx.rc, .slice bx.wa bx.t.ws.length bx.wc, .bool bx.t.out, .string bx.t.nm] 30)).alloc (.cells #[.int .i64 bz.t.id, .int .i64 bz.t.st, .int .i64 bz.t.snap, .int .i64 bz.t.cs, .slice bz.ra bz.t.rs.length bz.rc, .slice bz.wa bz.t.ws.length bz.wc, .bool bz.t.out, .string bz.t.nm] 30)) = w7 at *
    have V7 : Hid (GOwn encV 69 (w7.alloc (.cells #[] 69)) w7.heap.size (.slice (some ⟨w7.heap.size, 0, none⟩) 0 0) (allV ((txs zs).take 0))) := GOwn.empty _ _ (Nat.le_refl _)
    have HBv : Hid (Below w7.heap.size w7 (w7.alloc (.cells #[] 69))) := (belowRefl w7).alloc (Nat.le_refl _) _
    go_upto_region 18 with fail
    generalize (w7.alloc (.cells #[] 69)) = w7a at *
    go_wp2
    go_loopw [14, 15] (fun v s wr => ∃ j : Nat, j ≤ n ∧ s = .int .i64 j ∧ Hid (GOwn encV 69 wr w7.heap.size v (allV ((txs zs).take j))) ∧ Hid (Below w7.heap.size w7 wr)) (fun _ s _ => n - (intOf s).toNat)
    case atStart => exact ⟨0, Nat.zero_le _, rfl, V7, HBv⟩
    case round =>
     clear V7 HBv
     obtain ⟨j, hj, rfl, HO, HBj⟩ := hrel
     by_cases hjl : j < n
     ·have hjl' : (j : Int) < (n : Int) := by omega
      have hj0 : (0 : Int) ≤ (j : Int) := by omega
      have hjy : j < zs.length := by rw [← HZL.out]; exact hjl
      have hjt : j < (txs zs).length := by rw [txs_len]; exact hjy
      obtain ⟨b, o, rfl, hbl, hc, hrow⟩ := (ZR.out.below HBj.out).cls j hjy
      have HDk := hide (HDz.out.each _ (List.getElem_mem hjt)).1
      have HNX := hide (allV_next (txs zs) j hjt)
      have hlen : (allV ((txs zs).take j)).length ≤ 15 := Nat.le_trans (allV_len _ (fun u hu => (HDz.out.each u (List.mem_of_mem_take hu)).1.wl)) (by rw [List.length_take]; omega)
      obtain ⟨x, hx⟩ : ∃ x, x = zs[j] := ⟨_, rfl⟩
      have hxt : (txs zs)[j] = x.t := by rw [hx]; simp [txs]
      rw [hxt] at HNX HDk
      rw [← hx] at hc hrow
      clear hx hxt
      have HRow := hide hrow
      have r3 := hc.c3
      have r5 := hc.c5
      clear hc hrow hjy hjt
      obtain ⟨xs, hxs⟩ : ∃ xs, xs = allV ((txs zs).take j) := ⟨_, rfl⟩
      rw [← hxs] at HO HNX hlen
      clear hxs
      obtain ⟨a0, c0, rfl, hgr⟩ := HO.out.row
      clear hgr
      have HC := hide (fun (W : World) (h : Below wr.heap.size wr W) => sputv xs x.t.ws _ x.wa x.wc x.t.cs _ (by omega) (by have := HDk.out.wl; omega) W (HO.out.below h) (HRow.out.below h).w)
      go_wp2
      refine wp_region_held_drew (S := fun w' => w'.cell? ⟨b, o + j * 8 + 5, none⟩ = some (.slice x.wa x.t.ws.length x.wc) ∧ w'.cell? ⟨b, o + j * 8 + 3, none⟩ = some (.int .i64 x.t.cs)) (by kernel_rfl) ⟨r5, r3⟩ (fun hHeld => ?_)
      (refine tk 0 ?_ rfl (Or.inl ⟨by rfl, ?_⟩) ?_; rotate_left; (focus (intro w h; (try dsimp only at h); go_simp; (try with_reducible rfl))); simp only [Act.put, tA, tB, tD, tE, tF])
      (refine tk 1 ?_ rfl (Or.inl ⟨by rfl, ?_⟩) ?_; rotate_left; (focus (intro w h; (try dsimp only at h); go_simp; (try with_reducible rfl))); simp only [Act.put, tA, tB, tC, tD, tE, tF])
      (refine tk 2 ?_ rfl (Or.inl ⟨by rfl, ?_⟩) ?_; rotate_left; (focus (intro w h; (try dsimp only at h); go_simp; (try with_reducible rfl))); simp only [Act.put, tA, tB, tC, tD, tE, tF])
      (refine tk 3 ?_ rfl (Or.inl ⟨by rfl, ?_⟩) ?_; rotate_left; (focus (intro w h; (try dsimp only at h); go_simp; (try with_reducible rfl))); simp only [Act.put, tA, tB, tC, tD, tE, tF])
      (refine tk 4 ?_ rfl (Or.inl ⟨by rfl, ?_⟩) ?_; rotate_left; (focus (intro w h; (try dsimp only at h); go_simp; (try with_reducible rfl))); simp only [Act.put, tA, tB, tC, tD, tE, tF])
      (refine tk 5 ?_ rfl (Or.inl ⟨by rfl, ?_⟩) ?_; rotate_left; (focus (intro w h; (try dsimp only at h); go_simp; (try with_reducible rfl))); simp only [Act.put, tA, tB, tC, tD, tE, tF])
      (refine tk 6 ?_ rfl (Or.inl ⟨by rfl, ?_⟩) ?_; rotate_left; (focus (intro w h; (try dsimp only at h); go_simp; (try with_reducible rfl))); simp only [Act.put, tA, tB, tC, tD, tE, tF])
      (refine tk 7 ?_ rfl (Or.inl ⟨by rfl, ?_⟩) ?_; rotate_left; (focus (intro w h; (try dsimp only at h); go_simp; (try with_reducible rfl))); simp only [Act.put, tA, tB, tC, tD, tE, tF])
      (refine tk 8 ?_ rfl (Or.inl ⟨by rfl, ?_⟩) ?_; rotate_left; (focus (intro w h; (try dsimp only at h); go_simp; (try with_reducible rfl))); simp only [Act.put, tA, tB, tC, tD, tE, tF])
      (refine tk 9 ?_ rfl (Or.inl ⟨by rfl, ?_⟩) ?_; rotate_left; (focus (intro w h; (try dsimp only at h); go_simp; (try with_reducible rfl))); simp only [Act.put, tA, tB, tC, tD, tE, tF])
      (refine tk 10 ?_ rfl (Or.inl ⟨by rfl, ?_⟩) ?_; rotate_left; (focus (intro w h; (try dsimp only at h); go_simp; (try with_reducible rfl))); simp only [Act.put, tA, tB, tC, tD, tE, tF])
      refine wpAnyH_ready (rs := [11]) (by kernel_rfl) (by simp) ?_
      refine AllReadyH.cons rfl (fun K hK => ?_) AllReadyH.nil
      go_simp
      go_wp2_with fail
      refine (HC.out _ ((belowRefl wr).drew)).mono ?_
      rintro e w9 ⟨a3, c3, rfl, ho2, hb2⟩
      have hbu := undrew hb2
      have HB2 : Hid (Below w7.heap.size w7 w9) := HBj.out.trans (hbu.mono HBj.out.size)
      have HO2 : Hid (GOwn encV 69 w9 w7.heap.size (.slice a3 (putV xs x.t.ws x.t.cs).length c3) (allV ((txs zs).take (j + 1)))) := by
       show GOwn _ _ _ _ _ _
       rw [HNX.out]
       exact ho2.mono HBj.out.size
      go_wp2_with fail
      refine hK.out _ _ ⟨(hbu.cell (p := ⟨b, o + j * 8 + 5, none⟩) hbl).trans r5, (hbu.cell (p := ⟨b, o + j * 8 + 3, none⟩) hbl).trans r3⟩ (fun hHeld2 => ?_)
      clear hK K hb2 hbu ho2
      (refine tk 12 ?_ rfl (Or.inl ⟨by rfl, ?_⟩) ?_; rotate_left; (focus (intro w h; (try dsimp only at h); go_simp; (try with_reducible rfl))); simp only [Act.put, tA, tB, tC, tD, tE, tF])
      refine wpAnyH_done (by kernel_rfl) ?_ _
      clear r3 r5 hbl HC HO HNX HDk HRow
      go_wp2
      go_roundw
      case rel => exact ⟨j + 1, by omega, by go_num, HO2, HB2⟩
      case measure => simp [intOf]; omega
     ·have hjl' : ¬ (j : Int) < (n : Int) := by omega
      have hkk : (txs zs).take j = txs zs := List.take_of_length_le (by rw [txs_len]; have := HZL.out; omega)
      have ho := HO.out
      rw [hkk] at ho
      obtain ⟨va, vc, rfl, hgv⟩ := ho.row
      obtain ⟨vs, hvs⟩ : ∃ vs, vs = allV (txs zs) := ⟨_, rfl⟩
      rw [← hvs] at HVW hvl hgv ⊢
      have RV0 := hide hgv
      have hbj := HBj.out
      clear ho hkk hvs hgv HO HBj
      obtain ⟨w8, hw8⟩ : ∃ z, z = wr := ⟨_, rfl⟩
      subst hw8
      replace HBw : Hid (Below w.heap.size w w8) := HBw.out.trans (hbj.mono HBw.out.size)
      replace ZR : Hid (TRows w8 sa zs) := ZR.out.below hbj
      replace YR : Hid (TRows w8 la ys) := YR.out.below hbj
      replace RM : Hid (GRow encR w8 ma F) := RM.out.below hbj
      replace OP : Hid (GOwn encR 62 w8 vo.heap.size (.slice pa p1 pc) ms1) := OP.out.below hbj
      replace RP : Hid (GRow encR w8 pa ms1) := RP.out.below hbj
      replace TP : Hid (TRow w8 px.t px.ra px.wa) := TP.out.below hbj
      replace B9 : Hid (Bx w8 w2.heap.size [.int .i64 px.t.id, .int .i64 px.t.st, .int .i64 px.t.snap, .int .i64 px.t.cs, .slice px.ra px.t.rs.length px.rc, .slice px.wa px.t.ws.length px.wc, .bool px.t.out, .string px.t.nm]) := B9.out.below hbj
      replace RQ : Hid (GRow encR w8 qa ms2) := RQ.out.below hbj
      replace B11 : Hid (Bx w8 w4.heap.size [.string rg.1, .string rg.2]) := B11.out.below hbj
      replace TBx : Hid (TRow w8 bx.t bx.ra bx.wa) := TBx.out.below hbj
      replace TBz : Hid (TRow w8 bz.t bz.ra bz.wa) := TBz.out.below hbj
      replace B12 : Hid (Bx w8 w6.heap.size [.int .i64 bx.t.id, .int .i64 bx.t.st, .int .i64 bx.t.snap, .int .i64 bx.t.cs, .slice bx.ra bx.t.rs.length bx.rc, .slice bx.wa bx.t.ws.length bx.wc, .bool bx.t.out, .string bx.t.nm]) := B12.out.below hbj
      replace B13 : Hid (Bx w8 (w6.heap.size + 1) [.int .i64 bz.t.id, .int .i64 bz.t.st, .int .i64 bz.t.snap, .int .i64 bz.t.cs, .slice bz.ra bz.t.rs.length bz.rc, .slice bz.wa bz.t.ws.length bz.wc, .bool bz.t.out, .string bz.t.nm]) := B13.out.below hbj
      have RV : Hid (GRow encV w8 va vs) := RV0
      clear RV0 hbj
      obtain ⟨r, hr⟩ : ∃ r, r = (serB (txs ys)).isSome := ⟨_, rfl⟩
      obtain ⟨bb, hbb⟩ : ∃ bb, bb = befB bx.t bz.t := ⟨_, rfl⟩
      have C1 : Hid (∀ W : World, TRows W sa zs → Calls Tryz.prog 11 #[.slice sa n sc] W fun e w' => e = .returned (.bool true) ∧ Below W.heap.size W w') := fun W h => by have q := iright zs sa sc n n HZL.out hn5 (by omega) HDz.out W h; rw [HZE.out] at q; exact q
      have C4 : Hid (∀ W : World, TRows W la ys → Calls Tryz.prog 11 #[.slice la n lc] W fun e w' => e = .returned (.bool r) ∧ Below W.heap.size W w') := fun W h => by have q := iright ys la lc n cs HN.out hn5 hcs HD.out W h; rw [← hr] at q; exact q
      have C6 : Hid (∀ W : World, TRows W la ys → Calls Tryz.prog 12 #[.slice la n lc] W fun e w' => e = .returned (.bool r) ∧ Below W.heap.size W w') := fun W h => by have q := sright ys la lc n cs HN.out hn5 hcs HD.out W h; rw [← hr] at q; exact q
      have hrr : (r == r) = true := by simp
      have hbbb : (bb == bb) = true := by simp
      have C41 := hide (fun (W : World) (h1 : TRow W bx.t bx.ra bx.wa) (h2 : TRow W bz.t bz.ra bz.wa) => ibefore bx.t bz.t bx.ra bx.wa bx.rc bx.wc bz.ra bz.wa bz.rc bz.wc HBX.out.fit.1 HBX.out.fit.2.2.1 HBZ.out.fit.1 HBZ.out.fit.2.2.1 HBX.out.fit.2.2.2.1 HBZ.out.fit.2.2.2.1 W h1.r h1.w h2.r h2.w)
      have C44 := hide (fun (W : World) (h1 : TRow W bx.t bx.ra bx.wa) (h2 : TRow W bz.t bz.ra bz.wa) => sbefore bx.t bz.t bx.ra bx.wa bx.rc bx.wc bz.ra bz.wa bz.rc bz.wc HBX.out.fit.1 HBX.out.fit.2.2.1 HBZ.out.fit.1 HBZ.out.fit.2.2.1 W h1.r h1.w h2.r h2.w)
      rw [← hbb] at C41 C44
      clear hr hbb
      go_wp2
      try simp only [List.append_eq, List.cons_append, List.nil_append]
      refine wp_region_held_drew (S := fun w' => w'.cell? ⟨w2.heap.size, 0, none⟩ = some (.int .i64 px.t.id) ∧ w'.cell? ⟨w2.heap.size, 1, none⟩ = some (.int .i64 px.t.st) ∧ w'.cell? ⟨w2.heap.size, 2, none⟩ = some (.int .i64 px.t.snap) ∧ w'.cell? ⟨w2.heap.size, 3, none⟩ = some (.int .i64 px.t.cs) ∧ w'.cell? ⟨w2.heap.size, 4, none⟩ = some (.slice px.ra px.t.rs.length px.rc) ∧ w'.cell? ⟨w2.heap.size, 5, none⟩ = some (.slice px.wa px.t.ws.length px.wc) ∧ w'.cell? ⟨w2.heap.size, 6, none⟩ = some (.bool px.t.out) ∧ w'.cell? ⟨w2.heap.size, 7, none⟩ = some (.string px.t.nm) ∧ w'.cell? ⟨w4.heap.size, 0, none⟩ = some (.string rg.1) ∧ w'.cell? ⟨w4.heap.size, 1, none⟩ = some (.string rg.2) ∧ w'.cell? ⟨w6.heap.size, 0, none⟩ = some (.int .i64 bx.t.id) ∧ w'.cell? ⟨w6.heap.size, 1, none⟩ = some (.int .i64 bx.t.st) ∧ w'.cell? ⟨w6.heap.size, 2, none⟩ = some (.int .i64 bx.t.snap) ∧ w'.cell? ⟨w6.heap.size, 3, none⟩ = some (.int .i64 bx.t.cs) ∧ w'.cell? ⟨w6.heap.size, 4, none⟩ = some (.slice bx.ra bx.t.rs.length bx.rc) ∧ w'.cell? ⟨w6.heap.size, 5, none⟩ = some (.slice bx.wa bx.t.ws.length bx.wc) ∧ w'.cell? ⟨w6.heap.size, 6, none⟩ = some (.bool bx.t.out) ∧ w'.cell? ⟨w6.heap.size, 7, none⟩ = some (.string bx.t.nm) ∧ w'.cell? ⟨(w6.heap.size + 1), 0, none⟩ = some (.int .i64 bz.t.id) ∧ w'.cell? ⟨(w6.heap.size + 1), 1, none⟩ = some (.int .i64 bz.t.st) ∧ w'.cell? ⟨(w6.heap.size + 1), 2, none⟩ = some (.int .i64 bz.t.snap) ∧ w'.cell? ⟨(w6.heap.size + 1), 3, none⟩ = some (.int .i64 bz.t.cs) ∧ w'.cell? ⟨(w6.heap.size + 1), 4, none⟩ = some (.slice bz.ra bz.t.rs.length bz.rc) ∧ w'.cell? ⟨(w6.heap.size + 1), 5, none⟩ = some (.slice bz.wa bz.t.ws.length bz.wc) ∧ w'.cell? ⟨(w6.heap.size + 1), 6, none⟩ = some (.bool bz.t.out) ∧ w'.cell? ⟨(w6.heap.size + 1), 7, none⟩ = some (.string bz.t.nm)) (by kernel_rfl) ⟨B9.out.c0, B9.out.c1, B9.out.c2, B9.out.c3, B9.out.c4, B9.out.c5, B9.out.c6, B9.out.c7, B11.out.c0, B11.out.c1, B12.out.c0, B12.out.c1, B12.out.c2, B12.out.c3, B12.out.c4, B12.out.c5, B12.out.c6, B12.out.c7, B13.out.c0, B13.out.c1, B13.out.c2, B13.out.c3, B13.out.c4, B13.out.c5, B13.out.c6, B13.out.c7⟩ (fun hHeld => ?_)
      (refine tk 0 ?_ rfl (Or.inl ⟨by rfl, ?_⟩) ?_; rotate_left; (focus (intro w h; (try dsimp only at h); go_simp; (try with_reducible rfl))); simp only [Act.put, tA, tB, tD, tE, tF])
      refine wpAnyH_ready (rs := [1]) (by kernel_rfl) (by simp) ?_
      refine AllReadyH.cons rfl (fun K hK => ?_) AllReadyH.nil
      go_simp
      go_wp2_with fail
      refine (C1.out _ (ZR.out.below (belowRefl w8).drew)).mono ?_
      rintro e x1 ⟨rfl, hb⟩
      have hbu := undrew hb
      replace HBw : Hid (Below w.heap.size w x1) := HBw.out.trans (hbu.mono HBw.out.size)
      replace ZR : Hid (TRows x1 sa zs) := ZR.out.below hbu
      replace YR : Hid (TRows x1 la ys) := YR.out.below hbu
      replace RM : Hid (GRow encR x1 ma F) := RM.out.below hbu
      replace OP : Hid (GOwn encR 62 x1 vo.heap.size (.slice pa p1 pc) ms1) := OP.out.below hbu
      replace RP : Hid (GRow encR x1 pa ms1) := RP.out.below hbu
      replace TP : Hid (TRow x1 px.t px.ra px.wa) := TP.out.below hbu
      replace B9 : Hid (Bx x1 w2.heap.size [.int .i64 px.t.id, .int .i64 px.t.st, .int .i64 px.t.snap, .int .i64 px.t.cs, .slice px.ra px.t.rs.length px.rc, .slice px.wa px.t.ws.length px.wc, .bool px.t.out, .string px.t.nm]) := B9.out.below hbu
      replace RQ : Hid (GRow encR x1 qa ms2) := RQ.out.below hbu
      replace B11 : Hid (Bx x1 w4.heap.size [.string rg.1, .string rg.2]) := B11.out.below hbu
      replace TBx : Hid (TRow x1 bx.t bx.ra bx.wa) := TBx.out.below hbu
      replace TBz : Hid (TRow x1 bz.t bz.ra bz.wa) := TBz.out.below hbu
      replace B12 : Hid (Bx x1 w6.heap.size [.int .i64 bx.t.id, .int .i64 bx.t.st, .int .i64 bx.t.snap, .int .i64 bx.t.cs, .slice bx.ra bx.t.rs.length bx.rc, .slice bx.wa bx.t.ws.length bx.wc, .bool bx.t.out, .string bx.t.nm]) := B12.out.below hbu
      replace B13 : Hid (Bx x1 (w6.heap.size + 1) [.int .i64 bz.t.id, .int .i64 bz.t.st, .int .i64 bz.t.snap, .int .i64 bz.t.cs, .slice bz.ra bz.t.rs.length bz.rc, .slice bz.wa bz.t.ws.length bz.wc, .bool bz.t.out, .string bz.t.nm]) := B13.out.below hbu
      replace RV : Hid (GRow encV x1 va vs) := RV.out.below hbu
      go_wp2_with fail
      refine hK.out _ _ ⟨B9.out.c0, B9.out.c1, B9.out.c2, B9.out.c3, B9.out.c4, B9.out.c5, B9.out.c6, B9.out.c7, B11.out.c0, B11.out.c1, B12.out.c0, B12.out.c1, B12.out.c2, B12.out.c3, B12.out.c4, B12.out.c5, B12.out.c6, B12.out.c7, B13.out.c0, B13.out.c1, B13.out.c2, B13.out.c3, B13.out.c4, B13.out.c5, B13.out.c6, B13.out.c7⟩ (fun hHeld1 => ?_)
      clear hK K hb hbu
      (refine tk 2 ?_ rfl (Or.inl ⟨by rfl, ?_⟩) ?_; rotate_left; (focus (intro w h; (try dsimp only at h); go_simp; (try with_reducible rfl))); simp only [Act.put, tA, tB, tC, tD, tE, tF])
      (refine tk 3 ?_ rfl (Or.inl ⟨by rfl, ?_⟩) ?_; rotate_left; (focus (intro w h; (try dsimp only at h); go_simp; (try with_reducible rfl))); simp only [Act.put, tA, tB, tC, tD, tE, tF])
      (refine tk 5 ?_ rfl (Or.inl ⟨by rfl, ?_⟩) ?_; rotate_left; (focus (intro w h; (try dsimp only at h); go_simp; (try with_reducible rfl))); simp only [Act.put, tA, tB, tC, tD, tE, tF])
      refine wpAnyH_ready (rs := [4]) (by kernel_rfl) (by simp) ?_
      refine AllReadyH.cons rfl (fun K hK => ?_) AllReadyH.nil
      go_simp
      go_wp2_with fail
      refine (C4.out _ YR.out).mono ?_
      rintro e x4 ⟨rfl, hb⟩
      replace HBw : Hid (Below w.heap.size w x4) := HBw.out.trans (hb.mono HBw.out.size)
      replace ZR : Hid (TRows x4 sa zs) := ZR.out.below hb
      replace YR : Hid (TRows x4 la ys) := YR.out.below hb
      replace RM : Hid (GRow encR x4 ma F) := RM.out.below hb
      replace OP : Hid (GOwn encR 62 x4 vo.heap.size (.slice pa p1 pc) ms1) := OP.out.below hb
      replace RP : Hid (GRow encR x4 pa ms1) := RP.out.below hb
      replace TP : Hid (TRow x4 px.t px.ra px.wa) := TP.out.below hb
      replace B9 : Hid (Bx x4 w2.heap.size [.int .i64 px.t.id, .int .i64 px.t.st, .int .i64 px.t.snap, .int .i64 px.t.cs, .slice px.ra px.t.rs.length px.rc, .slice px.wa px.t.ws.length px.wc, .bool px.t.out, .string px.t.nm]) := B9.out.below hb
      replace RQ : Hid (GRow encR x4 qa ms2) := RQ.out.below hb
      replace B11 : Hid (Bx x4 w4.heap.size [.string rg.1, .string rg.2]) := B11.out.below hb
      replace TBx : Hid (TRow x4 bx.t bx.ra bx.wa) := TBx.out.below hb
      replace TBz : Hid (TRow x4 bz.t bz.ra bz.wa) := TBz.out.below hb
      replace B12 : Hid (Bx x4 w6.heap.size [.int .i64 bx.t.id, .int .i64 bx.t.st, .int .i64 bx.t.snap, .int .i64 bx.t.cs, .slice bx.ra bx.t.rs.length bx.rc, .slice bx.wa bx.t.ws.length bx.wc, .bool bx.t.out, .string bx.t.nm]) := B12.out.below hb
      replace B13 : Hid (Bx x4 (w6.heap.size + 1) [.int .i64 bz.t.id, .int .i64 bz.t.st, .int .i64 bz.t.snap, .int .i64 bz.t.cs, .slice bz.ra bz.t.rs.length bz.rc, .slice bz.wa bz.t.ws.length bz.wc, .bool bz.t.out, .string bz.t.nm]) := B13.out.below hb
      replace RV : Hid (GRow encV x4 va vs) := RV.out.below hb
      go_wp2_with fail
      refine hK.out _ _ ⟨B9.out.c0, B9.out.c1, B9.out.c2, B9.out.c3, B9.out.c4, B9.out.c5, B9.out.c6, B9.out.c7, B11.out.c0, B11.out.c1, B12.out.c0, B12.out.c1, B12.out.c2, B12.out.c3, B12.out.c4, B12.out.c5, B12.out.c6, B12.out.c7, B13.out.c0, B13.out.c1, B13.out.c2, B13.out.c3, B13.out.c4, B13.out.c5, B13.out.c6, B13.out.c7⟩ (fun hHeld4 => ?_)
      clear hK K hb
      refine wpAnyH_ready (rs := [6]) (by kernel_rfl) (by simp) ?_
      refine AllReadyH.cons rfl (fun K hK => ?_) AllReadyH.nil
      go_simp
      go_wp2_with fail
      refine (C6.out _ YR.out).mono ?_
      rintro e x6 ⟨rfl, hb⟩
      replace HBw : Hid (Below w.heap.size w x6) := HBw.out.trans (hb.mono HBw.out.size)
      replace ZR : Hid (TRows x6 sa zs) := ZR.out.below hb
      replace YR : Hid (TRows x6 la ys) := YR.out.below hb
      replace RM : Hid (GRow encR x6 ma F) := RM.out.below hb
      replace OP : Hid (GOwn encR 62 x6 vo.heap.size (.slice pa p1 pc) ms1) := OP.out.below hb
      replace RP : Hid (GRow encR x6 pa ms1) := RP.out.below hb
      replace TP : Hid (TRow x6 px.t px.ra px.wa) := TP.out.below hb
      replace B9 : Hid (Bx x6 w2.heap.size [.int .i64 px.t.id, .int .i64 px.t.st, .int .i64 px.t.snap, .int .i64 px.t.cs, .slice px.ra px.t.rs.length px.rc, .slice px.wa px.t.ws.length px.wc, .bool px.t.out, .string px.t.nm]) := B9.out.below hb
      replace RQ : Hid (GRow encR x6 qa ms2) := RQ.out.below hb
      replace B11 : Hid (Bx x6 w4.heap.size [.string rg.1, .string rg.2]) := B11.out.below hb
      replace TBx : Hid (TRow x6 bx.t bx.ra bx.wa) := TBx.out.below hb
      replace TBz : Hid (TRow x6 bz.t bz.ra bz.wa) := TBz.out.below hb
      replace B12 : Hid (Bx x6 w6.heap.size [.int .i64 bx.t.id, .int .i64 bx.t.st, .int .i64 bx.t.snap, .int .i64 bx.t.cs, .slice bx.ra bx.t.rs.length bx.rc, .slice bx.wa bx.t.ws.length bx.wc, .bool bx.t.out, .string bx.t.nm]) := B12.out.below hb
      replace B13 : Hid (Bx x6 (w6.heap.size + 1) [.int .i64 bz.t.id, .int .i64 bz.t.st, .int .i64 bz.t.snap, .int .i64 bz.t.cs, .slice bz.ra bz.t.rs.length bz.rc, .slice bz.wa bz.t.ws.length bz.wc, .bool bz.t.out, .string bz.t.nm]) := B13.out.below hb
      replace RV : Hid (GRow encV x6 va vs) := RV.out.below hb
      go_wp2_with fail
      refine hK.out _ _ ⟨B9.out.c0, B9.out.c1, B9.out.c2, B9.out.c3, B9.out.c4, B9.out.c5, B9.out.c6, B9.out.c7, B11.out.c0, B11.out.c1, B12.out.c0, B12.out.c1, B12.out.c2, B12.out.c3, B12.out.c4, B12.out.c5, B12.out.c6, B12.out.c7, B13.out.c0, B13.out.c1, B13.out.c2, B13.out.c3, B13.out.c4, B13.out.c5, B13.out.c6, B13.out.c7⟩ (fun hHeld6 => ?_)
      clear hK K hb
      (refine tk 7 ?_ rfl (Or.inl ⟨by rfl, ?_⟩) ?_; rotate_left; (focus (intro w h; (try dsimp only at h); go_simp; (try with_reducible rfl))); simp only [Act.put, tA, tB, tC, tD, tE, tF])
      (refine tk 8 ?_ rfl (Or.inl ⟨by rfl, ?_⟩) ?_; rotate_left; (focus (intro w h; (try dsimp only at h); go_simp; (try with_reducible rfl))); simp only [Act.put, tA, tB, tC, tD, tE, tF])
      (refine tk 9 ?_ rfl (Or.inl ⟨by rfl, ?_⟩) ?_; rotate_left; (focus (intro w h; (try dsimp only at h); go_simp; (try with_reducible rfl))); simp only [Act.put, tA, tB, tC, tD, tE, tF])
      (refine tk 10 ?_ rfl (Or.inl ⟨by rfl, ?_⟩) ?_; rotate_left; (focus (intro w h; (try dsimp only at h); go_simp; (try with_reducible rfl))); simp only [Act.put, tA, tB, tC, tD, tE, tF])
      (refine tk 13 ?_ rfl (Or.inl ⟨by rfl, ?_⟩) ?_; rotate_left; (focus (intro w h; (try dsimp only at h); go_simp; (try with_reducible rfl))); simp only [Act.put, tA, tB, tC, tD, tE, tF])
      (refine tk 15 ?_ rfl (Or.inl ⟨by rfl, ?_⟩) ?_; rotate_left; (focus (intro w h; (try dsimp only at h); go_simp; (try with_reducible rfl))); simp only [Act.put, tA, tB, tC, tD, tE, tF])
      (refine tk 16 ?_ rfl (Or.inl ⟨by rfl, ?_⟩) ?_; rotate_left; (focus (intro w h; (try dsimp only at h); go_simp; (try with_reducible rfl))); simp only [Act.put, tA, tB, tC, tD, tE, tF])
      as_aux_lemma =>
      refine wpAnyH_ready (rs := [11]) (by kernel_rfl) (by simp) ?_
      refine AllReadyH.cons rfl (fun K hK => ?_) AllReadyH.nil
      go_simp
      go_wp2_with fail
      refine (all20 _).mono ?_
      rintro e x11 ⟨rfl, hb⟩
      replace HBw : Hid (Below w.heap.size w x11) := HBw.out.trans (hb.mono HBw.out.size)
      replace ZR : Hid (TRows x11 sa zs) := ZR.out.below hb
      replace YR : Hid (TRows x11 la ys) := YR.out.below hb
      replace RM : Hid (GRow encR x11 ma F) := RM.out.below hb
      replace OP : Hid (GOwn encR 62 x11 vo.heap.size (.slice pa p1 pc) ms1) := OP.out.below hb
      replace RP : Hid (GRow encR x11 pa ms1) := RP.out.below hb
      replace TP : Hid (TRow x11 px.t px.ra px.wa) := TP.out.below hb
      replace B9 : Hid (Bx x11 w2.heap.size [.int .i64 px.t.id, .int .i64 px.t.st, .int .i64 px.t.snap, .int .i64 px.t.cs, .slice px.ra px.t.rs.length px.rc, .slice px.wa px.t.ws.length px.wc, .bool px.t.out, .string px.t.nm]) := B9.out.below hb
      replace RQ : Hid (GRow encR x11 qa ms2) := RQ.out.below hb
      replace B11 : Hid (Bx x11 w4.heap.size [.string rg.1, .string rg.2]) := B11.out.below hb
      replace TBx : Hid (TRow x11 bx.t bx.ra bx.wa) := TBx.out.below hb
      replace TBz : Hid (TRow x11 bz.t bz.ra bz.wa) := TBz.out.below hb
      replace B12 : Hid (Bx x11 w6.heap.size [.int .i64 bx.t.id, .int .i64 bx.t.st, .int .i64 bx.t.snap, .int .i64 bx.t.cs, .slice bx.ra bx.t.rs.length bx.rc, .slice bx.wa bx.t.ws.length bx.wc, .bool bx.t.out, .string bx.t.nm]) := B12.out.below hb
      replace B13 : Hid (Bx x11 (w6.heap.size + 1) [.int .i64 bz.t.id, .int .i64 bz.t.st, .int .i64 bz.t.snap, .int .i64 bz.t.cs, .slice bz.ra bz.t.rs.length bz.rc, .slice bz.wa bz.t.ws.length bz.wc, .bool bz.t.out, .string bz.t.nm]) := B13.out.below hb
      replace RV : Hid (GRow encV x11 va vs) := RV.out.below hb
      go_wp2_with fail
      refine hK.out _ _ ⟨B9.out.c0, B9.out.c1, B9.out.c2, B9.out.c3, B9.out.c4, B9.out.c5, B9.out.c6, B9.out.c7, B11.out.c0, B11.out.c1, B12.out.c0, B12.out.c1, B12.out.c2, B12.out.c3, B12.out.c4, B12.out.c5, B12.out.c6, B12.out.c7, B13.out.c0, B13.out.c1, B13.out.c2, B13.out.c3, B13.out.c4, B13.out.c5, B13.out.c6, B13.out.c7⟩ (fun hHeld11 => ?_)
      clear hK K hb
      refine wpAnyH_ready (rs := [12]) (by kernel_rfl) (by simp) ?_
      refine AllReadyH.cons rfl (fun K hK => ?_) AllReadyH.nil
      go_simp
      go_wp2_with fail
      refine (iview F ma mc M allR HM.out (by omega) HFF.out _ RM.out).mono ?_
      rintro e x12 ⟨av, cv, rfl, ho, hb⟩
      replace HBw : Hid (Below w.heap.size w x12) := HBw.out.trans (hb.mono HBw.out.size)
      replace ZR : Hid (TRows x12 sa zs) := ZR.out.below hb
      replace YR : Hid (TRows x12 la ys) := YR.out.below hb
      replace RM : Hid (GRow encR x12 ma F) := RM.out.below hb
      replace OP : Hid (GOwn encR 62 x12 vo.heap.size (.slice pa p1 pc) ms1) := OP.out.below hb
      replace RP : Hid (GRow encR x12 pa ms1) := RP.out.below hb
      replace TP : Hid (TRow x12 px.t px.ra px.wa) := TP.out.below hb
      replace B9 : Hid (Bx x12 w2.heap.size [.int .i64 px.t.id, .int .i64 px.t.st, .int .i64 px.t.snap, .int .i64 px.t.cs, .slice px.ra px.t.rs.length px.rc, .slice px.wa px.t.ws.length px.wc, .bool px.t.out, .string px.t.nm]) := B9.out.below hb
      replace RQ : Hid (GRow encR x12 qa ms2) := RQ.out.below hb
      replace B11 : Hid (Bx x12 w4.heap.size [.string rg.1, .string rg.2]) := B11.out.below hb
      replace TBx : Hid (TRow x12 bx.t bx.ra bx.wa) := TBx.out.below hb
      replace TBz : Hid (TRow x12 bz.t bz.ra bz.wa) := TBz.out.below hb
      replace B12 : Hid (Bx x12 w6.heap.size [.int .i64 bx.t.id, .int .i64 bx.t.st, .int .i64 bx.t.snap, .int .i64 bx.t.cs, .slice bx.ra bx.t.rs.length bx.rc, .slice bx.wa bx.t.ws.length bx.wc, .bool bx.t.out, .string bx.t.nm]) := B12.out.below hb
      replace B13 : Hid (Bx x12 (w6.heap.size + 1) [.int .i64 bz.t.id, .int .i64 bz.t.st, .int .i64 bz.t.snap, .int .i64 bz.t.cs, .slice bz.ra bz.t.rs.length bz.rc, .slice bz.wa bz.t.ws.length bz.wc, .bool bz.t.out, .string bz.t.nm]) := B13.out.below hb
      replace RV : Hid (GRow encV x12 va vs) := RV.out.below hb
      have G12 := hide ho.grow
      clear ho
      rw [HVW.out] at G12 ⊢
      go_wp2_with fail
      refine hK.out _ _ ⟨B9.out.c0, B9.out.c1, B9.out.c2, B9.out.c3, B9.out.c4, B9.out.c5, B9.out.c6, B9.out.c7, B11.out.c0, B11.out.c1, B12.out.c0, B12.out.c1, B12.out.c2, B12.out.c3, B12.out.c4, B12.out.c5, B12.out.c6, B12.out.c7, B13.out.c0, B13.out.c1, B13.out.c2, B13.out.c3, B13.out.c4, B13.out.c5, B13.out.c6, B13.out.c7⟩ (fun hHeld12 => ?_)
      clear hK K hb
      refine wpAnyH_ready (rs := [14]) (by kernel_rfl) (by simp) ?_
      refine AllReadyH.cons rfl (fun K hK => ?_) AllReadyH.nil
      go_simp
      go_wp2_with fail
      refine (all20 _).mono ?_
      rintro e x14 ⟨rfl, hb⟩
      replace HBw : Hid (Below w.heap.size w x14) := HBw.out.trans (hb.mono HBw.out.size)
      replace ZR : Hid (TRows x14 sa zs) := ZR.out.below hb
      replace YR : Hid (TRows x14 la ys) := YR.out.below hb
      replace RM : Hid (GRow encR x14 ma F) := RM.out.below hb
      replace OP : Hid (GOwn encR 62 x14 vo.heap.size (.slice pa p1 pc) ms1) := OP.out.below hb
      replace RP : Hid (GRow encR x14 pa ms1) := RP.out.below hb
      replace TP : Hid (TRow x14 px.t px.ra px.wa) := TP.out.below hb
      replace B9 : Hid (Bx x14 w2.heap.size [.int .i64 px.t.id, .int .i64 px.t.st, .int .i64 px.t.snap, .int .i64 px.t.cs, .slice px.ra px.t.rs.length px.rc, .slice px.wa px.t.ws.length px.wc, .bool px.t.out, .string px.t.nm]) := B9.out.below hb
      replace RQ : Hid (GRow encR x14 qa ms2) := RQ.out.below hb
      replace B11 : Hid (Bx x14 w4.heap.size [.string rg.1, .string rg.2]) := B11.out.below hb
      replace TBx : Hid (TRow x14 bx.t bx.ra bx.wa) := TBx.out.below hb
      replace TBz : Hid (TRow x14 bz.t bz.ra bz.wa) := TBz.out.below hb
      replace B12 : Hid (Bx x14 w6.heap.size [.int .i64 bx.t.id, .int .i64 bx.t.st, .int .i64 bx.t.snap, .int .i64 bx.t.cs, .slice bx.ra bx.t.rs.length bx.rc, .slice bx.wa bx.t.ws.length bx.wc, .bool bx.t.out, .string bx.t.nm]) := B12.out.below hb
      replace B13 : Hid (Bx x14 (w6.heap.size + 1) [.int .i64 bz.t.id, .int .i64 bz.t.st, .int .i64 bz.t.snap, .int .i64 bz.t.cs, .slice bz.ra bz.t.rs.length bz.rc, .slice bz.wa bz.t.ws.length bz.wc, .bool bz.t.out, .string bz.t.nm]) := B13.out.below hb
      replace RV : Hid (GRow encV x14 va vs) := RV.out.below hb
      replace G12 : Hid (GRow encR x14 av (scanB vs allR (n : Int))) := G12.out.below hb
      go_wp2_with fail
      refine hK.out _ _ ⟨B9.out.c0, B9.out.c1, B9.out.c2, B9.out.c3, B9.out.c4, B9.out.c5, B9.out.c6, B9.out.c7, B11.out.c0, B11.out.c1, B12.out.c0, B12.out.c1, B12.out.c2, B12.out.c3, B12.out.c4, B12.out.c5, B12.out.c6, B12.out.c7, B13.out.c0, B13.out.c1, B13.out.c2, B13.out.c3, B13.out.c4, B13.out.c5, B13.out.c6, B13.out.c7⟩ (fun hHeld14 => ?_)
      clear hK K hb
      refine wpAnyH_ready (rs := [17]) (by kernel_rfl) (by simp) ?_
      refine AllReadyH.cons rfl (fun K hK => ?_) AllReadyH.nil
      go_simp
      go_wp2_with fail
      refine (sscan vs va vc allR (n : Int) (by omega) _ RV.out).mono ?_
      rintro e x17 ⟨aw, cw, rfl, ho, hb⟩
      replace HBw : Hid (Below w.heap.size w x17) := HBw.out.trans (hb.mono HBw.out.size)
      replace ZR : Hid (TRows x17 sa zs) := ZR.out.below hb
      replace YR : Hid (TRows x17 la ys) := YR.out.below hb
      replace RM : Hid (GRow encR x17 ma F) := RM.out.below hb
      replace OP : Hid (GOwn encR 62 x17 vo.heap.size (.slice pa p1 pc) ms1) := OP.out.below hb
      replace RP : Hid (GRow encR x17 pa ms1) := RP.out.below hb
      replace TP : Hid (TRow x17 px.t px.ra px.wa) := TP.out.below hb
      replace B9 : Hid (Bx x17 w2.heap.size [.int .i64 px.t.id, .int .i64 px.t.st, .int .i64 px.t.snap, .int .i64 px.t.cs, .slice px.ra px.t.rs.length px.rc, .slice px.wa px.t.ws.length px.wc, .bool px.t.out, .string px.t.nm]) := B9.out.below hb
      replace RQ : Hid (GRow encR x17 qa ms2) := RQ.out.below hb
      replace B11 : Hid (Bx x17 w4.heap.size [.string rg.1, .string rg.2]) := B11.out.below hb
      replace TBx : Hid (TRow x17 bx.t bx.ra bx.wa) := TBx.out.below hb
      replace TBz : Hid (TRow x17 bz.t bz.ra bz.wa) := TBz.out.below hb
      replace B12 : Hid (Bx x17 w6.heap.size [.int .i64 bx.t.id, .int .i64 bx.t.st, .int .i64 bx.t.snap, .int .i64 bx.t.cs, .slice bx.ra bx.t.rs.length bx.rc, .slice bx.wa bx.t.ws.length bx.wc, .bool bx.t.out, .string bx.t.nm]) := B12.out.below hb
      replace B13 : Hid (Bx x17 (w6.heap.size + 1) [.int .i64 bz.t.id, .int .i64 bz.t.st, .int .i64 bz.t.snap, .int .i64 bz.t.cs, .slice bz.ra bz.t.rs.length bz.rc, .slice bz.wa bz.t.ws.length bz.wc, .bool bz.t.out, .string bz.t.nm]) := B13.out.below hb
      replace RV : Hid (GRow encV x17 va vs) := RV.out.below hb
      replace G12 : Hid (GRow encR x17 av (scanB vs allR (n : Int))) := G12.out.below hb
      have G17 := hide ho.grow
      clear ho
      go_wp2_with fail
      refine hK.out _ _ ⟨B9.out.c0, B9.out.c1, B9.out.c2, B9.out.c3, B9.out.c4, B9.out.c5, B9.out.c6, B9.out.c7, B11.out.c0, B11.out.c1, B12.out.c0, B12.out.c1, B12.out.c2, B12.out.c3, B12.out.c4, B12.out.c5, B12.out.c6, B12.out.c7, B13.out.c0, B13.out.c1, B13.out.c2, B13.out.c3, B13.out.c4, B13.out.c5, B13.out.c6, B13.out.c7⟩ (fun hHeld17 => ?_)
      clear hK K hb
      have hsl : (scanB vs allR (n : Int)).length ≤ 100000000 := by rw [← HVW.out]; exact Nat.le_trans (List.length_filter_le _ _) (by rw [← HM.out]; omega)
      as_aux_lemma =>
      refine wpAnyH_ready (rs := [18]) (by kernel_rfl) (by simp) ?_
      refine AllReadyH.cons rfl (fun K hK => ?_) AllReadyH.nil
      go_simp
      go_wp2_with fail
      refine (lpairs (scanB vs allR (n : Int)) (scanB vs allR (n : Int)) av aw cv cw hsl _ G12.out G17.out).mono ?_
      rintro e x18 ⟨rfl, hb⟩
      replace HBw : Hid (Below w.heap.size w x18) := HBw.out.trans (hb.mono HBw.out.size)
      replace ZR : Hid (TRows x18 sa zs) := ZR.out.below hb
      replace YR : Hid (TRows x18 la ys) := YR.out.below hb
      replace RM : Hid (GRow encR x18 ma F) := RM.out.below hb
      replace OP : Hid (GOwn encR 62 x18 vo.heap.size (.slice pa p1 pc) ms1) := OP.out.below hb
      replace RP : Hid (GRow encR x18 pa ms1) := RP.out.below hb
      replace TP : Hid (TRow x18 px.t px.ra px.wa) := TP.out.below hb
      replace B9 : Hid (Bx x18 w2.heap.size [.int .i64 px.t.id, .int .i64 px.t.st, .int .i64 px.t.snap, .int .i64 px.t.cs, .slice px.ra px.t.rs.length px.rc, .slice px.wa px.t.ws.length px.wc, .bool px.t.out, .string px.t.nm]) := B9.out.below hb
      replace RQ : Hid (GRow encR x18 qa ms2) := RQ.out.below hb
      replace B11 : Hid (Bx x18 w4.heap.size [.string rg.1, .string rg.2]) := B11.out.below hb
      replace TBx : Hid (TRow x18 bx.t bx.ra bx.wa) := TBx.out.below hb
      replace TBz : Hid (TRow x18 bz.t bz.ra bz.wa) := TBz.out.below hb
      replace B12 : Hid (Bx x18 w6.heap.size [.int .i64 bx.t.id, .int .i64 bx.t.st, .int .i64 bx.t.snap, .int .i64 bx.t.cs, .slice bx.ra bx.t.rs.length bx.rc, .slice bx.wa bx.t.ws.length bx.wc, .bool bx.t.out, .string bx.t.nm]) := B12.out.below hb
      replace B13 : Hid (Bx x18 (w6.heap.size + 1) [.int .i64 bz.t.id, .int .i64 bz.t.st, .int .i64 bz.t.snap, .int .i64 bz.t.cs, .slice bz.ra bz.t.rs.length bz.rc, .slice bz.wa bz.t.ws.length bz.wc, .bool bz.t.out, .string bz.t.nm]) := B13.out.below hb
      replace RV : Hid (GRow encV x18 va vs) := RV.out.below hb
      replace G12 : Hid (GRow encR x18 av (scanB vs allR (n : Int))) := G12.out.below hb
      replace G17 : Hid (GRow encR x18 aw (scanB vs allR (n : Int))) := G17.out.below hb
      rw [decide_eq_true (rfl : scanB vs allR (n : Int) = scanB vs allR (n : Int))]
      go_wp2_with fail
      refine hK.out _ _ ⟨B9.out.c0, B9.out.c1, B9.out.c2, B9.out.c3, B9.out.c4, B9.out.c5, B9.out.c6, B9.out.c7, B11.out.c0, B11.out.c1, B12.out.c0, B12.out.c1, B12.out.c2, B12.out.c3, B12.out.c4, B12.out.c5, B12.out.c6, B12.out.c7, B13.out.c0, B13.out.c1, B13.out.c2, B13.out.c3, B13.out.c4, B13.out.c5, B13.out.c6, B13.out.c7⟩ (fun hHeld18 => ?_)
      clear hK K hb
      clear G12 G17 hsl
      (refine tk 19 ?_ rfl (Or.inl ⟨by rfl, ?_⟩) ?_; rotate_left; (focus (intro w h; (try dsimp only at h); go_simp; (try with_reducible rfl))); simp only [Act.put, tA, tB, tC, tD, tE, tF])
      (refine tk 20 ?_ rfl (Or.inl ⟨by rfl, ?_⟩) ?_; rotate_left; (focus (intro w h; (try dsimp only at h); go_simp; (try with_reducible rfl))); simp only [Act.put, tA, tB, tC, tD, tE, tF])
      (refine tk 21 ?_ rfl (Or.inl ⟨by rfl, ?_⟩) ?_; rotate_left; (focus (intro w h; (try dsimp only at h); go_simp; (try with_reducible rfl))); simp only [Act.put, tA, tB, tC, tD, tE, tF])
      (refine tk 22 ?_ rfl (Or.inl ⟨by rfl, ?_⟩) ?_; rotate_left; (focus (intro w h; (try dsimp only at h); go_simp; (try with_reducible rfl))); simp only [Act.put, tA, tB, tC, tD, tE, tF])
      (refine tk 24 ?_ rfl (Or.inl ⟨by rfl, ?_⟩) ?_; rotate_left; (focus (intro w h; (try dsimp only at h); go_simp; (try with_reducible rfl))); simp only [Act.put, tA, tB, tC, tD, tE, tF])
      (refine tk 25 ?_ rfl (Or.inl ⟨by rfl, ?_⟩) ?_; rotate_left; (focus (intro w h; (try dsimp only at h); go_simp; (try with_reducible rfl))); simp only [Act.put, tA, tB, tC, tD, tE, tF])
      refine wpAnyH_ready (rs := [23]) (by kernel_rfl) (by simp) ?_
      refine AllReadyH.cons rfl (fun K hK => ?_) AllReadyH.nil
      go_simp
      go_wp2_with fail
      refine (iplay ms1 pa pc p1 px.t px.ra px.wa px.rc px.wc HP1.out (by omega) (by have := HT1.out.wl; omega) HF1.out HT1.out.ws.fit HA1.out _ RP.out TP.out.w).mono ?_
      rintro e x23 ⟨ax, cx, Lx, rfl, hLx, ho, hb⟩
      replace HBw : Hid (Below w.heap.size w x23) := HBw.out.trans (hb.mono HBw.out.size)
      replace ZR : Hid (TRows x23 sa zs) := ZR.out.below hb
      replace YR : Hid (TRows x23 la ys) := YR.out.below hb
      replace RM : Hid (GRow encR x23 ma F) := RM.out.below hb
      replace OP : Hid (GOwn encR 62 x23 vo.heap.size (.slice pa p1 pc) ms1) := OP.out.below hb
      replace RP : Hid (GRow encR x23 pa ms1) := RP.out.below hb
      replace TP : Hid (TRow x23 px.t px.ra px.wa) := TP.out.below hb
      replace B9 : Hid (Bx x23 w2.heap.size [.int .i64 px.t.id, .int .i64 px.t.st, .int .i64 px.t.snap, .int .i64 px.t.cs, .slice px.ra px.t.rs.length px.rc, .slice px.wa px.t.ws.length px.wc, .bool px.t.out, .string px.t.nm]) := B9.out.below hb
      replace RQ : Hid (GRow encR x23 qa ms2) := RQ.out.below hb
      replace B11 : Hid (Bx x23 w4.heap.size [.string rg.1, .string rg.2]) := B11.out.below hb
      replace TBx : Hid (TRow x23 bx.t bx.ra bx.wa) := TBx.out.below hb
      replace TBz : Hid (TRow x23 bz.t bz.ra bz.wa) := TBz.out.below hb
      replace B12 : Hid (Bx x23 w6.heap.size [.int .i64 bx.t.id, .int .i64 bx.t.st, .int .i64 bx.t.snap, .int .i64 bx.t.cs, .slice bx.ra bx.t.rs.length bx.rc, .slice bx.wa bx.t.ws.length bx.wc, .bool bx.t.out, .string bx.t.nm]) := B12.out.below hb
      replace B13 : Hid (Bx x23 (w6.heap.size + 1) [.int .i64 bz.t.id, .int .i64 bz.t.st, .int .i64 bz.t.snap, .int .i64 bz.t.cs, .slice bz.ra bz.t.rs.length bz.rc, .slice bz.wa bz.t.ws.length bz.wc, .bool bz.t.out, .string bz.t.nm]) := B13.out.below hb
      replace RV : Hid (GRow encV x23 va vs) := RV.out.below hb
      have HLx := hide hLx
      have ho9 := ho
      rw [hLx] at ho9
      have G23 := hide ho9.grow
      clear ho ho9 hLx
      go_wp2_with fail
      refine hK.out _ _ ⟨B9.out.c0, B9.out.c1, B9.out.c2, B9.out.c3, B9.out.c4, B9.out.c5, B9.out.c6, B9.out.c7, B11.out.c0, B11.out.c1, B12.out.c0, B12.out.c1, B12.out.c2, B12.out.c3, B12.out.c4, B12.out.c5, B12.out.c6, B12.out.c7, B13.out.c0, B13.out.c1, B13.out.c2, B13.out.c3, B13.out.c4, B13.out.c5, B13.out.c6, B13.out.c7⟩ (fun hHeld23 => ?_)
      clear hK K hb
      refine wpAnyH_ready (rs := [26]) (by kernel_rfl) (by simp) ?_
      refine AllReadyH.cons rfl (fun K hK => ?_) AllReadyH.nil
      go_simp
      go_wp2_with fail
      refine (splay ms1 pa pc p1 px.t px.ra px.wa px.rc px.wc _ HP1.out (by omega) (by have := HT1.out.wl; omega) HA1.out _ OP.out TP.out.w).mono ?_
      rintro e x26 ⟨ay, cy, Ly, rfl, hLy, ho, hb⟩
      replace HBw : Hid (Below w.heap.size w x26) := HBw.out.trans (hb.mono HBw.out.size)
      replace ZR : Hid (TRows x26 sa zs) := ZR.out.below hb
      replace YR : Hid (TRows x26 la ys) := YR.out.below hb
      replace RM : Hid (GRow encR x26 ma F) := RM.out.below hb
      replace OP : Hid (GOwn encR 62 x26 vo.heap.size (.slice pa p1 pc) ms1) := OP.out.below hb
      replace RP : Hid (GRow encR x26 pa ms1) := RP.out.below hb
      replace TP : Hid (TRow x26 px.t px.ra px.wa) := TP.out.below hb
      replace B9 : Hid (Bx x26 w2.heap.size [.int .i64 px.t.id, .int .i64 px.t.st, .int .i64 px.t.snap, .int .i64 px.t.cs, .slice px.ra px.t.rs.length px.rc, .slice px.wa px.t.ws.length px.wc, .bool px.t.out, .string px.t.nm]) := B9.out.below hb
      replace RQ : Hid (GRow encR x26 qa ms2) := RQ.out.below hb
      replace B11 : Hid (Bx x26 w4.heap.size [.string rg.1, .string rg.2]) := B11.out.below hb
      replace TBx : Hid (TRow x26 bx.t bx.ra bx.wa) := TBx.out.below hb
      replace TBz : Hid (TRow x26 bz.t bz.ra bz.wa) := TBz.out.below hb
      replace B12 : Hid (Bx x26 w6.heap.size [.int .i64 bx.t.id, .int .i64 bx.t.st, .int .i64 bx.t.snap, .int .i64 bx.t.cs, .slice bx.ra bx.t.rs.length bx.rc, .slice bx.wa bx.t.ws.length bx.wc, .bool bx.t.out, .string bx.t.nm]) := B12.out.below hb
      replace B13 : Hid (Bx x26 (w6.heap.size + 1) [.int .i64 bz.t.id, .int .i64 bz.t.st, .int .i64 bz.t.snap, .int .i64 bz.t.cs, .slice bz.ra bz.t.rs.length bz.rc, .slice bz.wa bz.t.ws.length bz.wc, .bool bz.t.out, .string bz.t.nm]) := B13.out.below hb
      replace RV : Hid (GRow encV x26 va vs) := RV.out.below hb
      replace G23 : Hid (GRow encR x26 ax (playB ms1 px.t.ws)) := G23.out.below hb
      have ho9 := ho
      rw [hLy] at ho9
      have G26 := hide ho9.grow
      obtain rfl : Ly = Lx := hLy.trans HLx.out.symm
      clear ho ho9 hLy
      go_wp2_with fail
      refine hK.out _ _ ⟨B9.out.c0, B9.out.c1, B9.out.c2, B9.out.c3, B9.out.c4, B9.out.c5, B9.out.c6, B9.out.c7, B11.out.c0, B11.out.c1, B12.out.c0, B12.out.c1, B12.out.c2, B12.out.c3, B12.out.c4, B12.out.c5, B12.out.c6, B12.out.c7, B13.out.c0, B13.out.c1, B13.out.c2, B13.out.c3, B13.out.c4, B13.out.c5, B13.out.c6, B13.out.c7⟩ (fun hHeld26 => ?_)
      clear hK K hb
      have C27 : Hid (∀ W : World, GRow encR W ax (playB ms1 px.t.ws) → GRow encR W ay (playB ms1 px.t.ws) → Calls Tryz.prog 17 #[.slice ax Ly cx, .slice ay Ly cy] W fun e w' => e = .returned (.bool true) ∧ Below W.heap.size W w') := fun W h1 h2 => by
       have q := lcells (playB ms1 px.t.ws) (playB ms1 px.t.ws) ax ay cx cy (Nat.le_trans (playB_len _ _) (by have := HT1.out.wl; have := HP1.out; omega)) W h1 h2
       rw [← HLx.out, decide_eq_true rfl] at q
       exact q
      refine wpAnyH_ready (rs := [27]) (by kernel_rfl) (by simp) ?_
      refine AllReadyH.cons rfl (fun K hK => ?_) AllReadyH.nil
      go_simp
      go_wp2_with fail
      refine (C27.out _ G23.out G26.out).mono ?_
      rintro e x27 ⟨rfl, hb⟩
      replace HBw : Hid (Below w.heap.size w x27) := HBw.out.trans (hb.mono HBw.out.size)
      replace ZR : Hid (TRows x27 sa zs) := ZR.out.below hb
      replace YR : Hid (TRows x27 la ys) := YR.out.below hb
      replace RM : Hid (GRow encR x27 ma F) := RM.out.below hb
      replace OP : Hid (GOwn encR 62 x27 vo.heap.size (.slice pa p1 pc) ms1) := OP.out.below hb
      replace RP : Hid (GRow encR x27 pa ms1) := RP.out.below hb
      replace TP : Hid (TRow x27 px.t px.ra px.wa) := TP.out.below hb
      replace B9 : Hid (Bx x27 w2.heap.size [.int .i64 px.t.id, .int .i64 px.t.st, .int .i64 px.t.snap, .int .i64 px.t.cs, .slice px.ra px.t.rs.length px.rc, .slice px.wa px.t.ws.length px.wc, .bool px.t.out, .string px.t.nm]) := B9.out.below hb
      replace RQ : Hid (GRow encR x27 qa ms2) := RQ.out.below hb
      replace B11 : Hid (Bx x27 w4.heap.size [.string rg.1, .string rg.2]) := B11.out.below hb
      replace TBx : Hid (TRow x27 bx.t bx.ra bx.wa) := TBx.out.below hb
      replace TBz : Hid (TRow x27 bz.t bz.ra bz.wa) := TBz.out.below hb
      replace B12 : Hid (Bx x27 w6.heap.size [.int .i64 bx.t.id, .int .i64 bx.t.st, .int .i64 bx.t.snap, .int .i64 bx.t.cs, .slice bx.ra bx.t.rs.length bx.rc, .slice bx.wa bx.t.ws.length bx.wc, .bool bx.t.out, .string bx.t.nm]) := B12.out.below hb
      replace B13 : Hid (Bx x27 (w6.heap.size + 1) [.int .i64 bz.t.id, .int .i64 bz.t.st, .int .i64 bz.t.snap, .int .i64 bz.t.cs, .slice bz.ra bz.t.rs.length bz.rc, .slice bz.wa bz.t.ws.length bz.wc, .bool bz.t.out, .string bz.t.nm]) := B13.out.below hb
      replace RV : Hid (GRow encV x27 va vs) := RV.out.below hb
      replace G23 : Hid (GRow encR x27 ax (playB ms1 px.t.ws)) := G23.out.below hb
      replace G26 : Hid (GRow encR x27 ay (playB ms1 px.t.ws)) := G26.out.below hb
      go_wp2_with fail
      refine hK.out _ _ ⟨B9.out.c0, B9.out.c1, B9.out.c2, B9.out.c3, B9.out.c4, B9.out.c5, B9.out.c6, B9.out.c7, B11.out.c0, B11.out.c1, B12.out.c0, B12.out.c1, B12.out.c2, B12.out.c3, B12.out.c4, B12.out.c5, B12.out.c6, B12.out.c7, B13.out.c0, B13.out.c1, B13.out.c2, B13.out.c3, B13.out.c4, B13.out.c5, B13.out.c6, B13.out.c7⟩ (fun hHeld27 => ?_)
      clear hK K hb
      clear G23 G26 C27
      (refine tk 28 ?_ rfl (Or.inl ⟨by rfl, ?_⟩) ?_; rotate_left; (focus (intro w h; (try dsimp only at h); go_simp; (try with_reducible rfl))); simp only [Act.put, tA, tB, tC, tD, tE, tF])
      (refine tk 29 ?_ rfl (Or.inl ⟨by rfl, ?_⟩) ?_; rotate_left; (focus (intro w h; (try dsimp only at h); go_simp; (try with_reducible rfl))); simp only [Act.put, tA, tB, tC, tD, tE, tF])
      (refine tk 30 ?_ rfl (Or.inl ⟨by rfl, ?_⟩) ?_; rotate_left; (focus (intro w h; (try dsimp only at h); go_simp; (try with_reducible rfl))); simp only [Act.put, tA, tB, tC, tD, tE, tF])
      (refine tk 31 ?_ rfl (Or.inl ⟨by rfl, ?_⟩) ?_; rotate_left; (focus (intro w h; (try dsimp only at h); go_simp; (try with_reducible rfl))); simp only [Act.put, tA, tB, tC, tD, tE, tF])
      (refine tk 33 ?_ rfl (Or.inl ⟨by rfl, ?_⟩) ?_; rotate_left; (focus (intro w h; (try dsimp only at h); go_simp; (try with_reducible rfl))); simp only [Act.put, tA, tB, tC, tD, tE, tF])
      (refine tk 34 ?_ rfl (Or.inl ⟨by rfl, ?_⟩) ?_; rotate_left; (focus (intro w h; (try dsimp only at h); go_simp; (try with_reducible rfl))); simp only [Act.put, tA, tB, tC, tD, tE, tF])
      as_aux_lemma =>
      refine wpAnyH_ready (rs := [32]) (by kernel_rfl) (by simp) ?_
      refine AllReadyH.cons rfl (fun K hK => ?_) AllReadyH.nil
      go_simp
      go_wp2_with fail
      refine (iview ms2 qa qc p2 rg HP2.out (by omega) HF2.out _ RQ.out).mono ?_
      rintro e x32 ⟨au, cu, rfl, ho, hb⟩
      replace HBw : Hid (Below w.heap.size w x32) := HBw.out.trans (hb.mono HBw.out.size)
      replace ZR : Hid (TRows x32 sa zs) := ZR.out.below hb
      replace YR : Hid (TRows x32 la ys) := YR.out.below hb
      replace RM : Hid (GRow encR x32 ma F) := RM.out.below hb
      replace OP : Hid (GOwn encR 62 x32 vo.heap.size (.slice pa p1 pc) ms1) := OP.out.below hb
      replace RP : Hid (GRow encR x32 pa ms1) := RP.out.below hb
      replace TP : Hid (TRow x32 px.t px.ra px.wa) := TP.out.below hb
      replace B9 : Hid (Bx x32 w2.heap.size [.int .i64 px.t.id, .int .i64 px.t.st, .int .i64 px.t.snap, .int .i64 px.t.cs, .slice px.ra px.t.rs.length px.rc, .slice px.wa px.t.ws.length px.wc, .bool px.t.out, .string px.t.nm]) := B9.out.below hb
      replace RQ : Hid (GRow encR x32 qa ms2) := RQ.out.below hb
      replace B11 : Hid (Bx x32 w4.heap.size [.string rg.1, .string rg.2]) := B11.out.below hb
      replace TBx : Hid (TRow x32 bx.t bx.ra bx.wa) := TBx.out.below hb
      replace TBz : Hid (TRow x32 bz.t bz.ra bz.wa) := TBz.out.below hb
      replace B12 : Hid (Bx x32 w6.heap.size [.int .i64 bx.t.id, .int .i64 bx.t.st, .int .i64 bx.t.snap, .int .i64 bx.t.cs, .slice bx.ra bx.t.rs.length bx.rc, .slice bx.wa bx.t.ws.length bx.wc, .bool bx.t.out, .string bx.t.nm]) := B12.out.below hb
      replace B13 : Hid (Bx x32 (w6.heap.size + 1) [.int .i64 bz.t.id, .int .i64 bz.t.st, .int .i64 bz.t.snap, .int .i64 bz.t.cs, .slice bz.ra bz.t.rs.length bz.rc, .slice bz.wa bz.t.ws.length bz.wc, .bool bz.t.out, .string bz.t.nm]) := B13.out.below hb
      replace RV : Hid (GRow encV x32 va vs) := RV.out.below hb
      have G32 := hide ho.grow
      clear ho
      go_wp2_with fail
      refine hK.out _ _ ⟨B9.out.c0, B9.out.c1, B9.out.c2, B9.out.c3, B9.out.c4, B9.out.c5, B9.out.c6, B9.out.c7, B11.out.c0, B11.out.c1, B12.out.c0, B12.out.c1, B12.out.c2, B12.out.c3, B12.out.c4, B12.out.c5, B12.out.c6, B12.out.c7, B13.out.c0, B13.out.c1, B13.out.c2, B13.out.c3, B13.out.c4, B13.out.c5, B13.out.c6, B13.out.c7⟩ (fun hHeld32 => ?_)
      clear hK K hb
      refine wpAnyH_ready (rs := [35]) (by kernel_rfl) (by simp) ?_
      refine AllReadyH.cons rfl (fun K hK => ?_) AllReadyH.nil
      go_simp
      go_wp2_with fail
      refine (sview ms2 qa qc p2 rg HP2.out (by omega) _ RQ.out).mono ?_
      rintro e x35 ⟨at9, ct, rfl, ho, hb⟩
      replace HBw : Hid (Below w.heap.size w x35) := HBw.out.trans (hb.mono HBw.out.size)
      replace ZR : Hid (TRows x35 sa zs) := ZR.out.below hb
      replace YR : Hid (TRows x35 la ys) := YR.out.below hb
      replace RM : Hid (GRow encR x35 ma F) := RM.out.below hb
      replace OP : Hid (GOwn encR 62 x35 vo.heap.size (.slice pa p1 pc) ms1) := OP.out.below hb
      replace RP : Hid (GRow encR x35 pa ms1) := RP.out.below hb
      replace TP : Hid (TRow x35 px.t px.ra px.wa) := TP.out.below hb
      replace B9 : Hid (Bx x35 w2.heap.size [.int .i64 px.t.id, .int .i64 px.t.st, .int .i64 px.t.snap, .int .i64 px.t.cs, .slice px.ra px.t.rs.length px.rc, .slice px.wa px.t.ws.length px.wc, .bool px.t.out, .string px.t.nm]) := B9.out.below hb
      replace RQ : Hid (GRow encR x35 qa ms2) := RQ.out.below hb
      replace B11 : Hid (Bx x35 w4.heap.size [.string rg.1, .string rg.2]) := B11.out.below hb
      replace TBx : Hid (TRow x35 bx.t bx.ra bx.wa) := TBx.out.below hb
      replace TBz : Hid (TRow x35 bz.t bz.ra bz.wa) := TBz.out.below hb
      replace B12 : Hid (Bx x35 w6.heap.size [.int .i64 bx.t.id, .int .i64 bx.t.st, .int .i64 bx.t.snap, .int .i64 bx.t.cs, .slice bx.ra bx.t.rs.length bx.rc, .slice bx.wa bx.t.ws.length bx.wc, .bool bx.t.out, .string bx.t.nm]) := B12.out.below hb
      replace B13 : Hid (Bx x35 (w6.heap.size + 1) [.int .i64 bz.t.id, .int .i64 bz.t.st, .int .i64 bz.t.snap, .int .i64 bz.t.cs, .slice bz.ra bz.t.rs.length bz.rc, .slice bz.wa bz.t.ws.length bz.wc, .bool bz.t.out, .string bz.t.nm]) := B13.out.below hb
      replace RV : Hid (GRow encV x35 va vs) := RV.out.below hb
      replace G32 : Hid (GRow encR x35 au (viewB ms2 rg)) := G32.out.below hb
      have G35 := hide ho.grow
      clear ho
      go_wp2_with fail
      refine hK.out _ _ ⟨B9.out.c0, B9.out.c1, B9.out.c2, B9.out.c3, B9.out.c4, B9.out.c5, B9.out.c6, B9.out.c7, B11.out.c0, B11.out.c1, B12.out.c0, B12.out.c1, B12.out.c2, B12.out.c3, B12.out.c4, B12.out.c5, B12.out.c6, B12.out.c7, B13.out.c0, B13.out.c1, B13.out.c2, B13.out.c3, B13.out.c4, B13.out.c5, B13.out.c6, B13.out.c7⟩ (fun hHeld35 => ?_)
      clear hK K hb
      have hsl : (viewB ms2 rg).length ≤ 100000000 := Nat.le_trans (List.length_filter_le _ _) (by rw [← HP2.out]; omega)
      refine wpAnyH_ready (rs := [36]) (by kernel_rfl) (by simp) ?_
      refine AllReadyH.cons rfl (fun K hK => ?_) AllReadyH.nil
      go_simp
      go_wp2_with fail
      refine (lpairs (viewB ms2 rg) (viewB ms2 rg) au at9 cu ct hsl _ G32.out G35.out).mono ?_
      rintro e x36 ⟨rfl, hb⟩
      replace HBw : Hid (Below w.heap.size w x36) := HBw.out.trans (hb.mono HBw.out.size)
      replace ZR : Hid (TRows x36 sa zs) := ZR.out.below hb
      replace YR : Hid (TRows x36 la ys) := YR.out.below hb
      replace RM : Hid (GRow encR x36 ma F) := RM.out.below hb
      replace OP : Hid (GOwn encR 62 x36 vo.heap.size (.slice pa p1 pc) ms1) := OP.out.below hb
      replace RP : Hid (GRow encR x36 pa ms1) := RP.out.below hb
      replace TP : Hid (TRow x36 px.t px.ra px.wa) := TP.out.below hb
      replace B9 : Hid (Bx x36 w2.heap.size [.int .i64 px.t.id, .int .i64 px.t.st, .int .i64 px.t.snap, .int .i64 px.t.cs, .slice px.ra px.t.rs.length px.rc, .slice px.wa px.t.ws.length px.wc, .bool px.t.out, .string px.t.nm]) := B9.out.below hb
      replace RQ : Hid (GRow encR x36 qa ms2) := RQ.out.below hb
      replace B11 : Hid (Bx x36 w4.heap.size [.string rg.1, .string rg.2]) := B11.out.below hb
      replace TBx : Hid (TRow x36 bx.t bx.ra bx.wa) := TBx.out.below hb
      replace TBz : Hid (TRow x36 bz.t bz.ra bz.wa) := TBz.out.below hb
      replace B12 : Hid (Bx x36 w6.heap.size [.int .i64 bx.t.id, .int .i64 bx.t.st, .int .i64 bx.t.snap, .int .i64 bx.t.cs, .slice bx.ra bx.t.rs.length bx.rc, .slice bx.wa bx.t.ws.length bx.wc, .bool bx.t.out, .string bx.t.nm]) := B12.out.below hb
      replace B13 : Hid (Bx x36 (w6.heap.size + 1) [.int .i64 bz.t.id, .int .i64 bz.t.st, .int .i64 bz.t.snap, .int .i64 bz.t.cs, .slice bz.ra bz.t.rs.length bz.rc, .slice bz.wa bz.t.ws.length bz.wc, .bool bz.t.out, .string bz.t.nm]) := B13.out.below hb
      replace RV : Hid (GRow encV x36 va vs) := RV.out.below hb
      replace G32 : Hid (GRow encR x36 au (viewB ms2 rg)) := G32.out.below hb
      replace G35 : Hid (GRow encR x36 at9 (viewB ms2 rg)) := G35.out.below hb
      rw [decide_eq_true (rfl : viewB ms2 rg = viewB ms2 rg)]
      go_wp2_with fail
      refine hK.out _ _ ⟨B9.out.c0, B9.out.c1, B9.out.c2, B9.out.c3, B9.out.c4, B9.out.c5, B9.out.c6, B9.out.c7, B11.out.c0, B11.out.c1, B12.out.c0, B12.out.c1, B12.out.c2, B12.out.c3, B12.out.c4, B12.out.c5, B12.out.c6, B12.out.c7, B13.out.c0, B13.out.c1, B13.out.c2, B13.out.c3, B13.out.c4, B13.out.c5, B13.out.c6, B13.out.c7⟩ (fun hHeld36 => ?_)
      clear hK K hb
      clear G32 G35 hsl
      (refine tk 37 ?_ rfl (Or.inl ⟨by rfl, ?_⟩) ?_; rotate_left; (focus (intro w h; (try dsimp only at h); go_simp; (try with_reducible rfl))); simp only [Act.put, tA, tB, tC, tD, tE, tF])
      (refine tk 38 ?_ rfl (Or.inl ⟨by rfl, ?_⟩) ?_; rotate_left; (focus (intro w h; (try dsimp only at h); go_simp; (try with_reducible rfl))); simp only [Act.put, tA, tB, tC, tD, tE, tF])
      (refine tk 39 ?_ rfl (Or.inl ⟨by rfl, ?_⟩) ?_; rotate_left; (focus (intro w h; (try dsimp only at h); go_simp; (try with_reducible rfl))); simp only [Act.put, tA, tB, tC, tD, tE, tF])
      (refine tk 40 ?_ rfl (Or.inl ⟨by rfl, ?_⟩) ?_; rotate_left; (focus (intro w h; (try dsimp only at h); go_simp; (try with_reducible rfl))); simp only [Act.put, tA, tB, tC, tD, tE, tF])
      (refine tk 42 ?_ rfl (Or.inl ⟨by rfl, ?_⟩) ?_; rotate_left; (focus (intro w h; (try dsimp only at h); go_simp; (try with_reducible rfl))); simp only [Act.put, tA, tB, tC, tD, tE, tF])
      (refine tk 43 ?_ rfl (Or.inl ⟨by rfl, ?_⟩) ?_; rotate_left; (focus (intro w h; (try dsimp only at h); go_simp; (try with_reducible rfl))); simp only [Act.put, tA, tB, tC, tD, tE, tF])
      refine wpAnyH_ready (rs := [41]) (by kernel_rfl) (by simp) ?_
      refine AllReadyH.cons rfl (fun K hK => ?_) AllReadyH.nil
      go_simp
      go_wp2_with fail
      refine (C41.out _ TBx.out TBz.out).mono ?_
      rintro e x41 ⟨rfl, hb⟩
      replace HBw : Hid (Below w.heap.size w x41) := HBw.out.trans (hb.mono HBw.out.size)
      replace ZR : Hid (TRows x41 sa zs) := ZR.out.below hb
      replace YR : Hid (TRows x41 la ys) := YR.out.below hb
      replace RM : Hid (GRow encR x41 ma F) := RM.out.below hb
      replace OP : Hid (GOwn encR 62 x41 vo.heap.size (.slice pa p1 pc) ms1) := OP.out.below hb
      replace RP : Hid (GRow encR x41 pa ms1) := RP.out.below hb
      replace TP : Hid (TRow x41 px.t px.ra px.wa) := TP.out.below hb
      replace B9 : Hid (Bx x41 w2.heap.size [.int .i64 px.t.id, .int .i64 px.t.st, .int .i64 px.t.snap, .int .i64 px.t.cs, .slice px.ra px.t.rs.length px.rc, .slice px.wa px.t.ws.length px.wc, .bool px.t.out, .string px.t.nm]) := B9.out.below hb
      replace RQ : Hid (GRow encR x41 qa ms2) := RQ.out.below hb
      replace B11 : Hid (Bx x41 w4.heap.size [.string rg.1, .string rg.2]) := B11.out.below hb
      replace TBx : Hid (TRow x41 bx.t bx.ra bx.wa) := TBx.out.below hb
      replace TBz : Hid (TRow x41 bz.t bz.ra bz.wa) := TBz.out.below hb
      replace B12 : Hid (Bx x41 w6.heap.size [.int .i64 bx.t.id, .int .i64 bx.t.st, .int .i64 bx.t.snap, .int .i64 bx.t.cs, .slice bx.ra bx.t.rs.length bx.rc, .slice bx.wa bx.t.ws.length bx.wc, .bool bx.t.out, .string bx.t.nm]) := B12.out.below hb
      replace B13 : Hid (Bx x41 (w6.heap.size + 1) [.int .i64 bz.t.id, .int .i64 bz.t.st, .int .i64 bz.t.snap, .int .i64 bz.t.cs, .slice bz.ra bz.t.rs.length bz.rc, .slice bz.wa bz.t.ws.length bz.wc, .bool bz.t.out, .string bz.t.nm]) := B13.out.below hb
      replace RV : Hid (GRow encV x41 va vs) := RV.out.below hb
      go_wp2_with fail
      refine hK.out _ _ ⟨B9.out.c0, B9.out.c1, B9.out.c2, B9.out.c3, B9.out.c4, B9.out.c5, B9.out.c6, B9.out.c7, B11.out.c0, B11.out.c1, B12.out.c0, B12.out.c1, B12.out.c2, B12.out.c3, B12.out.c4, B12.out.c5, B12.out.c6, B12.out.c7, B13.out.c0, B13.out.c1, B13.out.c2, B13.out.c3, B13.out.c4, B13.out.c5, B13.out.c6, B13.out.c7⟩ (fun hHeld41 => ?_)
      clear hK K hb
      as_aux_lemma =>
      refine wpAnyH_ready (rs := [44]) (by kernel_rfl) (by simp) ?_
      refine AllReadyH.cons rfl (fun K hK => ?_) AllReadyH.nil
      go_simp
      go_wp2_with fail
      refine (C44.out _ TBx.out TBz.out).mono ?_
      rintro e x44 ⟨rfl, hb⟩
      replace HBw : Hid (Below w.heap.size w x44) := HBw.out.trans (hb.mono HBw.out.size)
      replace ZR : Hid (TRows x44 sa zs) := ZR.out.below hb
      replace YR : Hid (TRows x44 la ys) := YR.out.below hb
      replace RM : Hid (GRow encR x44 ma F) := RM.out.below hb
      replace OP : Hid (GOwn encR 62 x44 vo.heap.size (.slice pa p1 pc) ms1) := OP.out.below hb
      replace RP : Hid (GRow encR x44 pa ms1) := RP.out.below hb
      replace TP : Hid (TRow x44 px.t px.ra px.wa) := TP.out.below hb
      replace B9 : Hid (Bx x44 w2.heap.size [.int .i64 px.t.id, .int .i64 px.t.st, .int .i64 px.t.snap, .int .i64 px.t.cs, .slice px.ra px.t.rs.length px.rc, .slice px.wa px.t.ws.length px.wc, .bool px.t.out, .string px.t.nm]) := B9.out.below hb
      replace RQ : Hid (GRow encR x44 qa ms2) := RQ.out.below hb
      replace B11 : Hid (Bx x44 w4.heap.size [.string rg.1, .string rg.2]) := B11.out.below hb
      replace TBx : Hid (TRow x44 bx.t bx.ra bx.wa) := TBx.out.below hb
      replace TBz : Hid (TRow x44 bz.t bz.ra bz.wa) := TBz.out.below hb
      replace B12 : Hid (Bx x44 w6.heap.size [.int .i64 bx.t.id, .int .i64 bx.t.st, .int .i64 bx.t.snap, .int .i64 bx.t.cs, .slice bx.ra bx.t.rs.length bx.rc, .slice bx.wa bx.t.ws.length bx.wc, .bool bx.t.out, .string bx.t.nm]) := B12.out.below hb
      replace B13 : Hid (Bx x44 (w6.heap.size + 1) [.int .i64 bz.t.id, .int .i64 bz.t.st, .int .i64 bz.t.snap, .int .i64 bz.t.cs, .slice bz.ra bz.t.rs.length bz.rc, .slice bz.wa bz.t.ws.length bz.wc, .bool bz.t.out, .string bz.t.nm]) := B13.out.below hb
      replace RV : Hid (GRow encV x44 va vs) := RV.out.below hb
      go_wp2_with fail
      refine hK.out _ _ ⟨B9.out.c0, B9.out.c1, B9.out.c2, B9.out.c3, B9.out.c4, B9.out.c5, B9.out.c6, B9.out.c7, B11.out.c0, B11.out.c1, B12.out.c0, B12.out.c1, B12.out.c2, B12.out.c3, B12.out.c4, B12.out.c5, B12.out.c6, B12.out.c7, B13.out.c0, B13.out.c1, B13.out.c2, B13.out.c3, B13.out.c4, B13.out.c5, B13.out.c6, B13.out.c7⟩ (fun hHeld44 => ?_)
      clear hK K hb
      (refine tk 45 ?_ rfl (Or.inl ⟨by rfl, ?_⟩) ?_; rotate_left; (focus (intro w h; (try dsimp only at h); go_simp; (try with_reducible rfl))); simp only [Act.put, tA, tB, tC, tD, tE, tF])
      (refine tk 46 ?_ rfl (Or.inl ⟨by rfl, ?_⟩) ?_; rotate_left; (focus (intro w h; (try dsimp only at h); go_simp; (try with_reducible rfl))); simp only [Act.put, tA, tB, tC, tD, tE, tF])
      (refine tk 47 ?_ rfl (Or.inl ⟨by rfl, ?_⟩) ?_; rotate_left; (focus (intro w h; (try dsimp only at h); go_simp; (try with_reducible rfl))); simp only [Act.put, tA, tB, tC, tD, tE, tF])
      refine wpAnyH_done (by kernel_rfl) ?_ _
      go_wp2
      go_ret
      exact ⟨rfl, HBw.out⟩
 ·rw [decide_eq_true (by omega)] at HBG
  go_enter Tryz.func3, Tryz.ntmps3
  go_wp2_with fail
  refine (HBG.out _).mono ?_
  rintro e w ⟨rfl, rfl⟩
  go_wp2
  go_ret
  exact ⟨rfl, belowRefl _⟩
end Go.Proofs.YtbajpnbodhhmjaaGreat

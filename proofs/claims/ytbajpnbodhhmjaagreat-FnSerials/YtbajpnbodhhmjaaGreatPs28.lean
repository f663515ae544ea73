/- SerialRight of the document is true where an order is found. -/
import Derived.Test.YtbajpnbodhhmjaaGreatPs01
import Derived.Test.YtbajpnbodhhmjaaGreatPs27
namespace Go.Proofs.YtbajpnbodhhmjaaGreat
open Go.RowKit
open KM
open VM
attribute [local go_sem ↓] Go.wp_at_zero Go.wp_at_succ

set_option maxRecDepth 100000 in
set_option maxHeartbeats 2000000 in
theorem sright (ys : List Ta) (a : Option Addr) (c n cs : Nat) (hny : n = ys.length) (hn : n ≤ 5) (hcs : cs ≤ 10) (hd : DonesD (txs ys) cs) (w : World) (hl : TRows w a ys) :
  Calls Tryz.prog 12 #[.slice a n c] w fun e w' => e = .returned (.bool (serB (txs ys)).isSome) ∧ Below w.heap.size w w' := by
 have HL : Hid (TRows w a ys) := hl
 have HNY : Hid (n = ys.length) := hny
 have HNT : Hid (n = (txs ys).length) := by show _ = _; rw [txs_len]; exact hny
 have HF : Hid (LFit (txs ys)) := hd.fit (by rw [txs_len]; omega)
 have HD := hide hd
 have HIS := hide (sserial ys a c n hny (by omega) HF.out w hl)
 clear hl hny hd
 cases hs : serB (txs ys) with
 | none =>
  rw [hs] at HIS
  clear hs
  go_enter Tryz.func12, Tryz.ntmps12
  go_wp2_with fail
  refine HIS.out.mono ?_
  rintro e w1 ⟨v, rfl, ho, hb⟩
  have HB : Hid (Below w.heap.size w w1) := hb
  clear ho hb
  go_wp2
  go_ret
  exact ⟨rfl, HB.out⟩
 | some o =>
  have HS : Hid (serB (txs ys) = some o) := hs
  have HO : Hid (serO (txs ys) = o) := by show serO _ = o; unfold serO; rw [hs]; rfl
  rw [hs, HO.out] at HIS
  clear hs
  have HPW := hide (serB_pw HS.out)
  have HLT : Hid (∀ j ∈ o, j < (txs ys).length) := HPW.out.1.lt
  have HOL : Hid (o.length = (txs ys).length) := HPW.out.2.2
  have HIV := hide (fun (W : World) (h : Below w.heap.size w W) => svers ys a c n cs HNY.out hn HD.out W (HL.out.below h))
  have HVL : Hid ((allV (txs ys)).length ≤ 15) := Nat.le_trans (allV_len _ (fun u hu => (HD.out.each u hu).1.wl)) (by rw [← HNT.out]; omega)
  have HSEE := hide (fun k (hk : k < o.length) => right_iff (by omega : cs ≤ 9999) HD.out HS.out k hk)
  obtain ⟨vs, hvs⟩ : ∃ vs, vs = allV (txs ys) := ⟨_, rfl⟩
  rw [← hvs] at HIV HVL HSEE
  clear hvs HPW
  go_enter Tryz.func12, Tryz.ntmps12
  go_wp2_with fail
  refine HIS.out.mono ?_
  rintro e w1 ⟨v, rfl, ho1, hb1⟩
  obtain ⟨m, hm⟩ : ∃ m, m = (o.map Int.ofNat).length := ⟨_, rfl⟩
  obtain ⟨a1, c1, rfl, hg1⟩ := ho1.row
  rw [← hm]
  have HMP : Hid (m = o.length) := by show _ = _; rw [hm, List.length_map]
  have hm5 : m ≤ 5 := by have h1 := HMP.out; have h2 := HOL.out; have h3 := HNT.out; omega
  have HB1 : Hid (Below w.heap.size w w1) := hb1
  have G1 := hide hg1
  clear hm ho1 hb1 hg1 HIS
  go_wp2_with fail
  refine (HIV.out _ HB1.out).mono ?_
  rintro e w2 ⟨a2, c2, rfl, ho2, hb2⟩
  have HB2 : Hid (Below w.heap.size w w2) := HB1.out.trans (hb2.mono HB1.out.size)
  have G2 := hide (G1.out.below hb2)
  have V2 : Hid (GRow encV w2 a2 vs) := ho2.grow
  have hvl := HVL.out
  clear hb2 ho2 G1 HB1 HIV
  go_wp2
  go_loopw [6, 7] (fun v s wr => ∃ k : Nat, k ≤ m ∧ s = .int .i64 k ∧ Hid (GOwn encR 62 wr w2.heap.size v (playL ((o.take k).map (tpl (txs ys))))) ∧ Hid (Below w2.heap.size w2 wr)) (fun _ s _ => m - (intOf s).toNat)
  case atStart => exact ⟨0, Nat.zero_le _, rfl, GOwn.empty _ _ (Nat.le_refl _), (belowRefl w2).alloc (Nat.le_refl _) _⟩
  case round =>
   obtain ⟨k, hk, rfl, HOc, HB⟩ := hrel
   obtain ⟨vo, hvo⟩ : ∃ z, z = wr := ⟨_, rfl⟩
   subst hvo
   by_cases hlt : k < m
   ·have hlt' : (k : Int) < (m : Int) := by omega
    have h0 : (0 : Int) ≤ (k : Int) := by omega
    have hko : k < o.length := by rw [← HMP.out]; exact hlt
    obtain ⟨b1, o1, rfl, hbl1, hc1⟩ := (G2.out.below HB.out) (by rw [List.length_map]; omega)
    have q0 := iat hc1 k (by rw [List.length_map]; exact hko)
    rw [List.getElem_map] at q0
    have hpt : o[k] < (txs ys).length := HLT.out _ (List.getElem_mem hko)
    have hpy : o[k] < ys.length := by rw [txs_len] at hpt; exact hpt
    have HBw : Hid (Below w.heap.size w vo) := HB2.out.trans (HB.out.mono HB2.out.size)
    obtain ⟨b2, o2, rfl, hbl2, hc, hr⟩ := (HL.out.below HBw.out).cls o[k] hpy
    have HNX := hide (playL_next (txs ys) o k hko)
    have HSK := hide (HSEE.out k hko)
    have HDk := hide (HD.out.each _ (List.getElem_mem hpt)).1
    have htp : tpl (txs ys) o[k] = ys[o[k]].t := by rw [tpl_eq _ _ hpt]; simp [txs]
    have htx : (txs ys)[o[k]] = ys[o[k]].t := by simp [txs]
    rw [htp] at HNX HSK
    rw [htx] at HDk
    have HCA := hide (playL_asc ((o.take k).map (tpl (txs ys))))
    have hcl : (playL ((o.take k).map (tpl (txs ys)))).length ≤ 15 := Nat.le_trans (playL_len _ (fun t ht => (HD.out.each t (tpl_mem HLT.out k t ht)).1.wl)) (by rw [List.length_map, List.length_take]; have := HOL.out; have := HNT.out; omega)
    obtain ⟨x, hx⟩ : ∃ x, x = ys[o[k]] := ⟨_, rfl⟩
    rw [← hx] at hc hr HNX HSK HDk
    obtain ⟨pi, hpi⟩ : ∃ pi, pi = o[k] := ⟨_, rfl⟩
    rw [← hpi] at q0 hc
    have hpn : pi < n := by rw [HNY.out, hpi]; exact hpy
    have hpn' : (pi : Int) < (n : Int) := by omega
    have hp0 : (0 : Int) ≤ (pi : Int) := by omega
    clear htp htx hpt hx hpi hpy hko hc1
    have q0' : vo.cell? ⟨b1, o1 + k, none⟩ = some (.int .i64 (pi : Int)) := q0
    clear q0
    obtain ⟨F, hF⟩ : ∃ F, F = playL ((o.take k).map (tpl (txs ys))) := ⟨_, rfl⟩
    rw [← hF] at HOc HNX HSK HCA hcl
    clear hF
    obtain ⟨a0, c0, rfl, hgr⟩ := HOc.out.row
    obtain ⟨M, hM⟩ : ∃ M, M = F.length := ⟨_, rfl⟩
    rw [← hM] at hcl HOc ⊢
    have HM : Hid (M = F.length) := hM
    have R0 := hide hgr
    have TR := hide hr
    clear hM hgr hr
    have r0 := hc.c0
    have r1 := hc.c1
    have r2 := hc.c2
    have r3 := hc.c3
    have r4 := hc.c4
    have r5 := hc.c5
    have r6 := hc.c6
    have r7 := hc.c7
    clear hc
    have X1 : Hid (Bx (vo.alloc (.cells #[.int .i64 x.t.id, .int .i64 x.t.st, .int .i64 x.t.snap, .int .i64 x.t.cs, .slice x.ra x.t.rs.length x.rc, .slice x.wa x.t.ws.length x.wc, .bool x.t.out, .string x.t.nm] 30)) vo.heap.size [.int .i64 x.t.id, .int .i64 x.t.st, .int .i64 x.t.snap, .int .i64 x.t.cs, .slice x.ra x.t.rs.length x.rc, .slice x.wa x.t.ws.length x.wc, .bool x.t.out, .string x.t.nm]) := Bx.new vo [.int .i64 x.t.id, .int .i64 x.t.st, .int .i64 x.t.snap, .int .i64 x.t.cs, .slice x.ra x.t.rs.length x.rc, .slice x.wa x.t.ws.length x.wc, .bool x.t.out, .string x.t.nm] 30
    have HBa : Hid (Below vo.heap.size vo (vo.alloc (.cells #[.int .i64 x.t.id, .int .i64 x.t.st, .int .i64 x.t.snap, .int .i64 x.t.cs, .slice x.ra x.t.rs.length x.rc, .slice x.wa x.t.ws.length x.wc, .bool x.t.out, .string x.t.nm] 30))) := (belowRefl vo).alloc (Nat.le_refl _) _
    go_upto_region 10 with fail
    clear r0 r1 r2 r3 r4 r5 r6 r7 q0' hbl1 hbl2
    generalize (vo.alloc (.cells #[.int .i64 x.t.id, .int .i64 x.t.st, .int .i64 x.t.snap, .int .i64 x.t.cs, .slice x.ra x.t.rs.length x.rc, .slice x.wa x.t.ws.length x.wc, .bool x.t.out, .string x.t.nm] 30)) = w5 at *
    go_wp2
    go_loopw [9] (fun s wr => ∃ j : Nat, j ≤ x.t.rs.length ∧ s = .int .i64 j ∧ Hid (Bx wr vo.heap.size [.int .i64 x.t.id, .int .i64 x.t.st, .int .i64 x.t.snap, .int .i64 x.t.cs, .slice x.ra x.t.rs.length x.rc, .slice x.wa x.t.ws.length x.wc, .bool x.t.out, .string x.t.nm]) ∧ Hid (Below vo.heap.size vo wr)) (fun s _ => x.t.rs.length - (intOf s).toNat)
    case atStart => exact ⟨0, Nat.zero_le _, rfl, X1, HBa⟩
    case round =>
     clear X1 HBa
     obtain ⟨j, hj, rfl, Xj, HBj⟩ := hrel
     by_cases hjl : j < x.t.rs.length
     ·have hjl' : (j : Int) < (x.t.rs.length : Int) := by omega
      have hj0 : (0 : Int) ≤ (j : Int) := by omega
      have hrl := HDk.out.rl
      have HS := hide (HSK.out _ (List.getElem_mem hjl))
      obtain ⟨br, er, hra, hbr, hcr⟩ := (TR.out.r.below HBj.out) (by omega)
      have q0 := (rat hcr j hjl).1
      have q1 := (rat hcr j hjl).2
      obtain ⟨rg, hrg⟩ : ∃ rg, rg = x.t.rs[j] := ⟨_, rfl⟩
      rw [← hrg] at q0 q1 HS
      have HRA := hide hra
      rw [hra] at Xj
      clear hrg hcr hra
      have x2 := Xj.out.c2
      have x4 := Xj.out.c4
      go_wp2
      refine wp_region_held_drew (S := fun w' => w'.cell? ⟨vo.heap.size, 2, none⟩ = some (.int .i64 x.t.snap) ∧ w'.cell? ⟨vo.heap.size, 4, none⟩ = some (.slice (some ⟨br, er, none⟩) x.t.rs.length x.rc) ∧ w'.cell? ⟨br, er + j * 2, none⟩ = some (.string rg.1) ∧ w'.cell? ⟨br, er + j * 2 + 1, none⟩ = some (.string rg.2)) (by kernel_rfl) ⟨x2, x4, q0, q1⟩ (fun hHeld => ?_)
      (refine tk 0 ?_ rfl (Or.inl ⟨by rfl, ?_⟩) ?_; rotate_left; (focus (intro w h; (try dsimp only at h); go_simp; (try with_reducible rfl))); simp only [Act.put, tA, tB, tD, tE, tF])
      (refine tk 1 ?_ rfl (Or.inl ⟨by rfl, ?_⟩) ?_; rotate_left; (focus (intro w h; (try dsimp only at h); go_simp; (try with_reducible rfl))); simp only [Act.put, tA, tB, tC, tD, tE, tF])
      (refine tk 2 ?_ rfl (Or.inl ⟨by rfl, ?_⟩) ?_; rotate_left; (focus (intro w h; (try dsimp only at h); go_simp; (try with_reducible rfl))); simp only [Act.put, tA, tB, tC, tD, tE, tF])
      (refine tk 3 ?_ rfl (Or.inl ⟨by rfl, ?_⟩) ?_; rotate_left; (focus (intro w h; (try dsimp only at h); go_simp; (try with_reducible rfl))); simp only [Act.put, tA, tB, tC, tD, tE, tF])
      (refine tk 4 ?_ rfl (Or.inl ⟨by rfl, ?_⟩) ?_; rotate_left; (focus (intro w h; (try dsimp only at h); go_simp; (try with_reducible rfl))); simp only [Act.put, tA, tB, tC, tD, tE, tF])
      (refine tk 5 ?_ rfl (Or.inl ⟨by rfl, ?_⟩) ?_; rotate_left; (focus (intro w h; (try dsimp only at h); go_simp; (try with_reducible rfl))); simp only [Act.put, tA, tB, tC, tD, tE, tF])
      (refine tk 7 ?_ rfl (Or.inl ⟨by rfl, ?_⟩) ?_; rotate_left; (focus (intro w h; (try dsimp only at h); go_simp; (try with_reducible rfl))); simp only [Act.put, tA, tB, tC, tD, tE, tF])
      (refine tk 8 ?_ rfl (Or.inl ⟨by rfl, ?_⟩) ?_; rotate_left; (focus (intro w h; (try dsimp only at h); go_simp; (try with_reducible rfl))); simp only [Act.put, tA, tB, tC, tD, tE, tF])
      (refine tk 9 ?_ rfl (Or.inl ⟨by rfl, ?_⟩) ?_; rotate_left; (focus (intro w h; (try dsimp only at h); go_simp; (try with_reducible rfl))); simp only [Act.put, tA, tB, tC, tD, tE, tF])
      (refine tk 10 ?_ rfl (Or.inl ⟨by rfl, ?_⟩) ?_; rotate_left; (focus (intro w h; (try dsimp only at h); go_simp; (try with_reducible rfl))); simp only [Act.put, tA, tB, tC, tD, tE, tF])
      (refine tk 11 ?_ rfl (Or.inl ⟨by rfl, ?_⟩) ?_; rotate_left; (focus (intro w h; (try dsimp only at h); go_simp; (try with_reducible rfl))); simp only [Act.put, tA, tB, tC, tD, tE, tF])
      (refine tk 12 ?_ rfl (Or.inl ⟨by rfl, ?_⟩) ?_; rotate_left; (focus (intro w h; (try dsimp only at h); go_simp; (try with_reducible rfl))); simp only [Act.put, tA, tB, tC, tD, tE, tF])
      (refine tk 13 ?_ rfl (Or.inl ⟨by rfl, ?_⟩) ?_; rotate_left; (focus (intro w h; (try dsimp only at h); go_simp; (try with_reducible rfl))); simp only [Act.put, tA, tB, tC, tD, tE, tF])
      (refine tk 14 ?_ rfl (Or.inl ⟨by rfl, ?_⟩) ?_; rotate_left; (focus (intro w h; (try dsimp only at h); go_simp; (try with_reducible rfl))); simp only [Act.put, tA, tB, tC, tD, tE, tF])
      refine wpAnyH_ready (rs := [6]) (by kernel_rfl) (by simp) ?_
      refine AllReadyH.cons rfl (fun K hK => ?_) AllReadyH.nil
      go_simp
      go_wp2_with fail
      refine (sview F a0 c0 M rg HM.out (by omega) _ (R0.out.below (HBj.out.trans ((belowRefl wr).drew.mono HBj.out.size)))).mono ?_
      rintro e w2b ⟨av, cv, rfl, ho2, hb3⟩
      have HB2j : Hid (Below wr.heap.size wr w2b) := undrew hb3
      have HB3 : Hid (Below wr.heap.size wr w2b) := HB2j
      have X3 := hide (Xj.out.below HB2j.out)
      have G2 := hide ho2.grow
      clear ho2
      rw [HS.out] at G2 ⊢
      go_wp2_with fail
      refine hK.out _ _ ⟨X3.out.c2, X3.out.c4, (HB3.out.cell (p := ⟨br, er + j * 2, none⟩) hbr).trans q0, (HB3.out.cell (p := ⟨br, er + j * 2 + 1, none⟩) hbr).trans q1⟩ (fun hHeld3 => ?_)
      clear hK K hb3
      refine wpAnyH_ready (rs := [15]) (by kernel_rfl) (by simp) ?_
      refine AllReadyH.cons rfl (fun K hK => ?_) AllReadyH.nil
      go_simp
      go_wp2_with fail
      refine (sscan vs a2 c2 rg x.t.snap (by omega) _ (V2.out.below (HB.out.trans ((HBj.out.trans (HB3.out.mono HBj.out.size)).mono HB.out.size)))).mono ?_
      rintro e w3b ⟨ax, cs2, rfl, ho3, hb4⟩
      have HB4 : Hid (Below wr.heap.size wr w3b) := HB3.out.trans (hb4.mono HB3.out.size)
      have X4 := hide (X3.out.below hb4)
      have G2a := hide (G2.out.below hb4)
      have G3 := hide ho3.grow
      clear ho3 G2
      go_wp2_with fail
      refine hK.out _ _ ⟨X4.out.c2, X4.out.c4, (HB4.out.cell (p := ⟨br, er + j * 2, none⟩) hbr).trans q0, (HB4.out.cell (p := ⟨br, er + j * 2 + 1, none⟩) hbr).trans q1⟩ (fun hHeld4 => ?_)
      clear hK K hb4
      have hsl : (scanB vs rg x.t.snap).length ≤ 100000000 := by rw [← HS.out]; exact Nat.le_trans (List.length_filter_le _ _) (by rw [← HM.out]; omega)
      refine wpAnyH_ready (rs := [16]) (by kernel_rfl) (by simp) ?_
      refine AllReadyH.cons rfl (fun K hK => ?_) AllReadyH.nil
      go_simp
      go_wp2_with fail
      refine (spairs (scanB vs rg x.t.snap) (scanB vs rg x.t.snap) av ax cv cs2 hsl _ G2a.out G3.out).mono ?_
      rintro e w4b ⟨rfl, hb5⟩
      rw [decide_eq_true (rfl : scanB vs rg x.t.snap = scanB vs rg x.t.snap)]
      have HB5 : Hid (Below wr.heap.size wr w4b) := HB4.out.trans (hb5.mono HB4.out.size)
      have X5 := hide (X4.out.below hb5)
      go_wp2_with fail
      refine hK.out _ _ ⟨X5.out.c2, X5.out.c4, (HB5.out.cell (p := ⟨br, er + j * 2, none⟩) hbr).trans q0, (HB5.out.cell (p := ⟨br, er + j * 2 + 1, none⟩) hbr).trans q1⟩ (fun hHeld5 => ?_)
      clear hK K hb5
      (refine tk 17 ?_ rfl (Or.inl ⟨by rfl, ?_⟩) ?_; rotate_left; (focus (intro w h; (try dsimp only at h); go_simp; (try with_reducible rfl))); simp only [Act.put, tA, tB, tC, tD, tE, tF])
      refine wpAnyH_done (by kernel_rfl) ?_ _
      have HB9 : Hid (Below vo.heap.size vo w4b) := HBj.out.trans (HB5.out.mono HBj.out.size)
      have X9 : Hid (Bx w4b vo.heap.size [.int .i64 x.t.id, .int .i64 x.t.st, .int .i64 x.t.snap, .int .i64 x.t.cs, .slice x.ra x.t.rs.length x.rc, .slice x.wa x.t.ws.length x.wc, .bool x.t.out, .string x.t.nm]) := by show Bx _ _ _; rw [HRA.out]; exact X5.out
      clear x2 x4 q0 q1 hbr X3 X4 X5 HB3 HB4 HB5 HB2j
      go_wp2
      go_roundw
      case rel => exact ⟨j + 1, by omega, by go_num, X9, HB9⟩
      case measure => simp [intOf]; omega
     ·have hjl' : ¬ (j : Int) < (x.t.rs.length : Int) := by omega
      have x0 := Xj.out.c0
      have x1 := Xj.out.c1
      have x2 := Xj.out.c2
      have x3 := Xj.out.c3
      have x4 := Xj.out.c4
      have x5 := Xj.out.c5
      have x6 := Xj.out.c6
      have x7 := Xj.out.c7
      go_wp2_with fail
      refine (splay F a0 c0 M x.t x.ra x.wa x.rc x.wc _ HM.out (by omega) (by have := HDk.out.wl; omega) HCA.out _ (HOc.out.below HBj.out) (TR.out.w.below HBj.out)).mono ?_
      rintro e w4 ⟨a4, c4, L4, rfl, hL4, ho4, hb4⟩
      have HBq : Hid (Below vo.heap.size vo w4) := HBj.out.trans (hb4.mono HBj.out.size)
      have HB4 : Hid (Below w2.heap.size w2 w4) := HB.out.trans (HBq.out.mono HB.out.size)
      have O4 : Hid (GOwn encR 62 w4 w2.heap.size (.slice a4 L4 c4) (playL ((o.take (k + 1)).map (tpl (txs ys))))) := by
       show GOwn _ _ _ _ _ _
       rw [HNX.out]
       exact ho4.mono (Nat.le_trans HB.out.size HBj.out.size)
      clear hL4 ho4 hb4 x0 x1 x2 x3 x4 x5 x6 x7
      go_wp2
      go_roundw
      case rel => exact ⟨k + 1, by omega, by go_num, O4, HB4⟩
      case measure => simp [intOf]; omega
   ·have hd : ¬ (k : Int) < (m : Int) := by omega
    have HBw : Hid (Below w.heap.size w vo) := HB2.out.trans (HB.out.mono HB2.out.size)
    go_wp2
    go_ret
    exact ⟨rfl, HBw.out⟩
end Go.Proofs.YtbajpnbodhhmjaaGreat

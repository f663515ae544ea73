/- SerialRight of the program is true where an order is found; the law FnOrderSees, walked. -/
import Derived.Test.YtbajpnbodhhmjaaPq28
import Derived.Test.YtbajpnbodhhmjaaPq12
namespace Go.Proofs.Ytbajpnbodhhmjaa
open Go.RowKit
open KM
open VM
attribute [local go_sem ↓] Go.wp_at_zero Go.wp_at_succ

theorem playL_len (ts : List Tx) : (∀ t ∈ ts, t.ws.length ≤ 3) → (playL ts).length ≤ 3 * ts.length := by
  refine snoc_ind (P := fun ts => (∀ t ∈ ts, t.ws.length ≤ 3) → (playL ts).length ≤ 3 * ts.length) (fun _ => Nat.zero_le _) (fun ts t ih h => ?_) ts
  rw [playL_snoc, List.length_append]
  have h1 := ih (fun u hu => h u (by simp [hu]))
  have h2 := h t (by simp)
  have h3 := playB_len t.ws (playL ts)
  simp
  omega
theorem playL_fit (ts : List Tx) : (∀ t ∈ ts, WFit t.ws) → RFit (playL ts) := by
  refine snoc_ind (P := fun ts => (∀ t ∈ ts, WFit t.ws) → RFit (playL ts)) (fun _ c hc => by cases hc) (fun ts t ih h => ?_) ts
  rw [playL_snoc]
  exact rfit_play _ _ (ih (fun u hu => h u (by simp [hu]))) (h t (by simp))
theorem playL_next (ts : List Tx) (o : List Nat) (k : Nat) (hk : k < o.length) : playL ((o.take (k + 1)).map (tpl ts)) = playB (playL ((o.take k).map (tpl ts))) (tpl ts o[k]).ws := by
  rw [List.take_add_one, List.getElem?_eq_getElem hk, List.map_append]
  exact playL_snoc _ _
theorem tpl_mem {ts : List Tx} {o : List Nat} (hlt : ∀ j ∈ o, j < ts.length) (k : Nat) : ∀ t ∈ (o.take k).map (tpl ts), t ∈ ts := fun t ht => by
  obtain ⟨j, hj, rfl⟩ := List.mem_map.1 ht
  have h := hlt j (List.mem_of_mem_take hj)
  rw [tpl_eq ts j h]
  exact List.getElem_mem h
set_option maxRecDepth 100000 in
set_option maxHeartbeats 1000000 in
theorem iright (ys : List Ta) (a : Option Addr) (c n cs : Nat) (hny : n = ys.length) (hn : n ≤ 5) (hcs : cs ≤ 10) (hd : DonesD (txs ys) cs) (w : World) (hl : TRows w a ys) :
    Calls Try.prog 11 #[.slice a n c] w fun e w' => e = .returned (.bool (serB (txs ys)).isSome) ∧ Below w.heap.size w w' := by
  have HL : Hid (TRows w a ys) := hl
  have HNY : Hid (n = ys.length) := hny
  have HNT : Hid (n = (txs ys).length) := by show _ = _; rw [txs_len]; exact hny
  have HF : Hid (LFit (txs ys)) := hd.fit (by rw [txs_len]; omega)
  have HD := hide hd
  have HIS := hide (iserial ys a c n hny (by omega) HF.out w hl)
  clear hl hny hd
  cases hs : serB (txs ys) with
  | none =>
    rw [hs] at HIS
    clear hs
    go_enter Try.func11, Try.ntmps11
    go_wp2_with fail
    refine HIS.out.mono ?_
    rintro e w1 ⟨v, rfl, ho, hb⟩
    have HB : Hid (Below w.heap.size w w1) := hb
    clear ho hb
    go_wp2
    go_ret
    exact ⟨rfl, HB.out⟩
  | some o =>
    have HS : Hid (serB (txs ys) = some o) := hs
    have HO : Hid (serO (txs ys) = o) := by show serO _ = o; unfold serO; rw [hs]; rfl
    rw [hs, HO.out] at HIS
    clear hs
    have HPW := hide (serB_pw HS.out)
    have HLT : Hid (∀ j ∈ o, j < (txs ys).length) := HPW.out.1.lt
    have HOL : Hid (o.length = (txs ys).length) := HPW.out.2.2
    have HIV := hide (fun (W : World) (h : Below w.heap.size w W) => ivall ys a c n cs HNY.out hn hcs HD.out W (HL.out.below h))
    have HVF : Hid (VsD (cs : Int) (allV (txs ys))) := allV_vsd (by omega) _ HD.out _ (by omega) (fun t ht => (HD.out.each t ht).2)
    have HVL : Hid ((allV (txs ys)).length ≤ 15) := Nat.le_trans (allV_len _ (fun u hu => (HD.out.each u hu).1.wl)) (by rw [← HNT.out]; omega)
    have HSEE : Hid (∀ k (hk : k < o.length), ∀ r ∈ (tpl (txs ys) o[k]).rs, viewB (playL ((o.take k).map (tpl (txs ys)))) r = scanB (allV (txs ys)) r (tpl (txs ys) o[k]).snap) := fun k hk r hr => order_sees (pre := o.take k) (post := o.drop (k + 1)) (i := o[k]) (by omega : cs ≤ 9999) HD.out HS.out (by rw [← List.drop_eq_getElem_cons hk, List.take_append_drop]) hr
    obtain ⟨vs, hvs⟩ : ∃ vs, vs = allV (txs ys) := ⟨_, rfl⟩
    rw [← hvs] at HIV HVF HVL HSEE
    clear hvs HPW
    go_enter Try.func11, Try.ntmps11
    go_wp2_with fail
    refine HIS.out.mono ?_
    rintro e w1 ⟨v, rfl, ho1, hb1⟩
    obtain ⟨m, hm⟩ : ∃ m, m = (o.map Int.ofNat).length := ⟨_, rfl⟩
    obtain ⟨a1, c1, rfl, hg1⟩ := ho1.row
    rw [← hm]
    have HMP : Hid (m = o.length) := by show _ = _; rw [hm, List.length_map]
    have hm5 : m ≤ 5 := by have h1 := HMP.out; have h2 := HOL.out; have h3 := HNT.out; omega
    have HB1 : Hid (Below w.heap.size w w1) := hb1
    have G1 := hide hg1
    clear hm ho1 hb1 hg1 HIS
    go_wp2_with fail
    refine (HIV.out _ HB1.out).mono ?_
    rintro e w2 ⟨a2, c2, rfl, ho2, hb2⟩
    have HB2 : Hid (Below w.heap.size w w2) := HB1.out.trans (hb2.mono HB1.out.size)
    have G2 := hide (G1.out.below hb2)
    have V2 : Hid (GRow encV w2 a2 vs) := ho2.grow
    clear hb2 ho2 G1 HB1 HIV
    go_wp2
    go_loopw [6, 20] (fun v s wr => ∃ k : Nat, k ≤ m ∧ s = .int .i64 k ∧ Hid (GOwn encR 75 wr w2.heap.size v (playL ((o.take k).map (tpl (txs ys))))) ∧ Hid (Below w2.heap.size w2 wr)) (fun _ s _ => m - (intOf s).toNat)
    case atStart => exact ⟨0, Nat.zero_le _, rfl, GOwn.nil _ _, belowRefl w2⟩
    case round =>
      obtain ⟨k, hk, rfl, HOc, HB⟩ := hrel
      by_cases hlt : k < m
      · have hlt' : (k : Int) < (m : Int) := by omega
        have h0 : (0 : Int) ≤ (k : Int) := by omega
        have hko : k < o.length := by rw [← HMP.out]; exact hlt
        obtain ⟨b1, o1, rfl, hbl1, hc1⟩ := (G2.out.below HB.out) (by rw [List.length_map]; omega)
        have q0 := iat hc1 k (by rw [List.length_map]; exact hko)
        rw [List.getElem_map] at q0
        have hpt : o[k] < (txs ys).length := HLT.out _ (List.getElem_mem hko)
        have hpy : o[k] < ys.length := by rw [txs_len] at hpt; exact hpt
        have HBw : Hid (Below w.heap.size w wr) := HB2.out.trans (HB.out.mono HB2.out.size)
        obtain ⟨b2, o2, rfl, hbl2, hc, hr⟩ := (HL.out.below HBw.out).cls o[k] hpy
        have HNX := hide (playL_next (txs ys) o k hko)
        have HSK := hide (HSEE.out k hko)
        have HDk := hide (HD.out.each _ (List.getElem_mem hpt)).1
        have htp : tpl (txs ys) o[k] = ys[o[k]].t := by rw [tpl_eq _ _ hpt]; simp [txs]
        have htx : (txs ys)[o[k]] = ys[o[k]].t := by simp [txs]
        rw [htp] at HNX HSK
        rw [htx] at HDk
        have HCF : Hid (RFit (playL ((o.take k).map (tpl (txs ys))))) := playL_fit _ (fun t ht => (HD.out.each t (tpl_mem HLT.out k t ht)).1.ws.fit)
        have HCA := hide (playL_asc ((o.take k).map (tpl (txs ys))))
        have hcl : (playL ((o.take k).map (tpl (txs ys)))).length ≤ 15 := Nat.le_trans (playL_len _ (fun t ht => (HD.out.each t (tpl_mem HLT.out k t ht)).1.wl)) (by rw [List.length_map, List.length_take]; have := HOL.out; have := HNT.out; omega)
        have HCL := hide (fun (W : World) (h : Below wr.heap.size wr W) => ((HL.out.below HBw.out).below h).cls o[k] hpy)
        obtain ⟨x, hx⟩ : ∃ x, x = ys[o[k]] := ⟨_, rfl⟩
        rw [← hx] at hc hr HNX HSK HDk HCL
        obtain ⟨pi, hpi⟩ : ∃ pi, pi = o[k] := ⟨_, rfl⟩
        rw [← hpi] at q0 hc HCL
        have hpn : pi < n := by rw [HNY.out, hpi]; exact hpy
        have hpn' : (pi : Int) < (n : Int) := by omega
        have hp0 : (0 : Int) ≤ (pi : Int) := by omega
        clear htp htx hpt hx hpi hpy hko hc1
        have q0' : wr.cell? ⟨b1, o1 + k, none⟩ = some (.int .i64 (pi : Int)) := q0
        clear q0
        obtain ⟨F, hF⟩ : ∃ F, F = playL ((o.take k).map (tpl (txs ys))) := ⟨_, rfl⟩
        rw [← hF] at HOc HNX HSK HCF HCA hcl
        clear hF
        obtain ⟨a0, c0, rfl, hgr⟩ := HOc.out.row
        obtain ⟨M, hM⟩ : ∃ M, M = F.length := ⟨_, rfl⟩
        rw [← hM] at hcl ⊢
        have HM : Hid (M = F.length) := hM
        have R0 := hide hgr
        have TR := hide hr
        clear hM hgr HOc hr
        have r0 := hc.c0
        have r1 := hc.c1
        have r2 := hc.c2
        have r3 := hc.c3
        have r4 := hc.c4
        have r5 := hc.c5
        have r6 := hc.c6
        have r7 := hc.c7
        clear hc
        go_wp2_with fail
        refine (iseesT x.t x.ra x.wa x.rc x.wc F a0 c0 M vs a2 c2 HM.out (by omega) HCF.out (by have := HVL.out; omega) HVF.out.fit (by have := HDk.out.rl; omega) HSK.out _ TR.out.r R0.out (V2.out.below HB.out)).mono ?_
        rintro e w3 ⟨rfl, hb3⟩
        have HB3 : Hid (Below w2.heap.size w2 w3) := HB.out.trans (hb3.mono HB.out.size)
        have R3 := hide (R0.out.below hb3)
        obtain ⟨b9, o9, e9, hbl9, hc9, hr9⟩ := HCL.out _ hb3
        cases e9
        have TR3 := hide hr9
        clear hb3 r0 r1 r2 r3 r4 r5 r6 r7 q0' R0 TR HB HCL hr9 hbl9 hbl2 hbl1
        have r0 := hc9.c0
        have r1 := hc9.c1
        have r2 := hc9.c2
        have r3 := hc9.c3
        have r4 := hc9.c4
        have r5 := hc9.c5
        have r6 := hc9.c6
        have r7 := hc9.c7
        clear hc9
        go_wp2_with fail
        refine (iplay F a0 c0 M x.t x.ra x.wa x.rc x.wc HM.out (by omega) (by have := HDk.out.wl; omega) HCF.out HDk.out.ws.fit HCA.out _ R3.out TR3.out.w).mono ?_
        rintro e w4 ⟨a4, c4, L4, rfl, hL4, ho4, hb4⟩
        have HB4 : Hid (Below w2.heap.size w2 w4) := HB3.out.trans (hb4.mono HB3.out.size)
        have O4 : Hid (GOwn encR 75 w4 w2.heap.size (.slice a4 L4 c4) (playL ((o.take (k + 1)).map (tpl (txs ys))))) := by
          show GOwn _ _ _ _ _ _
          rw [HNX.out]
          exact ho4.mono HB3.out.size
        clear hL4 ho4 hb4 r0 r1 r2 r3 r4 r5 r6 r7
        go_wp2
        go_roundw
        case rel => exact ⟨k + 1, by omega, by go_num, O4, HB4⟩
        case measure => simp [intOf]; omega
      · have hd : ¬ (k : Int) < (m : Int) := by omega
        have HBw : Hid (Below w.heap.size w wr) := HB2.out.trans (HB.out.mono HB2.out.size)
        go_wp2
        go_ret
        exact ⟨rfl, HBw.out⟩
set_option maxRecDepth 100000 in
set_option maxHeartbeats 1000000 in
theorem law4 (len cap : Nat) (a : Option Addr) (w : World) (hl0 : len ≤ 9223372036854775807) (hr : CodeRow w a len) :
    Calls Try.prog 4 #[.slice a len cap] w fun e w' => e = .returned (.bool true) ∧ Below w.heap.size w w' := by
  have HBG : Hid (∀ W : World, Calls Try.prog 5 #[.slice a len cap] W fun e w' => e = .returned (.bool (decide ((1048576 : Int) < (len : Int)))) ∧ w' = W) := fun W => big10 len cap a W
  have HR : Hid (CodeRow w a len) := hr
  clear hr
  by_cases hl : len ≤ 1048576
  · rw [decide_eq_false (by omega)] at HBG
    go_enter Try.func4, Try.ntmps4
    go_wp2_with fail
    refine (HBG.out _).mono ?_
    rintro e w ⟨rfl, rfl⟩
    go_wp2_with fail
    refine (dDones len cap a hl _ HR.out).mono ?_
    rintro e w1 ⟨ys, cs, la, lc, hd, hyl, hcs, rfl, ho, hb1⟩
    have HD := hide hd
    have HB1 := hide hb1
    have HF : Hid (LFit (txs ys)) := hd.fit (by rw [txs_len]; exact hyl)
    have HL : Hid (TRows w1 la ys) := ho.rows
    obtain ⟨n, hn⟩ : ∃ n, n = ys.length := ⟨_, rfl⟩
    have HN : Hid (n = ys.length) := hn
    have hn5 : n ≤ 5 := by omega
    have HONE : Hid (n ≤ 1 → (serB (txs ys)).isSome = true) := fun h => serB_one _ (by rw [txs_len, ← hn]; exact h)
    rw [← hn]
    clear hd ho hb1 hn hyl
    go_wp2_with fail
    refine (iserial ys la lc n HN.out (by omega) HF.out _ HL.out).mono ?_
    rintro e w2 ⟨v1, rfl, ho1, hb2⟩
    obtain ⟨m, hm⟩ : ∃ m, m = ((serO (txs ys)).map Int.ofNat).length := ⟨_, rfl⟩
    obtain ⟨a1, c1, rfl, hg1⟩ := ho1.row
    rw [← hm]
    have HB2 : Hid (Below w.heap.size w w2) := HB1.out.trans (hb2.mono HB1.out.size)
    have HR2 := hide (iright ys la lc n cs HN.out hn5 hcs HD.out w2 (HL.out.below hb2))
    obtain ⟨ok, hok⟩ : ∃ ok : Bool, ok = (serB (txs ys)).isSome := ⟨_, rfl⟩
    rw [← hok] at HR2 HONE ⊢
    clear hok hm ho1 hg1 hb2 HB1
    cases ok
    · have h1 : (1 : Int) < (n : Int) := by
        have h := HONE.out
        rcases Nat.lt_or_ge 1 n with h2 | h2
        · omega
        · exact absurd (h h2) (by simp)
      go_wp2_with fail
      refine HR2.out.mono ?_
      rintro e w3 ⟨rfl, hb3⟩
      have HB3 : Hid (Below w.heap.size w w3) := HB2.out.trans (hb3.mono HB2.out.size)
      clear hb3 HR2
      go_wp2
      go_ret
      exact ⟨rfl, HB3.out⟩
    · go_wp2_with fail
      refine HR2.out.mono ?_
      rintro e w3 ⟨rfl, hb3⟩
      have HB3 : Hid (Below w.heap.size w w3) := HB2.out.trans (hb3.mono HB2.out.size)
      clear hb3 HR2
      go_wp2
      go_ret
      exact ⟨rfl, HB3.out⟩
  · rw [decide_eq_true (by omega)] at HBG
    go_enter Try.func4, Try.ntmps4
    go_wp2_with fail
    refine (HBG.out _).mono ?_
    rintro e w ⟨rfl, rfl⟩
    go_wp2
    go_ret
    exact ⟨rfl, belowRefl _⟩
end Go.Proofs.Ytbajpnbodhhmjaa

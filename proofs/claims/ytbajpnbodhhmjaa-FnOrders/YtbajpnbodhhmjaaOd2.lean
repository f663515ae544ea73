/- The law FnOrders, walked. -/
import Derived.Test.YtbajpnbodhhmjaaOd1
import Derived.Test.YtbajpnbodhhmjaaNdOpenC
import Derived.Deep.RegionHeld3
namespace Go.Proofs.Ytbajpnbodhhmjaa
open Go.RowKit
open KM
attribute [local go_sem ↓] Go.wp_at_zero Go.wp_at_succ

theorem serB_one (ts : List Tx) (h : ts.length ≤ 1) : (serB ts).isSome = true := by
  unfold serB
  rcases Nat.lt_or_ge ts.length 1 with h0 | h0
  · rw [show ts.length = 0 by omega]; rfl
  · have e : ts.length = 1 := by omega
    have hn : nxt ts [] = some 0 := by
      refine nxt_first (by omega) ?_ (fun j hj => absurd hj (Nat.not_lt_zero _))
      rw [free_iff]
      refine ⟨by simp, fun k hk _ => ?_⟩
      rw [show k = 0 by omega]
      exact bef_self ts 0
    rw [e]
    show (match nxt ts [] with | none => none | some i => serF ts 0 ([] ++ [i])).isSome = true
    rw [hn]
    rfl
/-- nobody comes behind one that it must come before -/
def Pw (ts : List Tx) (o : List Nat) : Prop := o.Pairwise fun a b => bef ts b a = false
theorem serF_pw (ts : List Tx) : ∀ (f : Nat) (o p : List Nat), Ordd ts o → Pw ts o → serF ts f o = some p → Ordd ts p ∧ Pw ts p ∧ p.length = o.length + f
  | 0, o, p, h1, h2, h => by cases h; exact ⟨h1, h2, rfl⟩
  | f + 1, o, p, h1, h2, h => by
    unfold serF at h
    cases hn : nxt ts o with
    | none => rw [hn] at h; cases h
    | some i =>
      rw [hn] at h
      obtain ⟨hi, hf⟩ := nxt_some hn
      have h3 := h1.snoc hi hf
      have h4 : Pw ts (o ++ [i]) := by
        unfold Pw
        rw [List.pairwise_append]
        refine ⟨h2, List.pairwise_singleton _ _, fun a ha b hb => ?_⟩
        rw [List.mem_singleton.1 hb]
        exact h1.no a ha i hi ((free_iff ts o i).1 hf).1
      obtain ⟨q1, q2, q3⟩ := serF_pw ts f (o ++ [i]) p h3 h4 h
      refine ⟨q1, q2, ?_⟩
      rw [q3, List.length_append]
      simp
      omega
theorem serB_pw {ts : List Tx} {p : List Nat} (h : serB ts = some p) : Ordd ts p ∧ Pw ts p ∧ p.length = ts.length := by
  have := serF_pw ts ts.length [] p (Ordd.nil ts) List.Pairwise.nil h
  simpa using this

set_option maxRecDepth 100000 in
set_option maxHeartbeats 2000000 in
theorem law3 (len cap : Nat) (a : Option Addr) (w : World) (hl0 : len ≤ 9223372036854775807) (hr : CodeRow w a len) :
    Calls Try.prog 3 #[.slice a len cap] w fun e w' => e = .returned (.bool true) ∧ Below w.heap.size w w' := by
  have HBG : Hid (∀ W : World, Calls Try.prog 5 #[.slice a len cap] W fun e w' => e = .returned (.bool (decide ((1048576 : Int) < (len : Int)))) ∧ w' = W) := fun W => big10 len cap a W
  have HR : Hid (CodeRow w a len) := hr
  clear hr
  by_cases hl : len ≤ 1048576
  · rw [decide_eq_false (by omega)] at HBG
    go_enter Try.func3, Try.ntmps3
    go_wp2_with fail
    refine (HBG.out _).mono ?_
    rintro e w ⟨rfl, rfl⟩
    go_wp2_with fail
    refine (dDones len cap a hl _ HR.out).mono ?_
    rintro e w1 ⟨ys, cs, la, lc, hd, hyl, hcs, rfl, ho, hb1⟩
    have HD := hide hd
    have HO := hide ho
    have HB1 := hide hb1
    have HF : Hid (LFit (txs ys)) := hd.fit (by rw [txs_len]; exact hyl)
    have HL : Hid (TRows w1 la ys) := ho.rows
    clear hd ho hb1
    obtain ⟨n, hn⟩ : ∃ n, n = ys.length := ⟨_, rfl⟩
    have HN : Hid (n = ys.length) := hn
    have hn5 : n ≤ 5 := by omega
    rw [← hn]
    clear hn hyl hcs
    go_wp2_with fail
    refine (iserial ys la lc n HN.out (by omega) HF.out _ HL.out).mono ?_
    rintro e w2 ⟨v1, rfl, ho1, hb2⟩
    obtain ⟨p, hp⟩ : ∃ p : List Nat, p = serO (txs ys) := ⟨_, rfl⟩
    obtain ⟨ok, hok⟩ : ∃ ok : Bool, ok = (serB (txs ys)).isSome := ⟨_, rfl⟩
    obtain ⟨m, hm⟩ : ∃ m, m = (p.map Int.ofNat).length := ⟨_, rfl⟩
    rw [← hp] at ho1
    rw [← hok]
    obtain ⟨a1, c1, rfl, hg1⟩ := ho1.row
    rw [← hm]
    have HM : Hid (m = (p.map Int.ofNat).length) := hm
    have HMP : Hid (m = p.length) := by show _ = _; rw [hm, List.length_map]
    have HP := hide hp
    have HOK := hide hok
    clear hm hp hok
    have HB2 : Hid (Below w.heap.size w w2) := HB1.out.trans (hb2.mono HB1.out.size)
    have G1 := hide hg1
    have HL2 : Hid (TRows w2 la ys) := HL.out.below hb2
    clear ho1 hb2 hg1 HL
    go_wp2_with fail
    refine (sserial ys la lc n HN.out (by omega) HF.out _ HL2.out).mono ?_
    rintro e w3 ⟨v2, rfl, ho2, hb3⟩
    rw [← HP.out] at ho2
    rw [← HOK.out]
    obtain ⟨a2, c2, rfl, hg2⟩ := ho2.row
    rw [← HM.out]
    have HB3 : Hid (Below w.heap.size w w3) := HB2.out.trans (hb3.mono HB2.out.size)
    have G1' := hide (G1.out.below hb3)
    have G2 := hide hg2
    have HL3 : Hid (TRows w3 la ys) := HL2.out.below hb3
    clear ho2 hb3 hg2 HL2 G1
    cases ok
    · have HEm : Hid (p = []) := by
        show _ = _
        rw [HP.out]
        unfold serO
        have h := HOK.out
        cases hs : serB (txs ys) with
        | none => rfl
        | some q => rw [hs] at h; cases h
      have HN1 : Hid (1 < n) := by
        show _ < _
        rcases Nat.lt_or_ge 1 n with h | h
        · exact h
        · exfalso
          have := serB_one (txs ys) (by rw [txs_len, ← HN.out]; exact h)
          rw [← HOK.out] at this
          cases this
      have hm0 : m = 0 := by rw [HMP.out, HEm.out]; rfl
      subst hm0
      go_wp2_with fail
      refine (eqI9 (p.map Int.ofNat) a1 a2 c1 c2 0 HM.out (by omega) _ G1'.out G2.out).mono ?_
      rintro e w4 ⟨rfl, hb4⟩
      have HB4 : Hid (Below w.heap.size w w4) := HB3.out.trans (hb4.mono HB3.out.size)
      have hn1 := HN1.out
      have hn1' : (1 : Int) < (n : Int) := by omega
      have hnd : decide ((1 : Int) < (n : Int)) = true := decide_eq_true hn1'
      clear hb4 HN1
      go_wp2
      go_ret
      exact ⟨rfl, HB4.out⟩
    · have HSome : Hid (serB (txs ys) = some p) := by
        show _ = _
        rw [HP.out]
        unfold serO
        have h := HOK.out
        cases hs : serB (txs ys) with
        | none => rw [hs] at h; cases h
        | some q => rfl
      have HPw := hide (serB_pw HSome.out)
      have hmn : m = n := by rw [HMP.out, HPw.out.2.2, txs_len, ← HN.out]
      have hmb : m ≤ 100000000 := by omega
      subst hmn
      go_wp2_with fail
      refine (eqI9 (p.map Int.ofNat) a1 a2 c1 c2 m HM.out hmb _ G1'.out G2.out).mono ?_
      rintro e w4 ⟨rfl, hb4⟩
      have HB4 : Hid (Below w.heap.size w w4) := HB3.out.trans (hb4.mono HB3.out.size)
      have G4 := hide (G1'.out.below hb4)
      have HL4 : Hid (TRows w4 la ys) := HL3.out.below hb4
      clear hb4 HB3 HB2 HB1 HL3 G1' G2 HO hmb
      go_wp2
      go_loopw [8] (fun s wr => ∃ i : Nat, i ≤ m ∧ s = .int .i64 i ∧ Hid (Below w4.heap.size w4 wr)) (fun s _ => m - (intOf s).toNat)
      case atStart => exact ⟨0, Nat.zero_le _, rfl, belowRefl _⟩
      case round =>
        obtain ⟨i, hi, rfl, HBi⟩ := hrel
        obtain ⟨v2, hv2⟩ : ∃ z, z = wr := ⟨_, rfl⟩
        subst hv2
        by_cases hilt : i < m
        · have hilt' : (i : Int) < (m : Int) := by omega
          have hi0 : (0 : Int) ≤ (i : Int) := by omega
          go_wp2
          go_loopw [9] (fun s wr => ∃ k : Nat, k ≤ i ∧ s = .int .i64 k ∧ Hid (Below v2.heap.size v2 wr)) (fun s _ => i - (intOf s).toNat)
          case atStart => exact ⟨0, Nat.zero_le _, rfl, belowRefl _⟩
          case round =>
            obtain ⟨k, hk, rfl, HB4k⟩ := hrel
            obtain ⟨v4, hv4⟩ : ∃ z, z = wr := ⟨_, rfl⟩
            subst hv4
            have HB4 := HB4k
            clear HB4k
            by_cases hlt : k < i
            · have hlt' : (k : Int) < (i : Int) := by omega
              have hk0 : (0 : Int) ≤ (k : Int) := by omega
              have hkm : (k : Int) < (m : Int) := by omega
              have hmp := HMP.out
              have hip : i < p.length := by omega
              have hkp : k < p.length := by omega
              have hpi : p[i] < (txs ys).length := HPw.out.1.lt _ (List.getElem_mem hip)
              have hpk : p[k] < (txs ys).length := HPw.out.1.lt _ (List.getElem_mem hkp)
              have hne : p[k] ≠ p[i] := fun e => by have := (List.getElem_inj HPw.out.1.nd).1 e; omega
              have hbf : bef (txs ys) p[i] p[k] = false := (List.pairwise_iff_getElem.1 HPw.out.2.1) k i hkp hip hlt
              rw [bef_at _ _ _ hpi hpk] at hbf
              obtain ⟨b1, o1, rfl, hbl1, hc1⟩ := (G4.out.below (HBi.out.trans (HB4.out.mono HBi.out.size))) (by rw [List.length_map]; omega)
              have q0 := iat hc1 k (by rw [List.length_map]; exact hkp)
              have q1 := iat hc1 i (by rw [List.length_map]; exact hip)
              rw [List.getElem_map] at q0 q1
              have hpiy : p[i] < ys.length := by rw [txs_len] at hpi; exact hpi
              have hpky : p[k] < ys.length := by rw [txs_len] at hpk; exact hpk
              have hfx : TFit ys[p[i]].t := HF.out.2 _ (List.mem_map.2 ⟨_, List.getElem_mem hpiy, rfl⟩)
              have hfy : TFit ys[p[k]].t := HF.out.2 _ (List.mem_map.2 ⟨_, List.getElem_mem hpky, rfl⟩)
              obtain ⟨b2, o2, rfl, hbl2, hcx, hrx⟩ := (HL4.out.below (HBi.out.trans (HB4.out.mono HBi.out.size))).cls p[i] hpiy
              obtain ⟨b9, o9, e9, hbl9, hcy, hry⟩ := (HL4.out.below (HBi.out.trans (HB4.out.mono HBi.out.size))).cls p[k] hpky
              cases e9
              have hbe : befB ys[p[i]].t ys[p[k]].t = false := by simpa [txs] using hbf
              clear hbf hpi hpk
              obtain ⟨x, hx⟩ : ∃ x, x = ys[p[i]] := ⟨_, rfl⟩
              obtain ⟨y, hy⟩ : ∃ y, y = ys[p[k]] := ⟨_, rfl⟩
              rw [← hx] at hcx hrx hfx hbe
              rw [← hy] at hcy hry hfy hbe
              clear hx hy hbl9
              obtain ⟨pi, hpie⟩ : ∃ pi, pi = p[i] := ⟨_, rfl⟩
              obtain ⟨pk, hpke⟩ : ∃ pk, pk = p[k] := ⟨_, rfl⟩
              rw [← hpie] at q1 hcx hne hpiy
              rw [← hpke] at q0 hcy hne hpky
              have hpin : pi < m := by rw [HN.out]; exact hpiy
              have hpkn : pk < m := by rw [HN.out]; exact hpky
              clear hpie hpke hip hkp hc1 hmp hpiy hpky
              have q0' : v4.cell? ⟨b1, o1 + k, none⟩ = some (.int .i64 (pk : Int)) := q0
              have q1' : v4.cell? ⟨b1, o1 + i, none⟩ = some (.int .i64 (pi : Int)) := q1
              clear q0 q1
              have q0 := q0'
              have q1 := q1'
              clear q0' q1'
              have hpi0 : (0 : Int) ≤ (pi : Int) := by omega
              have hpk0 : (0 : Int) ≤ (pk : Int) := by omega
              have hpin' : (pi : Int) < (m : Int) := by omega
              have hpkn' : (pk : Int) < (m : Int) := by omega
              have hneI : ((pk : Int) == (pi : Int)) = false := by rw [beq_eq_false_iff_ne]; omega
              have HIB := hide (fun (W : World) (h : Below v4.heap.size v4 W) => ibefore x.t y.t x.ra x.wa x.rc x.wc y.ra y.wa y.rc y.wc hfx.1 hfx.2.2.1 hfy.1 hfy.2.2.1 hfx.2.2.2.1 hfy.2.2.2.1 W (hrx.below h).r (hrx.below h).w (hry.below h).r (hry.below h).w)
              rw [hbe] at HIB
              clear hbe hrx hry hfx hfy hne
              have r0 := hcx.c0
              have r1 := hcx.c1
              have r2 := hcx.c2
              have r3 := hcx.c3
              have r4 := hcx.c4
              have r5 := hcx.c5
              have r6 := hcx.c6
              have r7 := hcx.c7
              have s0 := hcy.c0
              have s1 := hcy.c1
              have s2 := hcy.c2
              have s3 := hcy.c3
              have s4 := hcy.c4
              have s5 := hcy.c5
              have s6 := hcy.c6
              have s7 := hcy.c7
              clear hcx hcy
              go_wp2
              refine wp_region_held_drew (S := fun w' => w'.cell? ⟨b1, o1 + k, none⟩ = some (.int .i64 (pk : Int)) ∧ w'.cell? ⟨b1, o1 + i, none⟩ = some (.int .i64 (pi : Int)) ∧ w'.cell? ⟨b2, o2 + pi * 8, none⟩ = some (.int .i64 x.t.id) ∧ w'.cell? ⟨b2, o2 + pi * 8 + 1, none⟩ = some (.int .i64 x.t.st) ∧ w'.cell? ⟨b2, o2 + pi * 8 + 2, none⟩ = some (.int .i64 x.t.snap) ∧ w'.cell? ⟨b2, o2 + pi * 8 + 3, none⟩ = some (.int .i64 x.t.cs) ∧ w'.cell? ⟨b2, o2 + pi * 8 + 4, none⟩ = some (.slice x.ra x.t.rs.length x.rc) ∧ w'.cell? ⟨b2, o2 + pi * 8 + 5, none⟩ = some (.slice x.wa x.t.ws.length x.wc) ∧ w'.cell? ⟨b2, o2 + pi * 8 + 6, none⟩ = some (.bool x.t.out) ∧ w'.cell? ⟨b2, o2 + pi * 8 + 7, none⟩ = some (.string x.t.nm) ∧ w'.cell? ⟨b2, o2 + pk * 8, none⟩ = some (.int .i64 y.t.id) ∧ w'.cell? ⟨b2, o2 + pk * 8 + 1, none⟩ = some (.int .i64 y.t.st) ∧ w'.cell? ⟨b2, o2 + pk * 8 + 2, none⟩ = some (.int .i64 y.t.snap) ∧ w'.cell? ⟨b2, o2 + pk * 8 + 3, none⟩ = some (.int .i64 y.t.cs) ∧ w'.cell? ⟨b2, o2 + pk * 8 + 4, none⟩ = some (.slice y.ra y.t.rs.length y.rc) ∧ w'.cell? ⟨b2, o2 + pk * 8 + 5, none⟩ = some (.slice y.wa y.t.ws.length y.wc) ∧ w'.cell? ⟨b2, o2 + pk * 8 + 6, none⟩ = some (.bool y.t.out) ∧ w'.cell? ⟨b2, o2 + pk * 8 + 7, none⟩ = some (.string y.t.nm)) (by kernel_rfl) ⟨q0, q1, r0, r1, r2, r3, r4, r5, r6, r7, s0, s1, s2, s3, s4, s5, s6, s7⟩ (fun hHeld => ?_)
              (refine wpAnyH_take (i := 0) (v := ?_) rfl (by kernel_rfl) (by kernel_rfl) (by kernel_rfl) (fun _ _ _ h => h) (Or.inl ⟨by rfl, ?_⟩) (by assumption) ?_; rotate_left; (focus (intro w hSw; (try dsimp only at hSw); go_simp; (try with_reducible rfl); done)); simp only [Act.put, List.getElem_toArray, List.getElem_cons_zero, List.setIfInBounds_toArray, List.set_cons_zero, List.set_cons_succ])
              (refine wpAnyH_take (i := 1) (v := ?_) rfl (by kernel_rfl) (by kernel_rfl) (by kernel_rfl) (fun _ _ _ h => h) (Or.inl ⟨by rfl, ?_⟩) (by assumption) ?_; rotate_left; (focus (intro w hSw; (try dsimp only at hSw); go_simp; (try with_reducible rfl); done)); simp only [Act.put, List.getElem_toArray, List.getElem_cons_zero, List.getElem_cons_succ, List.setIfInBounds_toArray, List.set_cons_zero, List.set_cons_succ])
              (refine wpAnyH_take (i := 2) (v := ?_) rfl (by kernel_rfl) (by kernel_rfl) (by kernel_rfl) (fun _ _ _ h => h) (Or.inl ⟨by rfl, ?_⟩) (by assumption) ?_; rotate_left; (focus (intro w hSw; (try dsimp only at hSw); go_simp; (try with_reducible rfl); done)); simp only [Act.put, List.getElem_toArray, List.getElem_cons_zero, List.getElem_cons_succ, List.setIfInBounds_toArray, List.set_cons_zero, List.set_cons_succ])
              (refine wpAnyH_take (i := 3) (v := ?_) rfl (by kernel_rfl) (by kernel_rfl) (by kernel_rfl) (fun _ _ _ h => h) (Or.inl ⟨by rfl, ?_⟩) (by assumption) ?_; rotate_left; (focus (intro w hSw; (try dsimp only at hSw); go_simp; (try with_reducible rfl); done)); simp only [Act.put, List.getElem_toArray, List.getElem_cons_zero, List.getElem_cons_succ, List.setIfInBounds_toArray, List.set_cons_zero, List.set_cons_succ])
              (refine wpAnyH_take (i := 4) (v := ?_) rfl (by kernel_rfl) (by kernel_rfl) (by kernel_rfl) (fun _ _ _ h => h) (Or.inl ⟨by rfl, ?_⟩) (by assumption) ?_; rotate_left; (focus (intro w hSw; (try dsimp only at hSw); go_simp; (try with_reducible rfl); done)); simp only [Act.put, List.getElem_toArray, List.getElem_cons_zero, List.getElem_cons_succ, List.setIfInBounds_toArray, List.set_cons_zero, List.set_cons_succ])
              (refine wpAnyH_take (i := 5) (v := ?_) rfl (by kernel_rfl) (by kernel_rfl) (by kernel_rfl) (fun _ _ _ h => h) (Or.inl ⟨by rfl, ?_⟩) (by assumption) ?_; rotate_left; (focus (intro w hSw; (try dsimp only at hSw); go_simp; (try with_reducible rfl); done)); simp only [Act.put, List.getElem_toArray, List.getElem_cons_zero, List.getElem_cons_succ, List.setIfInBounds_toArray, List.set_cons_zero, List.set_cons_succ])
              (refine wpAnyH_take (i := 6) (v := ?_) rfl (by kernel_rfl) (by kernel_rfl) (by kernel_rfl) (fun _ _ _ h => h) (Or.inl ⟨by rfl, ?_⟩) (by assumption) ?_; rotate_left; (focus (intro w hSw; (try dsimp only at hSw); go_simp; (try with_reducible rfl); done)); simp only [Act.put, List.getElem_toArray, List.getElem_cons_zero, List.getElem_cons_succ, List.setIfInBounds_toArray, List.set_cons_zero, List.set_cons_succ])
              (refine wpAnyH_take (i := 7) (v := ?_) rfl (by kernel_rfl) (by kernel_rfl) (by kernel_rfl) (fun _ _ _ h => h) (Or.inl ⟨by rfl, ?_⟩) (by assumption) ?_; rotate_left; (focus (intro w hSw; (try dsimp only at hSw); go_simp; (try with_reducible rfl); done)); simp only [Act.put, List.getElem_toArray, List.getElem_cons_zero, List.getElem_cons_succ, List.setIfInBounds_toArray, List.set_cons_zero, List.set_cons_succ])
              (refine wpAnyH_take (i := 8) (v := ?_) rfl (by kernel_rfl) (by kernel_rfl) (by kernel_rfl) (fun _ _ _ h => h) (Or.inl ⟨by rfl, ?_⟩) (by assumption) ?_; rotate_left; (focus (intro w hSw; (try dsimp only at hSw); go_simp; (try with_reducible rfl); done)); simp only [Act.put, List.getElem_toArray, List.getElem_cons_zero, List.getElem_cons_succ, List.setIfInBounds_toArray, List.set_cons_zero, List.set_cons_succ])
              (refine wpAnyH_take (i := 9) (v := ?_) rfl (by kernel_rfl) (by kernel_rfl) (by kernel_rfl) (fun _ _ _ h => h) (Or.inl ⟨by rfl, ?_⟩) (by assumption) ?_; rotate_left; (focus (intro w hSw; (try dsimp only at hSw); go_simp; (try with_reducible rfl); done)); simp only [Act.put, List.getElem_toArray, List.getElem_cons_zero, List.getElem_cons_succ, List.setIfInBounds_toArray, List.set_cons_zero, List.set_cons_succ])
              (refine wpAnyH_take (i := 10) (v := ?_) rfl (by kernel_rfl) (by kernel_rfl) (by kernel_rfl) (fun _ _ _ h => h) (Or.inl ⟨by rfl, ?_⟩) (by assumption) ?_; rotate_left; (focus (intro w hSw; (try dsimp only at hSw); go_simp; (try with_reducible rfl); done)); simp only [Act.put, List.getElem_toArray, List.getElem_cons_zero, List.getElem_cons_succ, List.setIfInBounds_toArray, List.set_cons_zero, List.set_cons_succ])
              (refine wpAnyH_take (i := 11) (v := ?_) rfl (by kernel_rfl) (by kernel_rfl) (by kernel_rfl) (fun _ _ _ h => h) (Or.inl ⟨by rfl, ?_⟩) (by assumption) ?_; rotate_left; (focus (intro w hSw; (try dsimp only at hSw); go_simp; (try with_reducible rfl); done)); simp only [Act.put, List.getElem_toArray, List.getElem_cons_zero, List.getElem_cons_succ, List.setIfInBounds_toArray, List.set_cons_zero, List.set_cons_succ])
              (refine wpAnyH_take (i := 12) (v := ?_) rfl (by kernel_rfl) (by kernel_rfl) (by kernel_rfl) (fun _ _ _ h => h) (Or.inl ⟨by rfl, ?_⟩) (by assumption) ?_; rotate_left; (focus (intro w hSw; (try dsimp only at hSw); go_simp; (try with_reducible rfl); done)); simp only [Act.put, List.getElem_toArray, List.getElem_cons_zero, List.getElem_cons_succ, List.setIfInBounds_toArray, List.set_cons_zero, List.set_cons_succ])
              (refine wpAnyH_take (i := 13) (v := ?_) rfl (by kernel_rfl) (by kernel_rfl) (by kernel_rfl) (fun _ _ _ h => h) (Or.inl ⟨by rfl, ?_⟩) (by assumption) ?_; rotate_left; (focus (intro w hSw; (try dsimp only at hSw); go_simp; (try with_reducible rfl); done)); simp only [Act.put, List.getElem_toArray, List.getElem_cons_zero, List.getElem_cons_succ, List.setIfInBounds_toArray, List.set_cons_zero, List.set_cons_succ])
              (refine wpAnyH_take (i := 14) (v := ?_) rfl (by kernel_rfl) (by kernel_rfl) (by kernel_rfl) (fun _ _ _ h => h) (Or.inl ⟨by rfl, ?_⟩) (by assumption) ?_; rotate_left; (focus (intro w hSw; (try dsimp only at hSw); go_simp; (try with_reducible rfl); done)); simp only [Act.put, List.getElem_toArray, List.getElem_cons_zero, List.getElem_cons_succ, List.setIfInBounds_toArray, List.set_cons_zero, List.set_cons_succ])
              (refine wpAnyH_take (i := 15) (v := ?_) rfl (by kernel_rfl) (by kernel_rfl) (by kernel_rfl) (fun _ _ _ h => h) (Or.inl ⟨by rfl, ?_⟩) (by assumption) ?_; rotate_left; (focus (intro w hSw; (try dsimp only at hSw); go_simp; (try with_reducible rfl); done)); simp only [Act.put, List.getElem_toArray, List.getElem_cons_zero, List.getElem_cons_succ, List.setIfInBounds_toArray, List.set_cons_zero, List.set_cons_succ])
              (refine wpAnyH_take (i := 16) (v := ?_) rfl (by kernel_rfl) (by kernel_rfl) (by kernel_rfl) (fun _ _ _ h => h) (Or.inl ⟨by rfl, ?_⟩) (by assumption) ?_; rotate_left; (focus (intro w hSw; (try dsimp only at hSw); go_simp; (try with_reducible rfl); done)); simp only [Act.put, List.getElem_toArray, List.getElem_cons_zero, List.getElem_cons_succ, List.setIfInBounds_toArray, List.set_cons_zero, List.set_cons_succ])
              (refine wpAnyH_take (i := 17) (v := ?_) rfl (by kernel_rfl) (by kernel_rfl) (by kernel_rfl) (fun _ _ _ h => h) (Or.inl ⟨by rfl, ?_⟩) (by assumption) ?_; rotate_left; (focus (intro w hSw; (try dsimp only at hSw); go_simp; (try with_reducible rfl); done)); simp only [Act.put, List.getElem_toArray, List.getElem_cons_zero, List.getElem_cons_succ, List.setIfInBounds_toArray, List.set_cons_zero, List.set_cons_succ])
              (refine wpAnyH_take (i := 18) (v := ?_) rfl (by kernel_rfl) (by kernel_rfl) (by kernel_rfl) (fun _ _ _ h => h) (Or.inl ⟨by rfl, ?_⟩) (by assumption) ?_; rotate_left; (focus (intro w hSw; (try dsimp only at hSw); go_simp; (try with_reducible rfl); done)); simp only [Act.put, List.getElem_toArray, List.getElem_cons_zero, List.getElem_cons_succ, List.setIfInBounds_toArray, List.set_cons_zero, List.set_cons_succ])
              (refine wpAnyH_take (i := 19) (v := ?_) rfl (by kernel_rfl) (by kernel_rfl) (by kernel_rfl) (fun _ _ _ h => h) (Or.inl ⟨by rfl, ?_⟩) (by assumption) ?_; rotate_left; (focus (intro w hSw; (try dsimp only at hSw); go_simp; (try with_reducible rfl); done)); simp only [Act.put, List.getElem_toArray, List.getElem_cons_zero, List.getElem_cons_succ, List.setIfInBounds_toArray, List.set_cons_zero, List.set_cons_succ])
              (refine wpAnyH_take (i := 20) (v := ?_) rfl (by kernel_rfl) (by kernel_rfl) (by kernel_rfl) (fun _ _ _ h => h) (Or.inl ⟨by rfl, ?_⟩) (by assumption) ?_; rotate_left; (focus (intro w hSw; (try dsimp only at hSw); go_simp; (try with_reducible rfl); done)); simp only [Act.put, List.getElem_toArray, List.getElem_cons_zero, List.getElem_cons_succ, List.setIfInBounds_toArray, List.set_cons_zero, List.set_cons_succ])
              (refine wpAnyH_take (i := 21) (v := ?_) rfl (by kernel_rfl) (by kernel_rfl) (by kernel_rfl) (fun _ _ _ h => h) (Or.inl ⟨by rfl, ?_⟩) (by assumption) ?_; rotate_left; (focus (intro w hSw; (try dsimp only at hSw); go_simp; (try with_reducible rfl); done)); simp only [Act.put, List.getElem_toArray, List.getElem_cons_zero, List.getElem_cons_succ, List.setIfInBounds_toArray, List.set_cons_zero, List.set_cons_succ])
              (refine wpAnyH_take (i := 22) (v := ?_) rfl (by kernel_rfl) (by kernel_rfl) (by kernel_rfl) (fun _ _ _ h => h) (Or.inl ⟨by rfl, ?_⟩) (by assumption) ?_; rotate_left; (focus (intro w hSw; (try dsimp only at hSw); go_simp; (try with_reducible rfl); done)); simp only [Act.put, List.getElem_toArray, List.getElem_cons_zero, List.getElem_cons_succ, List.setIfInBounds_toArray, List.set_cons_zero, List.set_cons_succ])
              (refine wpAnyH_take (i := 23) (v := ?_) rfl (by kernel_rfl) (by kernel_rfl) (by kernel_rfl) (fun _ _ _ h => h) (Or.inl ⟨by rfl, ?_⟩) (by assumption) ?_; rotate_left; (focus (intro w hSw; (try dsimp only at hSw); go_simp; (try with_reducible rfl); done)); simp only [Act.put, List.getElem_toArray, List.getElem_cons_zero, List.getElem_cons_succ, List.setIfInBounds_toArray, List.set_cons_zero, List.set_cons_succ])
              refine wpAnyH_ready (rs := [24]) (by kernel_rfl) (by simp) ?_
              refine AllReadyH.cons rfl (fun K hK => ?_) AllReadyH.nil
              go_simp
              go_wp2_with fail
              refine (HIB.out _ ((belowRefl v4).drew)).mono ?_
              rintro e w5 ⟨rfl, hb5⟩
              have HB5 : Hid (Below v2.heap.size v2 w5) := HB4.out.trans (((belowRefl v4).drew.trans hb5).mono HB4.out.size)
              go_wp2_with fail
              refine hK.out _ _ ⟨(hb5.cell (p := ⟨b1, o1 + k, none⟩) hbl1).trans q0, (hb5.cell (p := ⟨b1, o1 + i, none⟩) hbl1).trans q1, (hb5.cell (p := ⟨b2, o2 + pi * 8, none⟩) hbl2).trans r0, (hb5.cell (p := ⟨b2, o2 + pi * 8 + 1, none⟩) hbl2).trans r1, (hb5.cell (p := ⟨b2, o2 + pi * 8 + 2, none⟩) hbl2).trans r2, (hb5.cell (p := ⟨b2, o2 + pi * 8 + 3, none⟩) hbl2).trans r3, (hb5.cell (p := ⟨b2, o2 + pi * 8 + 4, none⟩) hbl2).trans r4, (hb5.cell (p := ⟨b2, o2 + pi * 8 + 5, none⟩) hbl2).trans r5, (hb5.cell (p := ⟨b2, o2 + pi * 8 + 6, none⟩) hbl2).trans r6, (hb5.cell (p := ⟨b2, o2 + pi * 8 + 7, none⟩) hbl2).trans r7, (hb5.cell (p := ⟨b2, o2 + pk * 8, none⟩) hbl2).trans s0, (hb5.cell (p := ⟨b2, o2 + pk * 8 + 1, none⟩) hbl2).trans s1, (hb5.cell (p := ⟨b2, o2 + pk * 8 + 2, none⟩) hbl2).trans s2, (hb5.cell (p := ⟨b2, o2 + pk * 8 + 3, none⟩) hbl2).trans s3, (hb5.cell (p := ⟨b2, o2 + pk * 8 + 4, none⟩) hbl2).trans s4, (hb5.cell (p := ⟨b2, o2 + pk * 8 + 5, none⟩) hbl2).trans s5, (hb5.cell (p := ⟨b2, o2 + pk * 8 + 6, none⟩) hbl2).trans s6, (hb5.cell (p := ⟨b2, o2 + pk * 8 + 7, none⟩) hbl2).trans s7⟩ (fun hHeld5 => ?_)
              clear hK K hb5
              (refine wpAnyH_take (i := 25) (v := ?_) rfl (by kernel_rfl) (by kernel_rfl) (by kernel_rfl) (fun _ _ _ h => h) (Or.inl ⟨by rfl, ?_⟩) (by assumption) ?_; rotate_left; (focus (intro w hSw; (try dsimp only at hSw); go_simp; (try with_reducible rfl); done)); simp only [Act.put, List.getElem_toArray, List.getElem_cons_zero, List.getElem_cons_succ, List.setIfInBounds_toArray, List.set_cons_zero, List.set_cons_succ])
              refine wpAnyH_done (by kernel_rfl) ?_ _
              clear r0 s0 r1 s1 r2 s2 r3 s3 r4 s4 r5 s5 r6 s6 r7 s7 q0 q1 hbl1 hbl2 HIB
              go_wp2
              go_roundw
              case rel => exact ⟨k + 1, by omega, by go_num, HB5⟩
              case measure => simp [intOf]; omega
            · have hlt' : ¬ (k : Int) < (i : Int) := by omega
              have HBi2 : Hid (Below w4.heap.size w4 v4) := HBi.out.trans (HB4.out.mono HBi.out.size)
              go_wp2
              go_roundw
              case rel => exact ⟨i + 1, by omega, by go_num, HBi2⟩
              case measure => simp [intOf]; omega
        · have hilt' : ¬ (i : Int) < (m : Int) := by omega
          have HBe : Hid (Below w.heap.size w v2) := HB4.out.trans (HBi.out.mono HB4.out.size)
          have hmm : ((m : Int) == (m : Int)) = true := by simp
          go_wp2
          go_ret
          exact ⟨rfl, HBe.out⟩
  · rw [decide_eq_true (by omega)] at HBG
    go_enter Try.func3, Try.ntmps3
    go_wp2_with fail
    refine (HBG.out _).mono ?_
    rintro e w ⟨rfl, rfl⟩
    go_wp2
    go_ret
    exact ⟨rfl, belowRefl _⟩
end Go.Proofs.Ytbajpnbodhhmjaa

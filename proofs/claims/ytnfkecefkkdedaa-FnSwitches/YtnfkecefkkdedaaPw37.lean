/- The law FnSwitches, walked. -/
import Derived.Test.YtnfkecefkkdedaaPw36
import Derived.Laws.StructEq
import Derived.Deep.Cut
import Derived.Deep.CutRange
import Derived.Deep.RegionHeld3
namespace Go.Proofs.Ytnfkecefkkdedaa
open Go.RowKit
open DM
attribute [local go_sem ↓] Go.wp_at_zero Go.wp_at_succ

set_option maxRecDepth 100000 in
set_option maxHeartbeats 2000000 in
theorem same21 (ss : List ByteArray) (ps : List Wr) (a1 a2 b1 b2 : Option Addr) (c1 c2 d1 d2 : Nat) (hn : ss.length ≤ 100000000) (hm : ps.length ≤ 100000000) (w : World) (h1 : SRow w a1 ss) (h2 : PRow w a2 ps) (h3 : SRow w b1 ss) (h4 : PRow w b2 ps) :
    Calls Try.prog 21 #[.agg #[.slice a1 ss.length c1, .slice a2 ps.length c2], .agg #[.slice b1 ss.length d1, .slice b2 ps.length d2]] w fun e w' => e = .returned (.bool true) ∧ Below w.heap.size w w' := by
  have HS : Hid (∀ W : World, Below w.heap.size w W → Calls Try.prog 20 #[.slice a1 ss.length c1, .slice b1 ss.length d1] W fun e w' => e = .returned (.bool true) ∧ Below W.heap.size W w') := fun W h => same20 a1 b1 c1 d1 ss hn W (h1.below h) (h3.below h)
  have H2 : Hid (PRow w a2 ps) := h2
  have H4 : Hid (PRow w b2 ps) := h4
  have X0 : Hid (Bx ((w.alloc (.cells #[.slice a1 ss.length c1, .slice a2 ps.length c2] 27)).alloc (.cells #[.slice b1 ss.length d1, .slice b2 ps.length d2] 27)) w.heap.size (.slice a1 ss.length c1) (.slice a2 ps.length c2)) := (Bx.new w _ _ _).alloc _
  have X1 : Hid (Bx ((w.alloc (.cells #[.slice a1 ss.length c1, .slice a2 ps.length c2] 27)).alloc (.cells #[.slice b1 ss.length d1, .slice b2 ps.length d2] 27)) (w.heap.size + 1) (.slice b1 ss.length d1) (.slice b2 ps.length d2)) := by
    have h := Bx.new (w.alloc (.cells #[.slice a1 ss.length c1, .slice a2 ps.length c2] 27)) (.slice b1 ss.length d1) (.slice b2 ps.length d2) 27
    show Bx _ _ _ _
    simpa using h
  have B0 : Hid (Below w.heap.size w ((w.alloc (.cells #[.slice a1 ss.length c1, .slice a2 ps.length c2] 27)).alloc (.cells #[.slice b1 ss.length d1, .slice b2 ps.length d2] 27))) := ((belowRefl w).alloc (Nat.le_refl _) _).alloc (by simp) _
  clear h1 h2 h3 h4
  go_enter Try.func21, Try.ntmps21
  go_wp2_with fail
  refine (HS.out _ B0.out).mono ?_
  rintro e w1 ⟨rfl, hb1⟩
  have Y0 : Hid (Bx w1 w.heap.size (.slice a1 ss.length c1) (.slice a2 ps.length c2)) := X0.out.keep hb1 X0.out.lt
  have Y1 : Hid (Bx w1 (w.heap.size + 1) (.slice b1 ss.length d1) (.slice b2 ps.length d2)) := X1.out.keep hb1 X1.out.lt
  have B1 : Hid (Below w.heap.size w w1) := B0.out.trans (hb1.mono B0.out.size)
  clear hb1 X0 X1 B0
  have g1 := Y0.out.c1
  have k1 := Y1.out.c1
  go_wp2
  go_loopw [5] (fun t wr => ∃ k : Nat, k ≤ ps.length ∧ t = .int .i64 k ∧ Hid (Below w1.heap.size w1 wr)) (fun t _ => ps.length - (intOf t).toNat)
  case atStart => exact ⟨0, Nat.zero_le _, rfl, Below.refl _ _⟩
  case round =>
    obtain ⟨k, hk, rfl, HB⟩ := hrel
    clear g1 k1
    have HBw : Hid (Below w.heap.size w wr) := B1.out.trans (HB.out.mono B1.out.size)
    have Yr0 : Hid (Bx wr w.heap.size (.slice a1 ss.length c1) (.slice a2 ps.length c2)) := Y0.out.keep HB.out Y0.out.lt
    have Yr1 : Hid (Bx wr (w.heap.size + 1) (.slice b1 ss.length d1) (.slice b2 ps.length d2)) := Y1.out.keep HB.out Y1.out.lt
    have g1 := Yr0.out.c1
    have k1 := Yr1.out.c1
    by_cases hlt : k < ps.length
    · have hlt' : (k : Int) < (ps.length : Int) := by omega
      have h0 : (0 : Int) ≤ (k : Int) := by omega
      obtain ⟨e1, off1, rfl, hl1, q1⟩ := (H2.out.below HBw.out) (by omega)
      obtain ⟨e2, off2, rfl, hl2, q2⟩ := (H4.out.below HBw.out) (by omega)
      have r10 := (q1 k hlt).1
      have r11 := (q1 k hlt).2
      have r20 := (q2 k hlt).1
      have r21 := (q2 k hlt).2
      clear q1 q2
      go_wp2
      go_quiet (fail)
      go_wp2
      go_roundw
      case rel => exact ⟨k + 1, by omega, by go_num, below_drewN HB.out _⟩
      case measure => simp [intOf]; omega
    · have hd : ¬ (k : Int) < (ps.length : Int) := by omega
      go_wp2
      go_ret
      exact ⟨rfl, HBw.out⟩

theorem flS_lenA (ss : List ByteArray) (ps : List Wr) : (flS ss ps).length = ss.length := by
  cases h : okB ss ps
  · rw [flS_no h]
  · rw [flS_yes h, flush_len]
theorem sw_len {ss : List ByteArray} {cr : List Wr} {ts : List ByteArray} (h : LaI ss cr) (hts : ∀ t ∈ ts, t.size ≤ 1048576) : (swS ss cr ts).length ≤ 1048576 := by
  cases hb : swB ss cr ts
  · unfold swS
    rw [if_neg (by rw [hb]; simp)]
    exact h.1
  · have hl : logB ss cr = true := by
      unfold swB at hb
      exact (Bool.and_eq_true_iff.1 hb).1
    have hp := logB_parts hl
    have hc : cr = [] := hp.2.2
    subst hc
    have hA : isA (1 - act ss []) = true := oth_A ss []
    have hz := zr_read hl hA
    have hF := fillO_log (a := 1 - act ss []) ts _ hts hz.2.2
    have hq := logB_parts hF
    unfold swS
    rw [if_pos hb, flS_lenA]
    omega
theorem srow_two (W : World) (s t : ByteArray) : SRow (W.alloc (.cells #[.string s, .string t] 9)) (some ⟨W.heap.size, 0, none⟩) [s, t] := fun _ =>
  ⟨W.heap.size, 0, rfl, by simp, fun j hj => by
    match j, hj with
    | 0, _ => simp [go_sem]
    | 1, _ => simp [go_sem]⟩
theorem shape2 {w : World} {base : Nat} {v : Value} {l : List ByteArray} (h : SOwn w base v l) : ∃ va vc, v = .slice va l.length vc := by
  obtain ⟨ao, cap, e, _⟩ := h.row
  exact ⟨ao, cap, e⟩

set_option maxRecDepth 100000 in
set_option maxHeartbeats 8000000 in
theorem law8 (len cap : Nat) (a : Option Addr) (w : World) (hl0 : len ≤ 9223372036854775807) (hr : CodeRow w a len) :
    Calls Try.prog 8 #[.slice a len cap] w fun e w' => e = .returned (.bool true) ∧ Below w.heap.size w w' := by
  have HBG : Hid (∀ W : World, Calls Try.prog 10 #[.slice a len cap] W fun e w' => e = .returned (.bool (decide ((1048576 : Int) < (len : Int)))) ∧ w' = W) := fun W => big10 len cap a W
  by_cases hl : len ≤ 1048576
  · rw [decide_eq_false (by omega)] at HBG
    have HDR : Hid (Calls Try.prog 31 #[.slice a len cap] w fun e w' => ∃ (cur : List ByteArray) (t : ByteArray) (b1 : Option Addr) (d1 : Nat) (b2 : Option Addr) (d2 : Nat), e = .returned (.tuple #[.agg #[.slice b1 cur.length d1, .slice b2 lgP.length d2], .string t]) ∧ DOwn w' w.heap.size b1 d1 b2 d2 cur lgP ∧ LogI 5 cur ∧ (0 < t.size ∧ t.size ≤ 90) ∧ Below w.heap.size w w') := sdraw31 len cap a hl w hr
    have HDS : Hid (∀ W : World, Below w.heap.size w W → Calls Try.prog 41 #[.slice a len cap] W fun e w' => SwQ W e w') := fun W h => dsw41 len cap a hl W (hr.below h)
    obtain ⟨P, hP⟩ : ∃ P, P = lgP := ⟨_, rfl⟩
    have HP0 : Hid (P = []) := hP
    rw [← hP] at HDR
    clear hP hr
    go_enter Try.func8, Try.ntmps8
    go_wp2_with fail
    refine (HBG.out _).mono ?_
    rintro e w ⟨rfl, rfl⟩
    go_wp2_with fail
    refine HDR.out.mono ?_
    rintro e w1 ⟨cur, t, x1, x2, x3, x4, rfl, hd1, hI, ht, hb1⟩
    have hP0 : P = [] := HP0.out
    obtain ⟨ft, hft⟩ : ∃ ft : ByteArray, ft = ⟨#[102, 105, 114, 115, 116]⟩ ++ t := ⟨_, rfl⟩
    have hfs : ft.size = 5 + t.size := by rw [hft, ByteArray.size_append]; rfl
    obtain ⟨sc, hsc⟩ : ∃ sc : ByteArray, sc = ⟨#[115, 101, 99, 111, 110, 100]⟩ := ⟨_, rfl⟩
    have hss : sc.size = 6 := by rw [hsc]; rfl
    have hBd : ∀ S, logB S P = true → S.length ≤ 1048576 ∧ P.length ≤ 1048576 ∧ (∀ s ∈ S, s.size ≤ 1048576) ∧ (∀ p ∈ P, p.2.size ≤ 1048576) ∧ ∀ b, (arT S P b).size ≤ 20000 := fun S h => by
      have hp := logB_parts h
      have ho := okB_iff.1 hp.1
      refine ⟨by omega, by have := ho.2.2.1; omega, fun s hs => by have := ho.2.2.2.1 s hs; omega, fun p hp => by have := (ho.2.2.2.2 p hp).2.2; omega, fun b => Nat.le_trans (arT_size ho b) (by omega)⟩
    have hlog : logB cur P = true := by rw [hP0]; exact hI.1
    have hBc := hBd cur hlog
    obtain ⟨hsw, hlN0, hacN, E, hE, hraN⟩ := sw_two hI (t := ft) (u := sc) (by omega) (by omega) (by omega) (by omega)
    obtain ⟨NS, hNS⟩ : ∃ NS, NS = swS cur [] [ft, sc] := ⟨_, rfl⟩
    rw [← hNS] at hlN0 hacN hraN
    have hlN : logB NS P = true := by rw [hP0]; exact hlN0
    have hBn := hBd NS hlN
    have hA : isA (1 - act cur []) = true := oth_A cur []
    have hrec : recB NS [] (1 - act cur []) t = true := rec_room hlN0 hA hraN ht.1 (by simp) (by rw [recL_small (by omega)]; omega)
    have hpr := prS_yes (t := t) hlN0 hrec
    have hrd := put_read hlN0 hrec (by omega)
    have hac2 := put_act hlN0 hrec
    rw [hraN] at hrd
    obtain ⟨NF, hNF⟩ : ∃ NF, NF = putS NS [] (1 - act cur []) t := ⟨_, rfl⟩
    rw [← hNF] at hpr hrd hac2
    have hlF : logB NF P = true := by rw [hP0]; exact hrd.2.2
    have hBf := hBd NF hlF
    obtain ⟨ac, hacE⟩ : ∃ ac, ac = act cur P := ⟨_, rfl⟩
    have hac01 : ac = 0 ∨ ac = 1 := by rw [hacE]; exact isA_iff.1 (act_01 cur P)
    obtain ⟨ae, haeE⟩ : ∃ ae : Int, ae = 1 - ac := ⟨_, rfl⟩
    have haN : act NS P = ae := by rw [haeE, hacE, hP0, hacN]
    have haF : act NF P = ae := by rw [hP0, hac2, ← hP0]; exact haN
    have haA : (1 - act cur [] : Int) = ae := by rw [haeE, hacE, hP0]
    rw [haA] at hraN hpr hrd
    have HSW : Hid (∀ (W : World) (z1 : Option Addr) (z2 : Nat) (z3 : Option Addr) (z4 : Nat) (al : Option Addr), SRow W z1 cur → PRow W z3 P → SRow W al [ft, sc] → Calls Try.prog 40 #[.agg #[.slice z1 cur.length z2, .slice z3 P.length z4], .slice al 2 2] W fun e w' => ∃ f1 f2 f3 f4, e = .returned (.tuple #[.agg #[.slice f1 NS.length f2, .slice f3 P.length f4], .bool true]) ∧ DOwn w' W.heap.size f1 f2 f3 f4 NS P ∧ Below W.heap.size W w') := fun W z1 z2 z3 z4 al h1 h2 h3 => by
      have k := isw43 cur P [ft, sc] z1 z3 al z2 z4 2 hBc.1 hBc.2.1 hBc.2.2.1 hBc.2.2.2.1 (by simp) (fun x hx => by
        rcases List.mem_cons.1 hx with rfl | hx
        · omega
        · rw [List.mem_singleton.1 hx]; omega) W h1 h2 h3
      rw [hP0] at k ⊢
      rw [hsw, ← hNS] at k
      exact k
    have HAP : Hid (∀ (W : World) (z1 : Option Addr) (z2 : Nat) (z3 : Option Addr) (z4 : Nat), SRow W z1 NS → PRow W z3 P → Calls Try.prog 33 #[.agg #[.slice z1 NS.length z2, .slice z3 P.length z4], .string t] W fun e w' => ∃ f1 f2 f3 f4, e = .returned (.tuple #[.agg #[.slice f1 NF.length f2, .slice f3 P.length f4], .bool true]) ∧ DOwn w' W.heap.size f1 f2 f3 f4 NF P ∧ Below W.heap.size W w') := fun W z1 z2 z3 z4 h1 h2 => by
      have k := iapp39 NS P t z1 z3 z2 z4 hBn.1 hBn.2.1 hBn.2.2.1 hBn.2.2.2.1 (by omega) W h1 h2
      rw [haN] at k
      rw [hP0] at k ⊢
      rw [hpr.1, hpr.2] at k
      exact k
    have HLO : Hid (∀ (W : World) (z1 : Option Addr) (z2 : Nat) (z3 : Option Addr) (z4 : Nat), SRow W z1 NS → PRow W z3 P → Calls Try.prog 38 #[.agg #[.slice z1 NS.length z2, .slice z3 P.length z4]] W fun e w' => e = .returned (.bool true) ∧ Below W.heap.size W w') := fun W z1 z2 z3 z4 h1 h2 => by
      have k := ilok24 NS P z1 z3 z2 z4 hBn.1 hBn.2.1 hBn.2.2.1 hBn.2.2.2.1 W h1 h2
      rw [hlN] at k
      exact k
    have HLTe : Hid (∀ (W : World) (z1 : Option Addr) (z2 : Nat) (z3 : Option Addr) (z4 : Nat), SRow W z1 NS → PRow W z3 P → Calls Try.prog 32 #[.agg #[.slice z1 NS.length z2, .slice z3 P.length z4]] W fun e w' => ∃ va vc, e = .returned (.slice va 2 vc) ∧ SRow w' va [ft, sc] ∧ Below W.heap.size W w') := fun W z1 z2 z3 z4 h1 h2 => by
      refine (ilt32 NS P z1 z3 z2 z4 hBn.1 hBn.2.1 hBn.2.2.1 hBn.2.2.2.1 hBn.2.2.2.2 W h1 h2).mono ?_
      rintro e w' ⟨v, rfl, h3, h4⟩
      have e2 : oL (raO NS P (act NS P)) = [ft, sc] := by rw [haN, hP0, hraN]; rfl
      rw [e2] at h3
      obtain ⟨va, vc, rfl⟩ := shape2 h3
      exact ⟨va, vc, rfl, h3.srow, h4⟩
    have HLTf : Hid (∀ (W : World) (z1 : Option Addr) (z2 : Nat) (z3 : Option Addr) (z4 : Nat), SRow W z1 NF → PRow W z3 P → Calls Try.prog 32 #[.agg #[.slice z1 NF.length z2, .slice z3 P.length z4]] W fun e w' => ∃ va vc, e = .returned (.slice va 3 vc) ∧ Below W.heap.size W w') := fun W z1 z2 z3 z4 h1 h2 => by
      refine (ilt32 NF P z1 z3 z2 z4 hBf.1 hBf.2.1 hBf.2.2.1 hBf.2.2.2.1 hBf.2.2.2.2 W h1 h2).mono ?_
      rintro e w' ⟨v, rfl, h3, h4⟩
      have e2 : oL (raO NF P (act NF P)) = [ft, sc, t] := by rw [haF, hP0, hrd.1]; rfl
      rw [e2] at h3
      obtain ⟨va, vc, rfl⟩ := shape2 h3
      exact ⟨va, vc, rfl, h4⟩
    have HACd : Hid (∀ (W : World) (z1 : Option Addr) (z2 : Nat) (z3 : Option Addr) (z4 : Nat), SRow W z1 cur → PRow W z3 P → Calls Try.prog 34 #[.agg #[.slice z1 cur.length z2, .slice z3 P.length z4]] W fun e w' => e = .returned (.int .i64 ac) ∧ Below W.heap.size W w') := fun W z1 z2 z3 z4 h1 h2 => by
      rw [hacE]
      exact iac26 cur P z1 z3 z2 z4 (by omega) (by omega) (fun s h => Nat.le_trans (hBc.2.2.1 s h) (by omega)) (fun p h => Nat.le_trans (hBc.2.2.2.1 p h) (by omega)) W h1 h2
    have HACe : Hid (∀ (W : World) (z1 : Option Addr) (z2 : Nat) (z3 : Option Addr) (z4 : Nat), SRow W z1 NS → PRow W z3 P → Calls Try.prog 34 #[.agg #[.slice z1 NS.length z2, .slice z3 P.length z4]] W fun e w' => e = .returned (.int .i64 ae) ∧ Below W.heap.size W w') := fun W z1 z2 z3 z4 h1 h2 => by
      rw [← haN]
      exact iac26 NS P z1 z3 z2 z4 (by omega) (by omega) (fun s h => Nat.le_trans (hBn.2.2.1 s h) (by omega)) (fun p h => Nat.le_trans (hBn.2.2.2.1 p h) (by omega)) W h1 h2
    have HSM : Hid (∀ (W : World) (v1 : Option Addr) (c1 : Nat) (v2 : Option Addr), SRow W v1 [ft, sc] → SRow W v2 [ft, sc] → Calls Try.prog 20 #[.slice v1 2 c1, .slice v2 2 2] W fun e w' => e = .returned (.bool true) ∧ Below W.heap.size W w') := fun W v1 c1 v2 h1 h2 => same20 v1 v2 c1 2 [ft, sc] (by simp) W h1 h2
    have hwr : IntKind.i64.wrap (1 - ac) = ae := by rw [IntKind.wrap_i64]; omega
    have haa : (ae == ae) = true := by simp
    have hts : t.size ≤ 90 := ht.2
    have HFT : Hid (⟨#[102, 105, 114, 115, 116]⟩ ++ t = ft) := hft.symm
    have HSC : Hid (⟨#[115, 101, 99, 111, 110, 100]⟩ = sc) := hsc.symm
    clear hP0 hlog hlN0 hacN hraN hlN hBn hA hrec hpr hrd hac2 hNS hNF hlF hBf haN haF haA haeE hacE hac01 hI HDR HBG HP0 hBd hBc hsw hE hfs hss hft hsc ht
    have HB : Hid (Below w.heap.size w w1) := hb1
    have D3 : Hid (DOwn w1 w.heap.size x1 x2 x3 x4 cur P) := hd1
    clear hb1 hd1
    have hba : Below w1.heap.size w1 (w1.alloc (.cells #[.slice x1 cur.length x2, .slice x3 P.length x4] 27)) := (belowRefl w1).alloc (Nat.le_refl _) _
    replace HB : Hid (Below w.heap.size w (w1.alloc (.cells #[.slice x1 cur.length x2, .slice x3 P.length x4] 27))) := HB.out.trans (hba.mono HB.out.size)
    replace D3 : Hid (DOwn (w1.alloc (.cells #[.slice x1 cur.length x2, .slice x3 P.length x4] 27)) w.heap.size x1 x2 x3 x4 cur P) := D3.out.below hba
    have B3 : Hid (Bx (w1.alloc (.cells #[.slice x1 cur.length x2, .slice x3 P.length x4] 27)) w1.heap.size (.slice x1 cur.length x2) (.slice x3 P.length x4)) := Bx.new w1 _ _ 27
    clear hba
    go_upto_region 4 with fail
    generalize (w1.alloc (.cells #[.slice x1 cur.length x2, .slice x3 P.length x4] 27)) = v1 at *
    generalize w1.heap.size = X3 at *
    have hadd : ¬ 9223372036854775807 < (⟨#[102, 105, 114, 115, 116]⟩ : ByteArray).size + t.size := by show ¬ 9223372036854775807 < 5 + t.size; omega
    go_upto_region 5 with fail
    rw [HFT.out, HSC.out]
    have hba : Below v1.heap.size v1 (v1.alloc (.cells #[.string ft, .string sc] 9)) := (belowRefl v1).alloc (Nat.le_refl _) _
    replace HB : Hid (Below w.heap.size w (v1.alloc (.cells #[.string ft, .string sc] 9))) := HB.out.trans (hba.mono HB.out.size)
    replace D3 : Hid (DOwn (v1.alloc (.cells #[.string ft, .string sc] 9)) w.heap.size x1 x2 x3 x4 cur P) := D3.out.below hba
    replace B3 : Hid (Bx (v1.alloc (.cells #[.string ft, .string sc] 9)) X3 (.slice x1 cur.length x2) (.slice x3 P.length x4)) := B3.out.keep hba B3.out.lt
    have SL : Hid (SRow (v1.alloc (.cells #[.string ft, .string sc] 9)) (some ⟨v1.heap.size, 0, none⟩) [ft, sc]) := srow_two v1 ft sc
    clear hba hadd
    generalize (v1.alloc (.cells #[.string ft, .string sc] 9)) = v2 at *
    generalize v1.heap.size = LB at *
    have g0 := B3.out.c0
    have g1 := B3.out.c1
    go_wp2_with fail
    refine (HSW.out _ _ _ _ _ _ D3.out.s.srow D3.out.p.prow SL.out).mono ?_
    rintro e w2 ⟨y1, y2, y3, y4, rfl, hd, hb⟩
    replace HB : Hid (Below w.heap.size w w2) := HB.out.trans (hb.mono HB.out.size)
    replace D3 : Hid (DOwn w2 w.heap.size x1 x2 x3 x4 cur P) := D3.out.below hb
    replace B3 : Hid (Bx w2 X3 (.slice x1 cur.length x2) (.slice x3 P.length x4)) := B3.out.keep hb B3.out.lt
    replace SL : Hid (SRow w2 (some ⟨LB, 0, none⟩) [ft, sc]) := SL.out.below hb
    clear g0 g1
    have D6 : Hid (DOwn w2 v2.heap.size y1 y2 y3 y4 NS P) := hd
    clear hd hb
    have hba : Below w2.heap.size w2 (w2.alloc (.cells #[.slice y1 NS.length y2, .slice y3 P.length y4] 27)) := (belowRefl w2).alloc (Nat.le_refl _) _
    replace HB : Hid (Below w.heap.size w (w2.alloc (.cells #[.slice y1 NS.length y2, .slice y3 P.length y4] 27))) := HB.out.trans (hba.mono HB.out.size)
    replace D3 : Hid (DOwn (w2.alloc (.cells #[.slice y1 NS.length y2, .slice y3 P.length y4] 27)) w.heap.size x1 x2 x3 x4 cur P) := D3.out.below hba
    replace B3 : Hid (Bx (w2.alloc (.cells #[.slice y1 NS.length y2, .slice y3 P.length y4] 27)) X3 (.slice x1 cur.length x2) (.slice x3 P.length x4)) := B3.out.keep hba B3.out.lt
    replace SL : Hid (SRow (w2.alloc (.cells #[.slice y1 NS.length y2, .slice y3 P.length y4] 27)) (some ⟨LB, 0, none⟩) [ft, sc]) := SL.out.below hba
    replace D6 : Hid (DOwn (w2.alloc (.cells #[.slice y1 NS.length y2, .slice y3 P.length y4] 27)) v2.heap.size y1 y2 y3 y4 NS P) := D6.out.below hba
    have B6 : Hid (Bx (w2.alloc (.cells #[.slice y1 NS.length y2, .slice y3 P.length y4] 27)) w2.heap.size (.slice y1 NS.length y2) (.slice y3 P.length y4)) := Bx.new w2 _ _ 27
    clear hba
    go_upto_region 6 with fail
    generalize (w2.alloc (.cells #[.slice y1 NS.length y2, .slice y3 P.length y4] 27)) = v3 at *
    generalize w2.heap.size = X6 at *
    have g0 := B6.out.c0
    have g1 := B6.out.c1
    go_wp2_with fail
    refine (HAP.out _ _ _ _ _ D6.out.s.srow D6.out.p.prow).mono ?_
    rintro e w3 ⟨u1, u2, u3, u4, rfl, hd, hb⟩
    replace HB : Hid (Below w.heap.size w w3) := HB.out.trans (hb.mono HB.out.size)
    replace D3 : Hid (DOwn w3 w.heap.size x1 x2 x3 x4 cur P) := D3.out.below hb
    replace B3 : Hid (Bx w3 X3 (.slice x1 cur.length x2) (.slice x3 P.length x4)) := B3.out.keep hb B3.out.lt
    replace SL : Hid (SRow w3 (some ⟨LB, 0, none⟩) [ft, sc]) := SL.out.below hb
    replace D6 : Hid (DOwn w3 v2.heap.size y1 y2 y3 y4 NS P) := D6.out.below hb
    replace B6 : Hid (Bx w3 X6 (.slice y1 NS.length y2) (.slice y3 P.length y4)) := B6.out.keep hb B6.out.lt
    clear g0 g1
    have D8 : Hid (DOwn w3 v3.heap.size u1 u2 u3 u4 NF P) := hd
    clear hd hb
    have hba : Below w3.heap.size w3 (w3.alloc (.cells #[.slice u1 NF.length u2, .slice u3 P.length u4] 27)) := (belowRefl w3).alloc (Nat.le_refl _) _
    replace HB : Hid (Below w.heap.size w (w3.alloc (.cells #[.slice u1 NF.length u2, .slice u3 P.length u4] 27))) := HB.out.trans (hba.mono HB.out.size)
    replace D3 : Hid (DOwn (w3.alloc (.cells #[.slice u1 NF.length u2, .slice u3 P.length u4] 27)) w.heap.size x1 x2 x3 x4 cur P) := D3.out.below hba
    replace B3 : Hid (Bx (w3.alloc (.cells #[.slice u1 NF.length u2, .slice u3 P.length u4] 27)) X3 (.slice x1 cur.length x2) (.slice x3 P.length x4)) := B3.out.keep hba B3.out.lt
    replace SL : Hid (SRow (w3.alloc (.cells #[.slice u1 NF.length u2, .slice u3 P.length u4] 27)) (some ⟨LB, 0, none⟩) [ft, sc]) := SL.out.below hba
    replace D6 : Hid (DOwn (w3.alloc (.cells #[.slice u1 NF.length u2, .slice u3 P.length u4] 27)) v2.heap.size y1 y2 y3 y4 NS P) := D6.out.below hba
    replace B6 : Hid (Bx (w3.alloc (.cells #[.slice u1 NF.length u2, .slice u3 P.length u4] 27)) X6 (.slice y1 NS.length y2) (.slice y3 P.length y4)) := B6.out.keep hba B6.out.lt
    replace D8 : Hid (DOwn (w3.alloc (.cells #[.slice u1 NF.length u2, .slice u3 P.length u4] 27)) v3.heap.size u1 u2 u3 u4 NF P) := D8.out.below hba
    have B8 : Hid (Bx (w3.alloc (.cells #[.slice u1 NF.length u2, .slice u3 P.length u4] 27)) w3.heap.size (.slice u1 NF.length u2) (.slice u3 P.length u4)) := Bx.new w3 _ _ 27
    clear hba
    go_upto_region 7 with fail
    generalize (w3.alloc (.cells #[.slice u1 NF.length u2, .slice u3 P.length u4] 27)) = v4 at *
    generalize w3.heap.size = X8 at *
    go_wp2_with fail
    refine (HDS.out _ HB.out).mono ?_
    rintro e w4 ⟨ss, cr, k1, k2, k3, k4, ts, al, cl, rfl, hd, hI4, hsr, htt, hb⟩
    replace HB : Hid (Below w.heap.size w w4) := HB.out.trans (hb.mono HB.out.size)
    replace D3 : Hid (DOwn w4 w.heap.size x1 x2 x3 x4 cur P) := D3.out.below hb
    replace B3 : Hid (Bx w4 X3 (.slice x1 cur.length x2) (.slice x3 P.length x4)) := B3.out.keep hb B3.out.lt
    replace SL : Hid (SRow w4 (some ⟨LB, 0, none⟩) [ft, sc]) := SL.out.below hb
    replace D6 : Hid (DOwn w4 v2.heap.size y1 y2 y3 y4 NS P) := D6.out.below hb
    replace B6 : Hid (Bx w4 X6 (.slice y1 NS.length y2) (.slice y3 P.length y4)) := B6.out.keep hb B6.out.lt
    replace D8 : Hid (DOwn w4 v3.heap.size u1 u2 u3 u4 NF P) := D8.out.below hb
    replace B8 : Hid (Bx w4 X8 (.slice u1 NF.length u2) (.slice u3 P.length u4)) := B8.out.keep hb B8.out.lt
    have D10 : Hid (DOwn w4 v4.heap.size k1 k2 k3 k4 ss cr) := hd
    have ST : Hid (SRow w4 al ts) := hsr
    obtain ⟨NA, hNA⟩ : ∃ NA, NA = swS ss cr ts := ⟨_, rfl⟩
    obtain ⟨OB, hOB⟩ : ∃ OB, OB = swB ss cr ts := ⟨_, rfl⟩
    have HIS : Hid (∀ (W : World) (z1 : Option Addr) (z2 : Nat) (z3 : Option Addr) (z4 : Nat), SRow W z1 ss → PRow W z3 cr → SRow W al ts → Calls Try.prog 40 #[.agg #[.slice z1 ss.length z2, .slice z3 cr.length z4], .slice al ts.length cl] W fun e w' => ∃ f1 f2 f3 f4, e = .returned (.tuple #[.agg #[.slice f1 NA.length f2, .slice f3 cr.length f4], .bool OB]) ∧ DOwn w' W.heap.size f1 f2 f3 f4 NA cr ∧ Below W.heap.size W w') := fun W z1 z2 z3 z4 h1 h2 h3 => by
      rw [hNA, hOB]
      exact isw43 ss cr ts z1 z3 al z2 z4 cl hI4.1 hI4.2.1 hI4.2.2.1 hI4.2.2.2 (by omega) (fun x hx => Nat.le_trans (htt.2 x hx) (by omega)) W h1 h2 h3
    have HSS : Hid (∀ (B : Nat) (W : World) (z1 : Option Addr) (z2 : Nat) (z3 : Option Addr) (z4 : Nat), DOwn W B z1 z2 z3 z4 ss cr → SRow W al ts → Calls Try.prog 42 #[.agg #[.slice z1 ss.length z2, .slice z3 cr.length z4], .slice al ts.length cl] W fun e w' => ∃ f1 f2 f3 f4, e = .returned (.tuple #[.agg #[.slice f1 NA.length f2, .slice f3 cr.length f4], .bool OB]) ∧ DOwn w' W.heap.size f1 f2 f3 f4 NA cr ∧ Below W.heap.size W w') := fun B W z1 z2 z3 z4 h1 h3 => by
      rw [hNA, hOB]
      exact ssw41 ss cr ts z1 z3 al z2 z4 cl B hI4.1 hI4.2.1 hI4.2.2.1 hI4.2.2.2 (by omega) (fun x hx => Nat.le_trans (htt.2 x hx) (by omega)) W h1 h3
    have HNL : Hid (NA.length ≤ 1048576) := by
      show _ ≤ _
      rw [hNA]
      exact sw_len hI4 (fun x hx => Nat.le_trans (htt.2 x hx) (by omega))
    have hcr : cr.length ≤ 100000000 := by have := hI4.2.1; omega
    have HCR := hide0 hcr
    have HSD : Hid (∀ (W : World) (z1 : Option Addr) (z2 : Nat) (z3 : Option Addr) (z4 : Nat) (q1 : Option Addr) (q2 : Nat) (q3 : Option Addr) (q4 : Nat), SRow W z1 NA → PRow W z3 cr → SRow W q1 NA → PRow W q3 cr → Calls Try.prog 21 #[.agg #[.slice z1 NA.length z2, .slice z3 cr.length z4], .agg #[.slice q1 NA.length q2, .slice q3 cr.length q4]] W fun e w' => e = .returned (.bool true) ∧ Below W.heap.size W w') := fun W z1 z2 z3 z4 q1 q2 q3 q4 h1 h2 h3 h4 => same21 NA cr z1 z3 q1 q3 z2 z4 q2 q4 (Nat.le_trans HNL.out (by omega)) HCR.out W h1 h2 h3 h4
    have hbb : (OB == OB) = true := by simp
    clear hNA hOB hd hI4 hsr htt hb hcr HDS
    have hba : Below w4.heap.size w4 (w4.alloc (.cells #[.slice k1 ss.length k2, .slice k3 cr.length k4] 27)) := (belowRefl w4).alloc (Nat.le_refl _) _
    replace HB : Hid (Below w.heap.size w (w4.alloc (.cells #[.slice k1 ss.length k2, .slice k3 cr.length k4] 27))) := HB.out.trans (hba.mono HB.out.size)
    replace D3 : Hid (DOwn (w4.alloc (.cells #[.slice k1 ss.length k2, .slice k3 cr.length k4] 27)) w.heap.size x1 x2 x3 x4 cur P) := D3.out.below hba
    replace B3 : Hid (Bx (w4.alloc (.cells #[.slice k1 ss.length k2, .slice k3 cr.length k4] 27)) X3 (.slice x1 cur.length x2) (.slice x3 P.length x4)) := B3.out.keep hba B3.out.lt
    replace SL : Hid (SRow (w4.alloc (.cells #[.slice k1 ss.length k2, .slice k3 cr.length k4] 27)) (some ⟨LB, 0, none⟩) [ft, sc]) := SL.out.below hba
    replace D6 : Hid (DOwn (w4.alloc (.cells #[.slice k1 ss.length k2, .slice k3 cr.length k4] 27)) v2.heap.size y1 y2 y3 y4 NS P) := D6.out.below hba
    replace B6 : Hid (Bx (w4.alloc (.cells #[.slice k1 ss.length k2, .slice k3 cr.length k4] 27)) X6 (.slice y1 NS.length y2) (.slice y3 P.length y4)) := B6.out.keep hba B6.out.lt
    replace D8 : Hid (DOwn (w4.alloc (.cells #[.slice k1 ss.length k2, .slice k3 cr.length k4] 27)) v3.heap.size u1 u2 u3 u4 NF P) := D8.out.below hba
    replace B8 : Hid (Bx (w4.alloc (.cells #[.slice k1 ss.length k2, .slice k3 cr.length k4] 27)) X8 (.slice u1 NF.length u2) (.slice u3 P.length u4)) := B8.out.keep hba B8.out.lt
    replace D10 : Hid (DOwn (w4.alloc (.cells #[.slice k1 ss.length k2, .slice k3 cr.length k4] 27)) v4.heap.size k1 k2 k3 k4 ss cr) := D10.out.below hba
    replace ST : Hid (SRow (w4.alloc (.cells #[.slice k1 ss.length k2, .slice k3 cr.length k4] 27)) al ts) := ST.out.below hba
    have B10 : Hid (Bx (w4.alloc (.cells #[.slice k1 ss.length k2, .slice k3 cr.length k4] 27)) w4.heap.size (.slice k1 ss.length k2) (.slice k3 cr.length k4)) := Bx.new w4 _ _ 27
    clear hba
    go_upto_region 8 with fail
    generalize (w4.alloc (.cells #[.slice k1 ss.length k2, .slice k3 cr.length k4] 27)) = v5 at *
    generalize w4.heap.size = X10 at *
    have g0 := B10.out.c0
    have g1 := B10.out.c1
    go_wp2_with fail
    refine (HIS.out _ _ _ _ _ D10.out.s.srow D10.out.p.prow ST.out).mono ?_
    rintro e w5 ⟨m1, m2, m3, m4, rfl, hd, hb⟩
    replace HB : Hid (Below w.heap.size w w5) := HB.out.trans (hb.mono HB.out.size)
    replace D3 : Hid (DOwn w5 w.heap.size x1 x2 x3 x4 cur P) := D3.out.below hb
    replace B3 : Hid (Bx w5 X3 (.slice x1 cur.length x2) (.slice x3 P.length x4)) := B3.out.keep hb B3.out.lt
    replace SL : Hid (SRow w5 (some ⟨LB, 0, none⟩) [ft, sc]) := SL.out.below hb
    replace D6 : Hid (DOwn w5 v2.heap.size y1 y2 y3 y4 NS P) := D6.out.below hb
    replace B6 : Hid (Bx w5 X6 (.slice y1 NS.length y2) (.slice y3 P.length y4)) := B6.out.keep hb B6.out.lt
    replace D8 : Hid (DOwn w5 v3.heap.size u1 u2 u3 u4 NF P) := D8.out.below hb
    replace B8 : Hid (Bx w5 X8 (.slice u1 NF.length u2) (.slice u3 P.length u4)) := B8.out.keep hb B8.out.lt
    replace D10 : Hid (DOwn w5 v4.heap.size k1 k2 k3 k4 ss cr) := D10.out.below hb
    replace ST : Hid (SRow w5 al ts) := ST.out.below hb
    replace B10 : Hid (Bx w5 X10 (.slice k1 ss.length k2) (.slice k3 cr.length k4)) := B10.out.keep hb B10.out.lt
    clear g0 g1
    have D12 : Hid (DOwn w5 v5.heap.size m1 m2 m3 m4 NA cr) := hd
    clear hd hb
    have hba : Below w5.heap.size w5 (w5.alloc (.cells #[.slice m1 NA.length m2, .slice m3 cr.length m4] 27)) := (belowRefl w5).alloc (Nat.le_refl _) _
    replace HB : Hid (Below w.heap.size w (w5.alloc (.cells #[.slice m1 NA.length m2, .slice m3 cr.length m4] 27))) := HB.out.trans (hba.mono HB.out.size)
    replace D3 : Hid (DOwn (w5.alloc (.cells #[.slice m1 NA.length m2, .slice m3 cr.length m4] 27)) w.heap.size x1 x2 x3 x4 cur P) := D3.out.below hba
    replace B3 : Hid (Bx (w5.alloc (.cells #[.slice m1 NA.length m2, .slice m3 cr.length m4] 27)) X3 (.slice x1 cur.length x2) (.slice x3 P.length x4)) := B3.out.keep hba B3.out.lt
    replace SL : Hid (SRow (w5.alloc (.cells #[.slice m1 NA.length m2, .slice m3 cr.length m4] 27)) (some ⟨LB, 0, none⟩) [ft, sc]) := SL.out.below hba
    replace D6 : Hid (DOwn (w5.alloc (.cells #[.slice m1 NA.length m2, .slice m3 cr.length m4] 27)) v2.heap.size y1 y2 y3 y4 NS P) := D6.out.below hba
    replace B6 : Hid (Bx (w5.alloc (.cells #[.slice m1 NA.length m2, .slice m3 cr.length m4] 27)) X6 (.slice y1 NS.length y2) (.slice y3 P.length y4)) := B6.out.keep hba B6.out.lt
    replace D8 : Hid (DOwn (w5.alloc (.cells #[.slice m1 NA.length m2, .slice m3 cr.length m4] 27)) v3.heap.size u1 u2 u3 u4 NF P) := D8.out.below hba
    replace B8 : Hid (Bx (w5.alloc (.cells #[.slice m1 NA.length m2, .slice m3 cr.length m4] 27)) X8 (.slice u1 NF.length u2) (.slice u3 P.length u4)) := B8.out.keep hba B8.out.lt
    replace D10 : Hid (DOwn (w5.alloc (.cells #[.slice m1 NA.length m2, .slice m3 cr.length m4] 27)) v4.heap.size k1 k2 k3 k4 ss cr) := D10.out.below hba
    replace ST : Hid (SRow (w5.alloc (.cells #[.slice m1 NA.length m2, .slice m3 cr.length m4] 27)) al ts) := ST.out.below hba
    replace B10 : Hid (Bx (w5.alloc (.cells #[.slice m1 NA.length m2, .slice m3 cr.length m4] 27)) X10 (.slice k1 ss.length k2) (.slice k3 cr.length k4)) := B10.out.keep hba B10.out.lt
    replace D12 : Hid (DOwn (w5.alloc (.cells #[.slice m1 NA.length m2, .slice m3 cr.length m4] 27)) v5.heap.size m1 m2 m3 m4 NA cr) := D12.out.below hba
    have B12 : Hid (Bx (w5.alloc (.cells #[.slice m1 NA.length m2, .slice m3 cr.length m4] 27)) w5.heap.size (.slice m1 NA.length m2) (.slice m3 cr.length m4)) := Bx.new w5 _ _ 27
    clear hba
    go_upto_region 9 with fail
    generalize (w5.alloc (.cells #[.slice m1 NA.length m2, .slice m3 cr.length m4] 27)) = v6 at *
    generalize w5.heap.size = X12 at *
    have g0 := B10.out.c0
    have g1 := B10.out.c1
    go_wp2_with fail
    refine (HSS.out _ _ _ _ _ _ D10.out ST.out).mono ?_
    rintro e w6 ⟨n1, n2, n3, n4, rfl, hd, hb⟩
    replace HB : Hid (Below w.heap.size w w6) := HB.out.trans (hb.mono HB.out.size)
    replace D3 : Hid (DOwn w6 w.heap.size x1 x2 x3 x4 cur P) := D3.out.below hb
    replace B3 : Hid (Bx w6 X3 (.slice x1 cur.length x2) (.slice x3 P.length x4)) := B3.out.keep hb B3.out.lt
    replace SL : Hid (SRow w6 (some ⟨LB, 0, none⟩) [ft, sc]) := SL.out.below hb
    replace D6 : Hid (DOwn w6 v2.heap.size y1 y2 y3 y4 NS P) := D6.out.below hb
    replace B6 : Hid (Bx w6 X6 (.slice y1 NS.length y2) (.slice y3 P.length y4)) := B6.out.keep hb B6.out.lt
    replace D8 : Hid (DOwn w6 v3.heap.size u1 u2 u3 u4 NF P) := D8.out.below hb
    replace B8 : Hid (Bx w6 X8 (.slice u1 NF.length u2) (.slice u3 P.length u4)) := B8.out.keep hb B8.out.lt
    replace D10 : Hid (DOwn w6 v4.heap.size k1 k2 k3 k4 ss cr) := D10.out.below hb
    replace ST : Hid (SRow w6 al ts) := ST.out.below hb
    replace B10 : Hid (Bx w6 X10 (.slice k1 ss.length k2) (.slice k3 cr.length k4)) := B10.out.keep hb B10.out.lt
    replace D12 : Hid (DOwn w6 v5.heap.size m1 m2 m3 m4 NA cr) := D12.out.below hb
    replace B12 : Hid (Bx w6 X12 (.slice m1 NA.length m2) (.slice m3 cr.length m4)) := B12.out.keep hb B12.out.lt
    clear g0 g1
    have D14 : Hid (DOwn w6 v6.heap.size n1 n2 n3 n4 NA cr) := hd
    clear hd hb
    have hba : Below w6.heap.size w6 (w6.alloc (.cells #[.slice n1 NA.length n2, .slice n3 cr.length n4] 27)) := (belowRefl w6).alloc (Nat.le_refl _) _
    replace HB : Hid (Below w.heap.size w (w6.alloc (.cells #[.slice n1 NA.length n2, .slice n3 cr.length n4] 27))) := HB.out.trans (hba.mono HB.out.size)
    replace D3 : Hid (DOwn (w6.alloc (.cells #[.slice n1 NA.length n2, .slice n3 cr.length n4] 27)) w.heap.size x1 x2 x3 x4 cur P) := D3.out.below hba
    replace B3 : Hid (Bx (w6.alloc (.cells #[.slice n1 NA.length n2, .slice n3 cr.length n4] 27)) X3 (.slice x1 cur.length x2) (.slice x3 P.length x4)) := B3.out.keep hba B3.out.lt
    replace SL : Hid (SRow (w6.alloc (.cells #[.slice n1 NA.length n2, .slice n3 cr.length n4] 27)) (some ⟨LB, 0, none⟩) [ft, sc]) := SL.out.below hba
    replace D6 : Hid (DOwn (w6.alloc (.cells #[.slice n1 NA.length n2, .slice n3 cr.length n4] 27)) v2.heap.size y1 y2 y3 y4 NS P) := D6.out.below hba
    replace B6 : Hid (Bx (w6.alloc (.cells #[.slice n1 NA.length n2, .slice n3 cr.length n4] 27)) X6 (.slice y1 NS.length y2) (.slice y3 P.length y4)) := B6.out.keep hba B6.out.lt
    replace D8 : Hid (DOwn (w6.alloc (.cells #[.slice n1 NA.length n2, .slice n3 cr.length n4] 27)) v3.heap.size u1 u2 u3 u4 NF P) := D8.out.below hba
    replace B8 : Hid (Bx (w6.alloc (.cells #[.slice n1 NA.length n2, .slice n3 cr.length n4] 27)) X8 (.slice u1 NF.length u2) (.slice u3 P.length u4)) := B8.out.keep hba B8.out.lt
    replace D10 : Hid (DOwn (w6.alloc (.cells #[.slice n1 NA.length n2, .slice n3 cr.length n4] 27)) v4.heap.size k1 k2 k3 k4 ss cr) := D10.out.below hba
    replace ST : Hid (SRow (w6.alloc (.cells #[.slice n1 NA.length n2, .slice n3 cr.length n4] 27)) al ts) := ST.out.below hba
    replace B10 : Hid (Bx (w6.alloc (.cells #[.slice n1 NA.length n2, .slice n3 cr.length n4] 27)) X10 (.slice k1 ss.length k2) (.slice k3 cr.length k4)) := B10.out.keep hba B10.out.lt
    replace D12 : Hid (DOwn (w6.alloc (.cells #[.slice n1 NA.length n2, .slice n3 cr.length n4] 27)) v5.heap.size m1 m2 m3 m4 NA cr) := D12.out.below hba
    replace B12 : Hid (Bx (w6.alloc (.cells #[.slice n1 NA.length n2, .slice n3 cr.length n4] 27)) X12 (.slice m1 NA.length m2) (.slice m3 cr.length m4)) := B12.out.keep hba B12.out.lt
    replace D14 : Hid (DOwn (w6.alloc (.cells #[.slice n1 NA.length n2, .slice n3 cr.length n4] 27)) v6.heap.size n1 n2 n3 n4 NA cr) := D14.out.below hba
    have B14 : Hid (Bx (w6.alloc (.cells #[.slice n1 NA.length n2, .slice n3 cr.length n4] 27)) w6.heap.size (.slice n1 NA.length n2) (.slice n3 cr.length n4)) := Bx.new w6 _ _ 27
    clear hba
    go_upto_region 10 with fail
    generalize (w6.alloc (.cells #[.slice n1 NA.length n2, .slice n3 cr.length n4] 27)) = v7 at *
    generalize w6.heap.size = X14 at *
    try simp only [List.append_eq, List.cons_append, List.nil_append]
    refine wp_region_held_drew (S := fun w' => w'.cell? ⟨X3, 0, none⟩ = some (.slice x1 cur.length x2) ∧ w'.cell? ⟨X3, 1, none⟩ = some (.slice x3 P.length x4) ∧ w'.cell? ⟨X6, 0, none⟩ = some (.slice y1 NS.length y2) ∧ w'.cell? ⟨X6, 1, none⟩ = some (.slice y3 P.length y4) ∧ w'.cell? ⟨X8, 0, none⟩ = some (.slice u1 NF.length u2) ∧ w'.cell? ⟨X8, 1, none⟩ = some (.slice u3 P.length u4) ∧ w'.cell? ⟨X12, 0, none⟩ = some (.slice m1 NA.length m2) ∧ w'.cell? ⟨X12, 1, none⟩ = some (.slice m3 cr.length m4) ∧ w'.cell? ⟨X14, 0, none⟩ = some (.slice n1 NA.length n2) ∧ w'.cell? ⟨X14, 1, none⟩ = some (.slice n3 cr.length n4)) (by kernel_rfl) ⟨B3.out.c0, B3.out.c1, B6.out.c0, B6.out.c1, B8.out.c0, B8.out.c1, B12.out.c0, B12.out.c1, B14.out.c0, B14.out.c1⟩ (fun hHeld => ?_)
    (refine wpAnyH_take (i := 0) (v := ?_) rfl (by kernel_rfl) (by kernel_rfl) (by kernel_rfl) (fun _ _ _ h => h) (Or.inl ⟨by rfl, ?_⟩) (by assumption) ?_; rotate_left; (focus (intro w hSw; (try dsimp only at hSw); go_simp; (try with_reducible rfl); done)); simp only [Act.put, List.getElem_toArray, List.getElem_cons_zero, List.setIfInBounds_toArray, List.set_cons_zero, List.set_cons_succ])
    (refine wpAnyH_take (i := 1) (v := ?_) rfl (by kernel_rfl) (by kernel_rfl) (by kernel_rfl) (fun _ _ _ h => h) (Or.inl ⟨by rfl, ?_⟩) (by assumption) ?_; rotate_left; (focus (intro w hSw; (try dsimp only at hSw); go_simp; (try with_reducible rfl); done)); simp only [Act.put, List.getElem_toArray, List.getElem_cons_zero, List.getElem_cons_succ, List.setIfInBounds_toArray, List.set_cons_zero, List.set_cons_succ])
    (refine wpAnyH_take (i := 2) (v := ?_) rfl (by kernel_rfl) (by kernel_rfl) (by kernel_rfl) (fun _ _ _ h => h) (Or.inl ⟨by rfl, ?_⟩) (by assumption) ?_; rotate_left; (focus (intro w hSw; (try dsimp only at hSw); go_simp; (try with_reducible rfl); done)); simp only [Act.put, List.getElem_toArray, List.getElem_cons_zero, List.getElem_cons_succ, List.setIfInBounds_toArray, List.set_cons_zero, List.set_cons_succ])
    refine wpAnyH_ready (rs := [3]) (by kernel_rfl) (by simp) ?_
    refine AllReadyH.cons rfl (fun K hK => ?_) AllReadyH.nil
    go_simp
    go_wp2_with fail
    refine (HLO.out _ _ _ _ _ (D6.out.s.srow.below (belowRefl _).drew) (D6.out.p.prow.below (belowRefl _).drew)).mono ?_
    rintro e r1 ⟨rfl, hb⟩
    replace hb := undrew hb
    replace HB : Hid (Below w.heap.size w r1) := HB.out.trans (hb.mono HB.out.size)
    replace D3 : Hid (DOwn r1 w.heap.size x1 x2 x3 x4 cur P) := D3.out.below hb
    replace B3 : Hid (Bx r1 X3 (.slice x1 cur.length x2) (.slice x3 P.length x4)) := B3.out.keep hb B3.out.lt
    replace SL : Hid (SRow r1 (some ⟨LB, 0, none⟩) [ft, sc]) := SL.out.below hb
    replace D6 : Hid (DOwn r1 v2.heap.size y1 y2 y3 y4 NS P) := D6.out.below hb
    replace B6 : Hid (Bx r1 X6 (.slice y1 NS.length y2) (.slice y3 P.length y4)) := B6.out.keep hb B6.out.lt
    replace D8 : Hid (DOwn r1 v3.heap.size u1 u2 u3 u4 NF P) := D8.out.below hb
    replace B8 : Hid (Bx r1 X8 (.slice u1 NF.length u2) (.slice u3 P.length u4)) := B8.out.keep hb B8.out.lt
    replace D10 : Hid (DOwn r1 v4.heap.size k1 k2 k3 k4 ss cr) := D10.out.below hb
    replace ST : Hid (SRow r1 al ts) := ST.out.below hb
    replace B10 : Hid (Bx r1 X10 (.slice k1 ss.length k2) (.slice k3 cr.length k4)) := B10.out.keep hb B10.out.lt
    replace D12 : Hid (DOwn r1 v5.heap.size m1 m2 m3 m4 NA cr) := D12.out.below hb
    replace B12 : Hid (Bx r1 X12 (.slice m1 NA.length m2) (.slice m3 cr.length m4)) := B12.out.keep hb B12.out.lt
    replace D14 : Hid (DOwn r1 v6.heap.size n1 n2 n3 n4 NA cr) := D14.out.below hb
    replace B14 : Hid (Bx r1 X14 (.slice n1 NA.length n2) (.slice n3 cr.length n4)) := B14.out.keep hb B14.out.lt
    go_wp2_with fail
    refine hK.out _ _ ⟨B3.out.c0, B3.out.c1, B6.out.c0, B6.out.c1, B8.out.c0, B8.out.c1, B12.out.c0, B12.out.c1, B14.out.c0, B14.out.c1⟩ (fun hHeld1 => ?_)
    clear hK K hb
    (refine wpAnyH_take (i := 4) (v := ?_) rfl (by kernel_rfl) (by kernel_rfl) (by kernel_rfl) (fun _ _ _ h => h) (Or.inl ⟨by rfl, ?_⟩) (by assumption) ?_; rotate_left; (focus (intro w hSw; (try dsimp only at hSw); go_simp; (try with_reducible rfl); done)); simp only [Act.put, List.getElem_toArray, List.getElem_cons_zero, List.getElem_cons_succ, List.setIfInBounds_toArray, List.set_cons_zero, List.set_cons_succ])
    (refine wpAnyH_take (i := 5) (v := ?_) rfl (by kernel_rfl) (by kernel_rfl) (by kernel_rfl) (fun _ _ _ h => h) (Or.inl ⟨by rfl, ?_⟩) (by assumption) ?_; rotate_left; (focus (intro w hSw; (try dsimp only at hSw); go_simp; (try with_reducible rfl); done)); simp only [Act.put, List.getElem_toArray, List.getElem_cons_zero, List.getElem_cons_succ, List.setIfInBounds_toArray, List.set_cons_zero, List.set_cons_succ])
    (refine wpAnyH_take (i := 6) (v := ?_) rfl (by kernel_rfl) (by kernel_rfl) (by kernel_rfl) (fun _ _ _ h => h) (Or.inl ⟨by rfl, ?_⟩) (by assumption) ?_; rotate_left; (focus (intro w hSw; (try dsimp only at hSw); go_simp; (try with_reducible rfl); done)); simp only [Act.put, List.getElem_toArray, List.getElem_cons_zero, List.getElem_cons_succ, List.setIfInBounds_toArray, List.set_cons_zero, List.set_cons_succ])
    (refine wpAnyH_take (i := 8) (v := ?_) rfl (by kernel_rfl) (by kernel_rfl) (by kernel_rfl) (fun _ _ _ h => h) (Or.inl ⟨by rfl, ?_⟩) (by assumption) ?_; rotate_left; (focus (intro w hSw; (try dsimp only at hSw); go_simp; (try with_reducible rfl); done)); simp only [Act.put, List.getElem_toArray, List.getElem_cons_zero, List.getElem_cons_succ, List.setIfInBounds_toArray, List.set_cons_zero, List.set_cons_succ])
    refine wpAnyH_ready (rs := [7]) (by kernel_rfl) (by simp) ?_
    refine AllReadyH.cons rfl (fun K hK => ?_) AllReadyH.nil
    go_simp
    go_wp2_with fail
    refine (HLTe.out _ _ _ _ _ D6.out.s.srow D6.out.p.prow).mono ?_
    rintro e r2 ⟨va, vc, rfl, hsv, hb⟩
    replace HB : Hid (Below w.heap.size w r2) := HB.out.trans (hb.mono HB.out.size)
    replace D3 : Hid (DOwn r2 w.heap.size x1 x2 x3 x4 cur P) := D3.out.below hb
    replace B3 : Hid (Bx r2 X3 (.slice x1 cur.length x2) (.slice x3 P.length x4)) := B3.out.keep hb B3.out.lt
    replace SL : Hid (SRow r2 (some ⟨LB, 0, none⟩) [ft, sc]) := SL.out.below hb
    replace D6 : Hid (DOwn r2 v2.heap.size y1 y2 y3 y4 NS P) := D6.out.below hb
    replace B6 : Hid (Bx r2 X6 (.slice y1 NS.length y2) (.slice y3 P.length y4)) := B6.out.keep hb B6.out.lt
    replace D8 : Hid (DOwn r2 v3.heap.size u1 u2 u3 u4 NF P) := D8.out.below hb
    replace B8 : Hid (Bx r2 X8 (.slice u1 NF.length u2) (.slice u3 P.length u4)) := B8.out.keep hb B8.out.lt
    replace D10 : Hid (DOwn r2 v4.heap.size k1 k2 k3 k4 ss cr) := D10.out.below hb
    replace ST : Hid (SRow r2 al ts) := ST.out.below hb
    replace B10 : Hid (Bx r2 X10 (.slice k1 ss.length k2) (.slice k3 cr.length k4)) := B10.out.keep hb B10.out.lt
    replace D12 : Hid (DOwn r2 v5.heap.size m1 m2 m3 m4 NA cr) := D12.out.below hb
    replace B12 : Hid (Bx r2 X12 (.slice m1 NA.length m2) (.slice m3 cr.length m4)) := B12.out.keep hb B12.out.lt
    replace D14 : Hid (DOwn r2 v6.heap.size n1 n2 n3 n4 NA cr) := D14.out.below hb
    replace B14 : Hid (Bx r2 X14 (.slice n1 NA.length n2) (.slice n3 cr.length n4)) := B14.out.keep hb B14.out.lt
    have SV : Hid (SRow r2 va [ft, sc]) := hsv
    clear hsv
    go_wp2_with fail
    refine hK.out _ _ ⟨B3.out.c0, B3.out.c1, B6.out.c0, B6.out.c1, B8.out.c0, B8.out.c1, B12.out.c0, B12.out.c1, B14.out.c0, B14.out.c1⟩ (fun hHeld2 => ?_)
    clear hK K hb
    refine wpAnyH_ready (rs := [9]) (by kernel_rfl) (by simp) ?_
    refine AllReadyH.cons rfl (fun K hK => ?_) AllReadyH.nil
    go_simp
    go_wp2_with fail
    refine (HSM.out _ _ _ _ SV.out SL.out).mono ?_
    rintro e r3 ⟨rfl, hb⟩
    replace HB : Hid (Below w.heap.size w r3) := HB.out.trans (hb.mono HB.out.size)
    replace D3 : Hid (DOwn r3 w.heap.size x1 x2 x3 x4 cur P) := D3.out.below hb
    replace B3 : Hid (Bx r3 X3 (.slice x1 cur.length x2) (.slice x3 P.length x4)) := B3.out.keep hb B3.out.lt
    replace SL : Hid (SRow r3 (some ⟨LB, 0, none⟩) [ft, sc]) := SL.out.below hb
    replace D6 : Hid (DOwn r3 v2.heap.size y1 y2 y3 y4 NS P) := D6.out.below hb
    replace B6 : Hid (Bx r3 X6 (.slice y1 NS.length y2) (.slice y3 P.length y4)) := B6.out.keep hb B6.out.lt
    replace D8 : Hid (DOwn r3 v3.heap.size u1 u2 u3 u4 NF P) := D8.out.below hb
    replace B8 : Hid (Bx r3 X8 (.slice u1 NF.length u2) (.slice u3 P.length u4)) := B8.out.keep hb B8.out.lt
    replace D10 : Hid (DOwn r3 v4.heap.size k1 k2 k3 k4 ss cr) := D10.out.below hb
    replace ST : Hid (SRow r3 al ts) := ST.out.below hb
    replace B10 : Hid (Bx r3 X10 (.slice k1 ss.length k2) (.slice k3 cr.length k4)) := B10.out.keep hb B10.out.lt
    replace D12 : Hid (DOwn r3 v5.heap.size m1 m2 m3 m4 NA cr) := D12.out.below hb
    replace B12 : Hid (Bx r3 X12 (.slice m1 NA.length m2) (.slice m3 cr.length m4)) := B12.out.keep hb B12.out.lt
    replace D14 : Hid (DOwn r3 v6.heap.size n1 n2 n3 n4 NA cr) := D14.out.below hb
    replace B14 : Hid (Bx r3 X14 (.slice n1 NA.length n2) (.slice n3 cr.length n4)) := B14.out.keep hb B14.out.lt
    replace SV : Hid (SRow r3 va [ft, sc]) := SV.out.below hb
    go_wp2_with fail
    refine hK.out _ _ ⟨B3.out.c0, B3.out.c1, B6.out.c0, B6.out.c1, B8.out.c0, B8.out.c1, B12.out.c0, B12.out.c1, B14.out.c0, B14.out.c1⟩ (fun hHeld3 => ?_)
    clear hK K hb
    (refine wpAnyH_take (i := 10) (v := ?_) rfl (by kernel_rfl) (by kernel_rfl) (by kernel_rfl) (fun _ _ _ h => h) (Or.inl ⟨by rfl, ?_⟩) (by assumption) ?_; rotate_left; (focus (intro w hSw; (try dsimp only at hSw); go_simp; (try with_reducible rfl); done)); simp only [Act.put, List.getElem_toArray, List.getElem_cons_zero, List.getElem_cons_succ, List.setIfInBounds_toArray, List.set_cons_zero, List.set_cons_succ])
    (refine wpAnyH_take (i := 11) (v := ?_) rfl (by kernel_rfl) (by kernel_rfl) (by kernel_rfl) (fun _ _ _ h => h) (Or.inl ⟨by rfl, ?_⟩) (by assumption) ?_; rotate_left; (focus (intro w hSw; (try dsimp only at hSw); go_simp; (try with_reducible rfl); done)); simp only [Act.put, List.getElem_toArray, List.getElem_cons_zero, List.getElem_cons_succ, List.setIfInBounds_toArray, List.set_cons_zero, List.set_cons_succ])
    (refine wpAnyH_take (i := 12) (v := ?_) rfl (by kernel_rfl) (by kernel_rfl) (by kernel_rfl) (fun _ _ _ h => h) (Or.inl ⟨by rfl, ?_⟩) (by assumption) ?_; rotate_left; (focus (intro w hSw; (try dsimp only at hSw); go_simp; (try with_reducible rfl); done)); simp only [Act.put, List.getElem_toArray, List.getElem_cons_zero, List.getElem_cons_succ, List.setIfInBounds_toArray, List.set_cons_zero, List.set_cons_succ])
    (refine wpAnyH_take (i := 14) (v := ?_) rfl (by kernel_rfl) (by kernel_rfl) (by kernel_rfl) (fun _ _ _ h => h) (Or.inl ⟨by rfl, ?_⟩) (by assumption) ?_; rotate_left; (focus (intro w hSw; (try dsimp only at hSw); go_simp; (try with_reducible rfl); done)); simp only [Act.put, List.getElem_toArray, List.getElem_cons_zero, List.getElem_cons_succ, List.setIfInBounds_toArray, List.set_cons_zero, List.set_cons_succ])
    refine wpAnyH_ready (rs := [13]) (by kernel_rfl) (by simp) ?_
    refine AllReadyH.cons rfl (fun K hK => ?_) AllReadyH.nil
    go_simp
    go_wp2_with fail
    refine (HACe.out _ _ _ _ _ D6.out.s.srow D6.out.p.prow).mono ?_
    rintro e r4 ⟨rfl, hb⟩
    replace HB : Hid (Below w.heap.size w r4) := HB.out.trans (hb.mono HB.out.size)
    replace D3 : Hid (DOwn r4 w.heap.size x1 x2 x3 x4 cur P) := D3.out.below hb
    replace B3 : Hid (Bx r4 X3 (.slice x1 cur.length x2) (.slice x3 P.length x4)) := B3.out.keep hb B3.out.lt
    replace SL : Hid (SRow r4 (some ⟨LB, 0, none⟩) [ft, sc]) := SL.out.below hb
    replace D6 : Hid (DOwn r4 v2.heap.size y1 y2 y3 y4 NS P) := D6.out.below hb
    replace B6 : Hid (Bx r4 X6 (.slice y1 NS.length y2) (.slice y3 P.length y4)) := B6.out.keep hb B6.out.lt
    replace D8 : Hid (DOwn r4 v3.heap.size u1 u2 u3 u4 NF P) := D8.out.below hb
    replace B8 : Hid (Bx r4 X8 (.slice u1 NF.length u2) (.slice u3 P.length u4)) := B8.out.keep hb B8.out.lt
    replace D10 : Hid (DOwn r4 v4.heap.size k1 k2 k3 k4 ss cr) := D10.out.below hb
    replace ST : Hid (SRow r4 al ts) := ST.out.below hb
    replace B10 : Hid (Bx r4 X10 (.slice k1 ss.length k2) (.slice k3 cr.length k4)) := B10.out.keep hb B10.out.lt
    replace D12 : Hid (DOwn r4 v5.heap.size m1 m2 m3 m4 NA cr) := D12.out.below hb
    replace B12 : Hid (Bx r4 X12 (.slice m1 NA.length m2) (.slice m3 cr.length m4)) := B12.out.keep hb B12.out.lt
    replace D14 : Hid (DOwn r4 v6.heap.size n1 n2 n3 n4 NA cr) := D14.out.below hb
    replace B14 : Hid (Bx r4 X14 (.slice n1 NA.length n2) (.slice n3 cr.length n4)) := B14.out.keep hb B14.out.lt
    replace SV : Hid (SRow r4 va [ft, sc]) := SV.out.below hb
    go_wp2_with fail
    refine hK.out _ _ ⟨B3.out.c0, B3.out.c1, B6.out.c0, B6.out.c1, B8.out.c0, B8.out.c1, B12.out.c0, B12.out.c1, B14.out.c0, B14.out.c1⟩ (fun hHeld4 => ?_)
    clear hK K hb
    refine wpAnyH_ready (rs := [15]) (by kernel_rfl) (by simp) ?_
    refine AllReadyH.cons rfl (fun K hK => ?_) AllReadyH.nil
    go_simp
    go_wp2_with fail
    refine (HACd.out _ _ _ _ _ D3.out.s.srow D3.out.p.prow).mono ?_
    rintro e r5 ⟨rfl, hb⟩
    replace HB : Hid (Below w.heap.size w r5) := HB.out.trans (hb.mono HB.out.size)
    replace D3 : Hid (DOwn r5 w.heap.size x1 x2 x3 x4 cur P) := D3.out.below hb
    replace B3 : Hid (Bx r5 X3 (.slice x1 cur.length x2) (.slice x3 P.length x4)) := B3.out.keep hb B3.out.lt
    replace SL : Hid (SRow r5 (some ⟨LB, 0, none⟩) [ft, sc]) := SL.out.below hb
    replace D6 : Hid (DOwn r5 v2.heap.size y1 y2 y3 y4 NS P) := D6.out.below hb
    replace B6 : Hid (Bx r5 X6 (.slice y1 NS.length y2) (.slice y3 P.length y4)) := B6.out.keep hb B6.out.lt
    replace D8 : Hid (DOwn r5 v3.heap.size u1 u2 u3 u4 NF P) := D8.out.below hb
    replace B8 : Hid (Bx r5 X8 (.slice u1 NF.length u2) (.slice u3 P.length u4)) := B8.out.keep hb B8.out.lt
    replace D10 : Hid (DOwn r5 v4.heap.size k1 k2 k3 k4 ss cr) := D10.out.below hb
    replace ST : Hid (SRow r5 al ts) := ST.out.below hb
    replace B10 : Hid (Bx r5 X10 (.slice k1 ss.length k2) (.slice k3 cr.length k4)) := B10.out.keep hb B10.out.lt
    replace D12 : Hid (DOwn r5 v5.heap.size m1 m2 m3 m4 NA cr) := D12.out.below hb
    replace B12 : Hid (Bx r5 X12 (.slice m1 NA.length m2) (.slice m3 cr.length m4)) := B12.out.keep hb B12.out.lt
    replace D14 : Hid (DOwn r5 v6.heap.size n1 n2 n3 n4 NA cr) := D14.out.below hb
    replace B14 : Hid (Bx r5 X14 (.slice n1 NA.length n2) (.slice n3 cr.length n4)) := B14.out.keep hb B14.out.lt
    replace SV : Hid (SRow r5 va [ft, sc]) := SV.out.below hb
    go_wp2_with fail
    refine hK.out _ _ ⟨B3.out.c0, B3.out.c1, B6.out.c0, B6.out.c1, B8.out.c0, B8.out.c1, B12.out.c0, B12.out.c1, B14.out.c0, B14.out.c1⟩ (fun hHeld5 => ?_)
    clear hK K hb
    (refine wpAnyH_take (i := 16) (v := ?_) rfl (by kernel_rfl) (by kernel_rfl) (by kernel_rfl) (fun _ _ _ h => h) (Or.inl ⟨by rfl, ?_⟩) (by assumption) ?_; rotate_left; (focus (intro w hSw; (try dsimp only at hSw); go_simp; (try with_reducible rfl); done)); simp only [Act.put, List.getElem_toArray, List.getElem_cons_zero, List.getElem_cons_succ, List.setIfInBounds_toArray, List.set_cons_zero, List.set_cons_succ])
    (refine wpAnyH_take (i := 17) (v := ?_) rfl (by kernel_rfl) (by kernel_rfl) (by kernel_rfl) (fun _ _ _ h => h) (Or.inl ⟨by rfl, ?_⟩) (by assumption) ?_; rotate_left; (focus (intro w hSw; (try dsimp only at hSw); go_simp; (try with_reducible rfl); done)); simp only [Act.put, List.getElem_toArray, List.getElem_cons_zero, List.getElem_cons_succ, List.setIfInBounds_toArray, List.set_cons_zero, List.set_cons_succ])
    (refine wpAnyH_take (i := 18) (v := ?_) rfl (by kernel_rfl) (by kernel_rfl) (by kernel_rfl) (fun _ _ _ h => h) (Or.inl ⟨by rfl, ?_⟩) (by assumption) ?_; rotate_left; (focus (intro w hSw; (try dsimp only at hSw); go_simp; (try with_reducible rfl); done)); simp only [Act.put, List.getElem_toArray, List.getElem_cons_zero, List.getElem_cons_succ, List.setIfInBounds_toArray, List.set_cons_zero, List.set_cons_succ])
    (refine wpAnyH_take (i := 19) (v := ?_) rfl (by kernel_rfl) (by kernel_rfl) (by kernel_rfl) (fun _ _ _ h => h) (Or.inl ⟨by rfl, ?_⟩) (by assumption) ?_; rotate_left; (focus (intro w hSw; (try dsimp only at hSw); go_simp; (try with_reducible rfl); done)); simp only [Act.put, List.getElem_toArray, List.getElem_cons_zero, List.getElem_cons_succ, List.setIfInBounds_toArray, List.set_cons_zero, List.set_cons_succ])
    (refine wpAnyH_take (i := 20) (v := ?_) rfl (by kernel_rfl) (by kernel_rfl) (by kernel_rfl) (fun _ _ _ h => h) (Or.inl ⟨by rfl, ?_⟩) (by assumption) ?_; rotate_left; (focus (intro w hSw; (try dsimp only at hSw); go_simp; (try with_reducible rfl); done)); simp only [Act.put, List.getElem_toArray, List.getElem_cons_zero, List.getElem_cons_succ, List.setIfInBounds_toArray, List.set_cons_zero, List.set_cons_succ])
    (refine wpAnyH_take (i := 21) (v := ?_) rfl (by kernel_rfl) (by kernel_rfl) (by kernel_rfl) (fun _ _ _ h => h) (Or.inl ⟨by rfl, ?_⟩) (by assumption) ?_; rotate_left; (focus (intro w hSw; (try dsimp only at hSw); go_simp; (try with_reducible rfl); done)); simp only [Act.put, List.getElem_toArray, List.getElem_cons_zero, List.getElem_cons_succ, List.setIfInBounds_toArray, List.set_cons_zero, List.set_cons_succ])
    (refine wpAnyH_take (i := 22) (v := ?_) rfl (by kernel_rfl) (by kernel_rfl) (by kernel_rfl) (fun _ _ _ h => h) (Or.inl ⟨by rfl, ?_⟩) (by assumption) ?_; rotate_left; (focus (intro w hSw; (try dsimp only at hSw); go_simp; (try with_reducible rfl); done)); simp only [Act.put, List.getElem_toArray, List.getElem_cons_zero, List.getElem_cons_succ, List.setIfInBounds_toArray, List.set_cons_zero, List.set_cons_succ])
    (refine wpAnyH_take (i := 23) (v := ?_) rfl (by kernel_rfl) (by kernel_rfl) (by kernel_rfl) (fun _ _ _ h => h) (Or.inl ⟨by rfl, ?_⟩) (by assumption) ?_; rotate_left; (focus (intro w hSw; (try dsimp only at hSw); go_simp; (try with_reducible rfl); done)); simp only [Act.put, List.getElem_toArray, List.getElem_cons_zero, List.getElem_cons_succ, List.setIfInBounds_toArray, List.set_cons_zero, List.set_cons_succ])
    refine wpAnyH_ready (rs := [24]) (by kernel_rfl) (by simp) ?_
    refine AllReadyH.cons rfl (fun K hK => ?_) AllReadyH.nil
    go_simp
    go_wp2_with fail
    refine (HLTf.out _ _ _ _ _ D8.out.s.srow D8.out.p.prow).mono ?_
    rintro e r6 ⟨vf, vg, rfl, hb⟩
    replace HB : Hid (Below w.heap.size w r6) := HB.out.trans (hb.mono HB.out.size)
    replace D3 : Hid (DOwn r6 w.heap.size x1 x2 x3 x4 cur P) := D3.out.below hb
    replace B3 : Hid (Bx r6 X3 (.slice x1 cur.length x2) (.slice x3 P.length x4)) := B3.out.keep hb B3.out.lt
    replace SL : Hid (SRow r6 (some ⟨LB, 0, none⟩) [ft, sc]) := SL.out.below hb
    replace D6 : Hid (DOwn r6 v2.heap.size y1 y2 y3 y4 NS P) := D6.out.below hb
    replace B6 : Hid (Bx r6 X6 (.slice y1 NS.length y2) (.slice y3 P.length y4)) := B6.out.keep hb B6.out.lt
    replace D8 : Hid (DOwn r6 v3.heap.size u1 u2 u3 u4 NF P) := D8.out.below hb
    replace B8 : Hid (Bx r6 X8 (.slice u1 NF.length u2) (.slice u3 P.length u4)) := B8.out.keep hb B8.out.lt
    replace D10 : Hid (DOwn r6 v4.heap.size k1 k2 k3 k4 ss cr) := D10.out.below hb
    replace ST : Hid (SRow r6 al ts) := ST.out.below hb
    replace B10 : Hid (Bx r6 X10 (.slice k1 ss.length k2) (.slice k3 cr.length k4)) := B10.out.keep hb B10.out.lt
    replace D12 : Hid (DOwn r6 v5.heap.size m1 m2 m3 m4 NA cr) := D12.out.below hb
    replace B12 : Hid (Bx r6 X12 (.slice m1 NA.length m2) (.slice m3 cr.length m4)) := B12.out.keep hb B12.out.lt
    replace D14 : Hid (DOwn r6 v6.heap.size n1 n2 n3 n4 NA cr) := D14.out.below hb
    replace B14 : Hid (Bx r6 X14 (.slice n1 NA.length n2) (.slice n3 cr.length n4)) := B14.out.keep hb B14.out.lt
    replace SV : Hid (SRow r6 va [ft, sc]) := SV.out.below hb
    go_wp2_with fail
    refine hK.out _ _ ⟨B3.out.c0, B3.out.c1, B6.out.c0, B6.out.c1, B8.out.c0, B8.out.c1, B12.out.c0, B12.out.c1, B14.out.c0, B14.out.c1⟩ (fun hHeld6 => ?_)
    clear hK K hb
    (refine wpAnyH_take (i := 25) (v := ?_) rfl (by kernel_rfl) (by kernel_rfl) (by kernel_rfl) (fun _ _ _ h => h) (Or.inl ⟨by rfl, ?_⟩) (by assumption) ?_; rotate_left; (focus (intro w hSw; (try dsimp only at hSw); go_simp; (try with_reducible rfl); done)); simp only [Act.put, List.getElem_toArray, List.getElem_cons_zero, List.getElem_cons_succ, List.setIfInBounds_toArray, List.set_cons_zero, List.set_cons_succ])
    (refine wpAnyH_take (i := 26) (v := ?_) rfl (by kernel_rfl) (by kernel_rfl) (by kernel_rfl) (fun _ _ _ h => h) (Or.inl ⟨by rfl, ?_⟩) (by assumption) ?_; rotate_left; (focus (intro w hSw; (try dsimp only at hSw); go_simp; (try with_reducible rfl); done)); simp only [Act.put, List.getElem_toArray, List.getElem_cons_zero, List.getElem_cons_succ, List.setIfInBounds_toArray, List.set_cons_zero, List.set_cons_succ])
    (refine wpAnyH_take (i := 27) (v := ?_) rfl (by kernel_rfl) (by kernel_rfl) (by kernel_rfl) (fun _ _ _ h => h) (Or.inl ⟨by rfl, ?_⟩) (by assumption) ?_; rotate_left; (focus (intro w hSw; (try dsimp only at hSw); go_simp; (try with_reducible rfl); done)); simp only [Act.put, List.getElem_toArray, List.getElem_cons_zero, List.getElem_cons_succ, List.setIfInBounds_toArray, List.set_cons_zero, List.set_cons_succ])
    (refine wpAnyH_take (i := 28) (v := ?_) rfl (by kernel_rfl) (by kernel_rfl) (by kernel_rfl) (fun _ _ _ h => h) (Or.inl ⟨by rfl, ?_⟩) (by assumption) ?_; rotate_left; (focus (intro w hSw; (try dsimp only at hSw); go_simp; (try with_reducible rfl); done)); simp only [Act.put, List.getElem_toArray, List.getElem_cons_zero, List.getElem_cons_succ, List.setIfInBounds_toArray, List.set_cons_zero, List.set_cons_succ])
    (refine wpAnyH_take (i := 29) (v := ?_) rfl (by kernel_rfl) (by kernel_rfl) (by kernel_rfl) (fun _ _ _ h => h) (Or.inl ⟨by rfl, ?_⟩) (by assumption) ?_; rotate_left; (focus (intro w hSw; (try dsimp only at hSw); go_simp; (try with_reducible rfl); done)); simp only [Act.put, List.getElem_toArray, List.getElem_cons_zero, List.getElem_cons_succ, List.setIfInBounds_toArray, List.set_cons_zero, List.set_cons_succ])
    (refine wpAnyH_take (i := 30) (v := ?_) rfl (by kernel_rfl) (by kernel_rfl) (by kernel_rfl) (fun _ _ _ h => h) (Or.inl ⟨by rfl, ?_⟩) (by assumption) ?_; rotate_left; (focus (intro w hSw; (try dsimp only at hSw); go_simp; (try with_reducible rfl); done)); simp only [Act.put, List.getElem_toArray, List.getElem_cons_zero, List.getElem_cons_succ, List.setIfInBounds_toArray, List.set_cons_zero, List.set_cons_succ])
    (refine wpAnyH_take (i := 31) (v := ?_) rfl (by kernel_rfl) (by kernel_rfl) (by kernel_rfl) (fun _ _ _ h => h) (Or.inl ⟨by rfl, ?_⟩) (by assumption) ?_; rotate_left; (focus (intro w hSw; (try dsimp only at hSw); go_simp; (try with_reducible rfl); done)); simp only [Act.put, List.getElem_toArray, List.getElem_cons_zero, List.getElem_cons_succ, List.setIfInBounds_toArray, List.set_cons_zero, List.set_cons_succ])
    (refine wpAnyH_take (i := 32) (v := ?_) rfl (by kernel_rfl) (by kernel_rfl) (by kernel_rfl) (fun _ _ _ h => h) (Or.inl ⟨by rfl, ?_⟩) (by assumption) ?_; rotate_left; (focus (intro w hSw; (try dsimp only at hSw); go_simp; (try with_reducible rfl); done)); simp only [Act.put, List.getElem_toArray, List.getElem_cons_zero, List.getElem_cons_succ, List.setIfInBounds_toArray, List.set_cons_zero, List.set_cons_succ])
    (refine wpAnyH_take (i := 33) (v := ?_) rfl (by kernel_rfl) (by kernel_rfl) (by kernel_rfl) (fun _ _ _ h => h) (Or.inl ⟨by rfl, ?_⟩) (by assumption) ?_; rotate_left; (focus (intro w hSw; (try dsimp only at hSw); go_simp; (try with_reducible rfl); done)); simp only [Act.put, List.getElem_toArray, List.getElem_cons_zero, List.getElem_cons_succ, List.setIfInBounds_toArray, List.set_cons_zero, List.set_cons_succ])
    (refine wpAnyH_take (i := 34) (v := ?_) rfl (by kernel_rfl) (by kernel_rfl) (by kernel_rfl) (fun _ _ _ h => h) (Or.inl ⟨by rfl, ?_⟩) (by assumption) ?_; rotate_left; (focus (intro w hSw; (try dsimp only at hSw); go_simp; (try with_reducible rfl); done)); simp only [Act.put, List.getElem_toArray, List.getElem_cons_zero, List.getElem_cons_succ, List.setIfInBounds_toArray, List.set_cons_zero, List.set_cons_succ])
    (refine wpAnyH_take (i := 35) (v := ?_) rfl (by kernel_rfl) (by kernel_rfl) (by kernel_rfl) (fun _ _ _ h => h) (Or.inl ⟨by rfl, ?_⟩) (by assumption) ?_; rotate_left; (focus (intro w hSw; (try dsimp only at hSw); go_simp; (try with_reducible rfl); done)); simp only [Act.put, List.getElem_toArray, List.getElem_cons_zero, List.getElem_cons_succ, List.setIfInBounds_toArray, List.set_cons_zero, List.set_cons_succ])
    refine wpAnyH_ready (rs := [36]) (by kernel_rfl) (by simp) ?_
    refine AllReadyH.cons rfl (fun K hK => ?_) AllReadyH.nil
    go_simp
    go_wp2_with fail
    refine (HSD.out _ _ _ _ _ _ _ _ _ D12.out.s.srow D12.out.p.prow D14.out.s.srow D14.out.p.prow).mono ?_
    rintro e r7 ⟨rfl, hb⟩
    replace HB : Hid (Below w.heap.size w r7) := HB.out.trans (hb.mono HB.out.size)
    replace D3 : Hid (DOwn r7 w.heap.size x1 x2 x3 x4 cur P) := D3.out.below hb
    replace B3 : Hid (Bx r7 X3 (.slice x1 cur.length x2) (.slice x3 P.length x4)) := B3.out.keep hb B3.out.lt
    replace SL : Hid (SRow r7 (some ⟨LB, 0, none⟩) [ft, sc]) := SL.out.below hb
    replace D6 : Hid (DOwn r7 v2.heap.size y1 y2 y3 y4 NS P) := D6.out.below hb
    replace B6 : Hid (Bx r7 X6 (.slice y1 NS.length y2) (.slice y3 P.length y4)) := B6.out.keep hb B6.out.lt
    replace D8 : Hid (DOwn r7 v3.heap.size u1 u2 u3 u4 NF P) := D8.out.below hb
    replace B8 : Hid (Bx r7 X8 (.slice u1 NF.length u2) (.slice u3 P.length u4)) := B8.out.keep hb B8.out.lt
    replace D10 : Hid (DOwn r7 v4.heap.size k1 k2 k3 k4 ss cr) := D10.out.below hb
    replace ST : Hid (SRow r7 al ts) := ST.out.below hb
    replace B10 : Hid (Bx r7 X10 (.slice k1 ss.length k2) (.slice k3 cr.length k4)) := B10.out.keep hb B10.out.lt
    replace D12 : Hid (DOwn r7 v5.heap.size m1 m2 m3 m4 NA cr) := D12.out.below hb
    replace B12 : Hid (Bx r7 X12 (.slice m1 NA.length m2) (.slice m3 cr.length m4)) := B12.out.keep hb B12.out.lt
    replace D14 : Hid (DOwn r7 v6.heap.size n1 n2 n3 n4 NA cr) := D14.out.below hb
    replace B14 : Hid (Bx r7 X14 (.slice n1 NA.length n2) (.slice n3 cr.length n4)) := B14.out.keep hb B14.out.lt
    replace SV : Hid (SRow r7 va [ft, sc]) := SV.out.below hb
    go_wp2_with fail
    refine hK.out _ _ ⟨B3.out.c0, B3.out.c1, B6.out.c0, B6.out.c1, B8.out.c0, B8.out.c1, B12.out.c0, B12.out.c1, B14.out.c0, B14.out.c1⟩ (fun hHeld7 => ?_)
    clear hK K hb
    (refine wpAnyH_take (i := 37) (v := ?_) rfl (by kernel_rfl) (by kernel_rfl) (by kernel_rfl) (fun _ _ _ h => h) (Or.inl ⟨by rfl, ?_⟩) (by assumption) ?_; rotate_left; (focus (intro w hSw; (try dsimp only at hSw); go_simp; (try with_reducible rfl); done)); simp only [Act.put, List.getElem_toArray, List.getElem_cons_zero, List.getElem_cons_succ, List.setIfInBounds_toArray, List.set_cons_zero, List.set_cons_succ])
    (refine wpAnyH_take (i := 38) (v := ?_) rfl (by kernel_rfl) (by kernel_rfl) (by kernel_rfl) (fun _ _ _ h => h) (Or.inl ⟨by rfl, ?_⟩) (by assumption) ?_; rotate_left; (focus (intro w hSw; (try dsimp only at hSw); go_simp; (try with_reducible rfl); done)); simp only [Act.put, List.getElem_toArray, List.getElem_cons_zero, List.getElem_cons_succ, List.setIfInBounds_toArray, List.set_cons_zero, List.set_cons_succ])
    refine wpAnyH_done (by kernel_rfl) ?_ _
    go_wp2
    go_ret
    exact ⟨rfl, HB.out⟩
  · rw [decide_eq_true (by omega)] at HBG
    go_enter Try.func8, Try.ntmps8
    go_wp2_with fail
    refine (HBG.out _).mono ?_
    rintro e w ⟨rfl, rfl⟩
    go_wp2
    go_ret
    exact ⟨rfl, belowRefl w⟩
end Go.Proofs.Ytnfkecefkkdedaa

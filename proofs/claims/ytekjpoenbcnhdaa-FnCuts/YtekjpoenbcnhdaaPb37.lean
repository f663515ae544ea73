/- The law FnCuts, walked. -/
import Derived.Test.YtekjpoenbcnhdaaPb36
import Derived.Test.YtekjpoenbcnhdaaPb34
import Derived.Test.YtekjpoenbcnhdaaPb35
import Derived.Laws.StructEq
import Derived.Deep.Cut
import Derived.Deep.CutRange
import Derived.Deep.RegionHeld3
namespace Go.Proofs.Ytekjpoenbcnhdaa
open Go.RowKit
open DM
open FM
attribute [local go_sem ↓] Go.wp_at_zero Go.wp_at_succ

set_option maxRecDepth 100000 in
set_option maxHeartbeats 40000000 in
theorem dkeep7 (len cap : Nat) (a : Option Addr) (hl : len ≤ 1048576) (w : World) (hr : CodeRow w a len) :
    Calls Try.prog 7 #[.slice a len cap] w fun e w' => ∃ (ks : List Int) (G cp : Nat), e = .returned (.slice (some ⟨G, 0, none⟩) ks.length cp) ∧ ks.length ≤ 13 ∧ KRow w' (some ⟨G, 0, none⟩) ks ∧ Below w.heap.size w w' := by
  have HR : Hid (CodeRow w a len) := hr
  have HCODE : Hid (∀ b off, a = some ⟨b, off, none⟩ → 0 < len → b < w.heap.size) := hr.blk
  clear hr
  go_enter Try.func7, Try.ntmps7
  go_wp2_with fail
  refine (new16 len cap a hl _ HR.out).mono ?_
  rintro e w1 ⟨rfl, hc1, hb1, hz1⟩
  go_wp2_with fail
  refine (keep66 w.heap.size len cap a hl _ hc1 hz1 (fun b off e h => Nat.lt_trans (HCODE.out b off e h) hz1)).mono ?_
  rintro e w2 ⟨ks, G, cp, rfl, hk, ho, hc, hg⟩
  have HO : Hid (KRow w2 (some ⟨G, 0, none⟩) ks) := own_krow ho
  have HB : Hid (Below w.heap.size w w2) := hb1.trans (below_of_grown hg (Nat.le_refl _) hb1.size)
  clear ho hc hg hc1 hb1
  go_wp2
  go_ret
  exact ⟨ks, G, cp, rfl, hk, HO.out, HB.out⟩

set_option maxRecDepth 100000 in
set_option maxHeartbeats 40000000 in
theorem law3 (len cap : Nat) (a : Option Addr) (w : World) (hl0 : len ≤ 9223372036854775807) (hr : CodeRow w a len) :
    Calls Try.prog 3 #[.slice a len cap] w fun e w' => e = .returned (.bool true) ∧ Below w.heap.size w w' := by
  have HBG : Hid (∀ W : World, Calls Try.prog 5 #[.slice a len cap] W fun e w' => e = .returned (.bool (decide ((1048576 : Int) < (len : Int)))) ∧ w' = W) := fun W => big10 len cap a W
  by_cases hl : len ≤ 1048576
  · rw [decide_eq_false (by omega)] at HBG
    have HDR := hide0 (fun (W : World) (h : Below w.heap.size w W) => sdraw31 len cap a hl W (hr.below h))
    have HDK := hide0 (fun (W : World) (h : Below w.heap.size w W) => dkeep7 len cap a hl W (hr.below h))
    have HDP := hide0 (fun (W : World) (h : Below w.heap.size w W) => places12 len cap a hl W (hr.below h))
    clear hr
    go_enter Try.func3, Try.ntmps3
    go_wp2_with fail
    refine (HBG.out _).mono ?_
    rintro e w ⟨rfl, rfl⟩
    go_wp2_with fail
    refine (HDR.out _ (belowRefl _)).mono ?_
    rintro e w1 ⟨cur, t, x1, x2, x3, x4, rfl, hd, hI, ht, hb⟩
    obtain ⟨P, hP⟩ : ∃ P, P = lgP := ⟨_, rfl⟩
    rw [← hP] at hd
    rw [← hP]
    have HP0 : Hid (P = []) := hP
    have HI : Hid (LogI 5 cur) := hI
    have HT : Hid (0 < t.size ∧ t.size ≤ 90) := ht
    have HB : Hid (Below w.heap.size w w1) := hb
    have D3 : Hid (DOwn w1 w.heap.size x1 x2 x3 x4 cur P) := hd
    clear hd hI ht hb hP HBG HDR
    have hba : Below w1.heap.size w1 (w1.alloc (.cells #[.slice x1 cur.length x2, .slice x3 P.length x4] 27)) := (belowRefl w1).alloc (Nat.le_refl _) _
    replace HB : Hid (Below w.heap.size w (w1.alloc (.cells #[.slice x1 cur.length x2, .slice x3 P.length x4] 27))) := HB.out.trans (hba.mono HB.out.size)
    replace D3 : Hid (DOwn (w1.alloc (.cells #[.slice x1 cur.length x2, .slice x3 P.length x4] 27)) w.heap.size x1 x2 x3 x4 cur P) := D3.out.below hba
    have B3 : Hid (Bx (w1.alloc (.cells #[.slice x1 cur.length x2, .slice x3 P.length x4] 27)) w1.heap.size (.slice x1 cur.length x2) (.slice x3 P.length x4)) := Bx.new w1 _ _ 27
    clear hba
    go_wp2_with fail
    generalize (w1.alloc (.cells #[.slice x1 cur.length x2, .slice x3 P.length x4] 27)) = v1 at *
    generalize w1.heap.size = X3 at *
    refine (HDK.out _ HB.out).mono ?_
    rintro e w2 ⟨ks, G, cp, rfl, hks, hkr, hb⟩
    replace HB : Hid (Below w.heap.size w w2) := HB.out.trans (hb.mono HB.out.size)
    replace D3 : Hid (DOwn w2 w.heap.size x1 x2 x3 x4 cur P) := D3.out.below hb
    replace B3 : Hid (Bx w2 X3 (.slice x1 cur.length x2) (.slice x3 P.length x4)) := B3.out.keep hb B3.out.lt
    have KR : Hid (KRow w2 (some ⟨G, 0, none⟩) ks) := hkr
    clear hkr hb HDK
    go_wp2_with fail
    refine (HDP.out _ HB.out).mono ?_
    rintro e w3 ⟨p0, p1, GP, cq, rfl, hp01, hGP, hc0, hc1, hb⟩
    replace HB : Hid (Below w.heap.size w w3) := HB.out.trans (hb.mono HB.out.size)
    replace D3 : Hid (DOwn w3 w.heap.size x1 x2 x3 x4 cur P) := D3.out.below hb
    replace B3 : Hid (Bx w3 X3 (.slice x1 cur.length x2) (.slice x3 P.length x4)) := B3.out.keep hb B3.out.lt
    replace KR : Hid (KRow w3 (some ⟨G, 0, none⟩) ks) := KR.out.below hb
    clear hb HDP hc1
    obtain ⟨tr, htr⟩ : ∃ tr : Int, Int.tmod (p0 : Int) 66 = tr := ⟨_, rfl⟩
    have hP0 := HP0.out
    have hI := HI.out
    have ht := HT.out
    have hlog : logB cur [] = true := hI.1
    have hOK := LbI.ok (logB_parts hlog).1
    have hA := act_01 cur []
    obtain ⟨hrec, _⟩ := hI.put (by omega) hA ht.1 ht.2
    have hput := put_read hlog hrec (by omega)
    obtain ⟨NA, hNA⟩ : ∃ NA, NA = putS cur [] (act cur []) t := ⟨_, rfl⟩
    have hNL : logB NA [] = true := by rw [hNA]; exact hput.2.2
    obtain ⟨ft, hft⟩ : ∃ ft : ByteArray, ft = ⟨#[102, 105, 114, 115, 116]⟩ ++ t := ⟨_, rfl⟩
    have hfs : ft.size = 5 + t.size := by rw [hft, ByteArray.size_append]; rfl
    obtain ⟨sc, hsc⟩ : ∃ sc : ByteArray, sc = ⟨#[115, 101, 99, 111, 110, 100]⟩ := ⟨_, rfl⟩
    have hss : sc.size = 6 := by rw [hsc]; rfl
    obtain ⟨hsw, hSL0, _, _⟩ := sw_two hI (t := ft) (u := sc) (by omega) (by omega) (by omega) (by omega)
    obtain ⟨SW, hSW⟩ : ∃ SW, SW = swS cur [] [ft, sc] := ⟨_, rfl⟩
    have hSL : logB SW [] = true := by rw [hSW]; exact hSL0
    have hts : ∀ x ∈ [ft, sc], x.size ≤ 1048576 := fun x hx => by
      rcases List.mem_cons.1 hx with rfl | hx
      · omega
      · rw [List.mem_singleton.1 hx]; omega
    have hf := hOK.four
    have hpr : prB cur [] (act cur []) t = true := by unfold prB; rw [hlog, hrec]; rfl
    have hps : prS cur [] (act cur []) t = NA := by rw [hNA]; exact if_pos hpr
    obtain ⟨CA, hCA⟩ : ∃ CA : Int → List ByteArray, CA = fun st => caS cur [] t st ks tr := ⟨_, rfl⟩
    obtain ⟨CS, hCS⟩ : ∃ CS : Int → List ByteArray, CS = fun st => csS cur [] [ft, sc] st ks tr := ⟨_, rfl⟩
    have hca : ∀ st : Int, logB (CA st) [] = true ∧ (txOf (CA st) [] = txOf cur [] ∨ txOf (CA st) [] = txOf NA []) ∧ (st = 0 → txOf (CA st) [] = txOf cur []) := fun st => by
      rw [hCA, hNA]
      exact caS_cut hlog hrec (by omega)
    have hcs : ∀ st : Int, logB (CS st) [] = true ∧ (txOf (CS st) [] = txOf cur [] ∨ txOf (CS st) [] = txOf SW []) ∧ (st = 0 ∨ st = 1 → txOf (CS st) [] = txOf cur []) := fun st => by
      rw [hCS, hSW]
      exact csS_cut hlog hts hsw
    have hca9 : CA 9 = NA := by rw [hCA, hNA]; exact caS_2 hpr (by decide) (by decide)
    have hcs9 : CS 9 = SW := by rw [hCS, hSW]; exact csS_3 hsw (by decide) (by decide) (by decide)
    have HAP : Hid (∀ (B : Nat) (W : World) (z1 : Option Addr) (z2 : Nat) (z3 : Option Addr) (z4 : Nat), DOwn W B z1 z2 z3 z4 cur P → Calls Try.prog 9 #[.agg #[.slice z1 cur.length z2, .slice z3 P.length z4], .string t] W fun e w' => ∃ f1 f2 f3 f4, e = .returned (.tuple #[.agg #[.slice f1 NA.length f2, .slice f3 P.length f4], .bool true]) ∧ DOwn w' W.heap.size f1 f2 f3 f4 NA P ∧ Below W.heap.size W w') := fun B W z1 z2 z3 z4 h => by
      subst hP0
      have q := sapp38 cur [] t z1 z3 z2 z4 B hf.1 hf.2.1 hf.2.2.1 hf.2.2.2 (by omega) W h
      rw [hpr, hps] at q
      exact q
    have HSW : Hid (∀ (B : Nat) (W : World) (z1 : Option Addr) (z2 : Nat) (z3 : Option Addr) (z4 : Nat) (al : Option Addr), DOwn W B z1 z2 z3 z4 cur P → SRow W al [ft, sc] → Calls Try.prog 10 #[.agg #[.slice z1 cur.length z2, .slice z3 P.length z4], .slice al 2 2] W fun e w' => ∃ f1 f2 f3 f4, e = .returned (.tuple #[.agg #[.slice f1 SW.length f2, .slice f3 P.length f4], .bool true]) ∧ DOwn w' W.heap.size f1 f2 f3 f4 SW P ∧ Below W.heap.size W w') := fun B W z1 z2 z3 z4 al h h2 => by
      subst hP0
      have q := ssw41 cur [] [ft, sc] z1 z3 al z2 z4 2 B hf.1 hf.2.1 hf.2.2.1 hf.2.2.2 (by simp) hts W h h2
      rw [hsw, ← hSW] at q
      exact q
    have HCA : Hid (∀ (W : World) (z1 : Option Addr) (z2 : Nat) (z3 : Option Addr) (z4 : Nat) (st : Int), SRow W z1 cur → PRow W z3 P → KRow W (some ⟨G, 0, none⟩) ks → Calls Try.prog 11 #[.agg #[.slice z1 cur.length z2, .slice z3 P.length z4], .string t, .int .i64 st, .slice (some ⟨G, 0, none⟩) ks.length cp, .int .i64 tr] W fun e w' => ∃ f1 f2 f3 f4, e = .returned (.agg #[.slice f1 (CA st).length f2, .slice f3 P.length f4]) ∧ DOwn w' W.heap.size f1 f2 f3 f4 (CA st) P ∧ Below W.heap.size W w') := fun W z1 z2 z3 z4 st h h2 h3 => by
      subst hP0
      rw [hCA]
      exact icutA cur [] t st ks tr z1 z3 _ z2 z4 cp hf.1 hf.2.1 hf.2.2.1 hf.2.2.2 (by omega) (by omega) W h h2 h3
    have HCS : Hid (∀ (W : World) (z1 : Option Addr) (z2 : Nat) (z3 : Option Addr) (z4 : Nat) (st : Int) (al : Option Addr), SRow W z1 cur → PRow W z3 P → SRow W al [ft, sc] → KRow W (some ⟨G, 0, none⟩) ks → Calls Try.prog 12 #[.agg #[.slice z1 cur.length z2, .slice z3 P.length z4], .slice al 2 2, .int .i64 st, .slice (some ⟨G, 0, none⟩) ks.length cp, .int .i64 tr] W fun e w' => ∃ f1 f2 f3 f4, e = .returned (.agg #[.slice f1 (CS st).length f2, .slice f3 P.length f4]) ∧ DOwn w' W.heap.size f1 f2 f3 f4 (CS st) P ∧ Below W.heap.size W w') := fun W z1 z2 z3 z4 st al h h2 h3 h4 => by
      subst hP0
      rw [hCS]
      exact icutS cur [] [ft, sc] st ks tr z1 z3 al _ z2 z4 2 cp hf.1 hf.2.1 hf.2.2.1 hf.2.2.2 (by simp) hts (by omega) W h h2 h3 h4
    have HR1 : Hid (∀ (st : Int) (W : World) (z1 : Option Addr) (z2 : Nat) (z3 : Option Addr) (z4 : Nat) (q1 : Option Addr) (q2 : Nat) (q3 : Option Addr) (q4 : Nat) (k1 : Option Addr) (k2 : Nat) (k3 : Option Addr) (k4 : Nat), SRow W z1 cur → PRow W z3 P → SRow W q1 NA → PRow W q3 P → SRow W k1 (CA st) → PRow W k3 P → Calls Try.prog 13 #[.agg #[.slice z1 cur.length z2, .slice z3 P.length z4], .agg #[.slice q1 NA.length q2, .slice q3 P.length q4], .agg #[.slice k1 (CA st).length k2, .slice k3 P.length k4]] W fun e w' => e = .returned (.bool true) ∧ Below W.heap.size W w') := fun st W z1 z2 z3 z4 q1 q2 q3 q4 k1 k2 k3 k4 h1 h2 h3 h4 h5 h6 => by
      subst hP0
      exact icr13 cur [] NA [] (CA st) [] z1 z2 z3 z4 q1 q2 q3 q4 k1 k2 k3 k4 (lb97 hlog) (lb97 hNL) (lb97 (hca st).1) (hca st).1 (hca st).2.1 W h1 h2 h3 h4 h5 h6
    have HR2 : Hid (∀ (st : Int) (W : World) (z1 : Option Addr) (z2 : Nat) (z3 : Option Addr) (z4 : Nat) (q1 : Option Addr) (q2 : Nat) (q3 : Option Addr) (q4 : Nat) (k1 : Option Addr) (k2 : Nat) (k3 : Option Addr) (k4 : Nat), SRow W z1 cur → PRow W z3 P → SRow W q1 SW → PRow W q3 P → SRow W k1 (CS st) → PRow W k3 P → Calls Try.prog 13 #[.agg #[.slice z1 cur.length z2, .slice z3 P.length z4], .agg #[.slice q1 SW.length q2, .slice q3 P.length q4], .agg #[.slice k1 (CS st).length k2, .slice k3 P.length k4]] W fun e w' => e = .returned (.bool true) ∧ Below W.heap.size W w') := fun st W z1 z2 z3 z4 q1 q2 q3 q4 k1 k2 k3 k4 h1 h2 h3 h4 h5 h6 => by
      subst hP0
      exact icr13 cur [] SW [] (CS st) [] z1 z2 z3 z4 q1 q2 q3 q4 k1 k2 k3 k4 (lb97 hlog) (lb97 hSL) (lb97 (hcs st).1) (hcs st).1 (hcs st).2.1 W h1 h2 h3 h4 h5 h6
    have HM1 : Hid (∀ st : Int, st = 0 → ∀ (W : World) (z1 : Option Addr) (z2 : Nat) (z3 : Option Addr) (z4 : Nat) (q1 : Option Addr) (q2 : Nat) (q3 : Option Addr) (q4 : Nat), SRow W z1 (CA st) → PRow W z3 P → SRow W q1 cur → PRow W q3 P → Calls Try.prog 14 #[.agg #[.slice z1 (CA st).length z2, .slice z3 P.length z4], .agg #[.slice q1 cur.length q2, .slice q3 P.length q4]] W fun e w' => e = .returned (.bool true) ∧ Below W.heap.size W w') := fun st hst W z1 z2 z3 z4 q1 q2 q3 q4 h1 h2 h3 h4 => by
      subst hP0
      exact isame14 (CA st) [] cur [] z1 z2 z3 z4 q1 q2 q3 q4 (lb97 (hca st).1) (lb97 hlog) true ⟨fun _ => (hca st).2.2 hst, fun _ => rfl⟩ W h1 h2 h3 h4
    have HM2 : Hid (∀ st : Int, st = 0 ∨ st = 1 → ∀ (W : World) (z1 : Option Addr) (z2 : Nat) (z3 : Option Addr) (z4 : Nat) (q1 : Option Addr) (q2 : Nat) (q3 : Option Addr) (q4 : Nat), SRow W z1 (CS st) → PRow W z3 P → SRow W q1 cur → PRow W q3 P → Calls Try.prog 14 #[.agg #[.slice z1 (CS st).length z2, .slice z3 P.length z4], .agg #[.slice q1 cur.length q2, .slice q3 P.length q4]] W fun e w' => e = .returned (.bool true) ∧ Below W.heap.size W w') := fun st hst W z1 z2 z3 z4 q1 q2 q3 q4 h1 h2 h3 h4 => by
      subst hP0
      exact isame14 (CS st) [] cur [] z1 z2 z3 z4 q1 q2 q3 q4 (lb97 (hcs st).1) (lb97 hlog) true ⟨fun _ => (hcs st).2.2 hst, fun _ => rfl⟩ W h1 h2 h3 h4
    have HM3 : Hid (∀ (W : World) (z1 : Option Addr) (z2 : Nat) (z3 : Option Addr) (z4 : Nat) (q1 : Option Addr) (q2 : Nat) (q3 : Option Addr) (q4 : Nat), SRow W z1 (CS 9) → PRow W z3 P → SRow W q1 SW → PRow W q3 P → Calls Try.prog 14 #[.agg #[.slice z1 (CS 9).length z2, .slice z3 P.length z4], .agg #[.slice q1 SW.length q2, .slice q3 P.length q4]] W fun e w' => e = .returned (.bool true) ∧ Below W.heap.size W w') := fun W z1 z2 z3 z4 q1 q2 q3 q4 h1 h2 h3 h4 => by
      subst hP0
      exact isame14 (CS 9) [] SW [] z1 z2 z3 z4 q1 q2 q3 q4 (lb97 (hcs 9).1) (lb97 hSL) true ⟨fun _ => by rw [hcs9], fun _ => rfl⟩ W h1 h2 h3 h4
    have HM4 : Hid (∀ (W : World) (z1 : Option Addr) (z2 : Nat) (z3 : Option Addr) (z4 : Nat) (q1 : Option Addr) (q2 : Nat) (q3 : Option Addr) (q4 : Nat), SRow W z1 (CA 9) → PRow W z3 P → SRow W q1 NA → PRow W q3 P → Calls Try.prog 14 #[.agg #[.slice z1 (CA 9).length z2, .slice z3 P.length z4], .agg #[.slice q1 NA.length q2, .slice q3 P.length q4]] W fun e w' => e = .returned (.bool true) ∧ Below W.heap.size W w') := fun W z1 z2 z3 z4 q1 q2 q3 q4 h1 h2 h3 h4 => by
      subst hP0
      exact isame14 (CA 9) [] NA [] z1 z2 z3 z4 q1 q2 q3 q4 (lb97 (hca 9).1) (lb97 hNL) true ⟨fun _ => by rw [hca9], fun _ => rfl⟩ W h1 h2 h3 h4
    have HFT : Hid (⟨#[102, 105, 114, 115, 116]⟩ ++ t = ft) := hft.symm
    have HSC : Hid (⟨#[115, 101, 99, 111, 110, 100]⟩ = sc) := hsc.symm
    have hadd : ¬ 9223372036854775807 < (⟨#[102, 105, 114, 115, 116]⟩ : ByteArray).size + t.size := by show ¬ 9223372036854775807 < 5 + t.size; omega
    clear hP0 hI ht hlog hOK hA hrec hput hNA hNL hft hfs hsc hss hsw hSL0 hSW hSL hts hf hpr hps hCA hCS hca hcs hca9 hcs9 HP0 HI HT hks hp01
    have g0 := B3.out.c0
    have g1 := B3.out.c1
    go_wp2_with fail
    refine (HAP.out _ _ _ _ _ _ D3.out).mono ?_
    rintro e w4 ⟨y1, y2, y3, y4, rfl, hd, hb⟩
    replace HB : Hid (Below w.heap.size w w4) := HB.out.trans (hb.mono HB.out.size)
    replace D3 : Hid (DOwn w4 w.heap.size x1 x2 x3 x4 cur P) := D3.out.below hb
    replace B3 : Hid (Bx w4 X3 (.slice x1 cur.length x2) (.slice x3 P.length x4)) := B3.out.keep hb B3.out.lt
    replace KR : Hid (KRow w4 (some ⟨G, 0, none⟩) ks) := KR.out.below hb
    have D8 : Hid (DOwn w4 w3.heap.size y1 y2 y3 y4 NA P) := hd
    clear hd hb HAP hc0 htr hGP
    clear g0 g1
    have hba : Below w4.heap.size w4 (w4.alloc (.cells #[.slice y1 NA.length y2, .slice y3 P.length y4] 27)) := (belowRefl w4).alloc (Nat.le_refl _) _
    replace HB : Hid (Below w.heap.size w (w4.alloc (.cells #[.slice y1 NA.length y2, .slice y3 P.length y4] 27))) := HB.out.trans (hba.mono HB.out.size)
    replace D3 : Hid (DOwn (w4.alloc (.cells #[.slice y1 NA.length y2, .slice y3 P.length y4] 27)) w.heap.size x1 x2 x3 x4 cur P) := D3.out.below hba
    replace B3 : Hid (Bx (w4.alloc (.cells #[.slice y1 NA.length y2, .slice y3 P.length y4] 27)) X3 (.slice x1 cur.length x2) (.slice x3 P.length x4)) := B3.out.keep hba B3.out.lt
    replace KR : Hid (KRow (w4.alloc (.cells #[.slice y1 NA.length y2, .slice y3 P.length y4] 27)) (some ⟨G, 0, none⟩) ks) := KR.out.below hba
    replace D8 : Hid (DOwn (w4.alloc (.cells #[.slice y1 NA.length y2, .slice y3 P.length y4] 27)) w3.heap.size y1 y2 y3 y4 NA P) := D8.out.below hba
    have B8 : Hid (Bx (w4.alloc (.cells #[.slice y1 NA.length y2, .slice y3 P.length y4] 27)) w4.heap.size (.slice y1 NA.length y2) (.slice y3 P.length y4)) := Bx.new w4 _ _ 27
    clear hba
    go_upto_region 8 with fail
    generalize (w4.alloc (.cells #[.slice y1 NA.length y2, .slice y3 P.length y4] 27)) = v4 at *
    generalize w4.heap.size = X8 at *
    go_upto_region 9 with fail
    rw [HFT.out, HSC.out]
    have hba : Below v4.heap.size v4 (v4.alloc (.cells #[.string ft, .string sc] 9)) := (belowRefl v4).alloc (Nat.le_refl _) _
    replace HB : Hid (Below w.heap.size w (v4.alloc (.cells #[.string ft, .string sc] 9))) := HB.out.trans (hba.mono HB.out.size)
    replace D3 : Hid (DOwn (v4.alloc (.cells #[.string ft, .string sc] 9)) w.heap.size x1 x2 x3 x4 cur P) := D3.out.below hba
    replace B3 : Hid (Bx (v4.alloc (.cells #[.string ft, .string sc] 9)) X3 (.slice x1 cur.length x2) (.slice x3 P.length x4)) := B3.out.keep hba B3.out.lt
    replace KR : Hid (KRow (v4.alloc (.cells #[.string ft, .string sc] 9)) (some ⟨G, 0, none⟩) ks) := KR.out.below hba
    replace D8 : Hid (DOwn (v4.alloc (.cells #[.string ft, .string sc] 9)) w3.heap.size y1 y2 y3 y4 NA P) := D8.out.below hba
    replace B8 : Hid (Bx (v4.alloc (.cells #[.string ft, .string sc] 9)) X8 (.slice y1 NA.length y2) (.slice y3 P.length y4)) := B8.out.keep hba B8.out.lt
    have SL : Hid (SRow (v4.alloc (.cells #[.string ft, .string sc] 9)) (some ⟨v4.heap.size, 0, none⟩) [ft, sc]) := srow_two v4 ft sc
    clear hba hadd
    generalize (v4.alloc (.cells #[.string ft, .string sc] 9)) = v5 at *
    generalize v4.heap.size = LB at *
    have g0 := B3.out.c0
    have g1 := B3.out.c1
    go_wp2_with fail
    refine (HSW.out _ _ _ _ _ _ _ D3.out SL.out).mono ?_
    rintro e w5 ⟨n1, n2, n3, n4, rfl, hd, hb⟩
    replace HB : Hid (Below w.heap.size w w5) := HB.out.trans (hb.mono HB.out.size)
    replace D3 : Hid (DOwn w5 w.heap.size x1 x2 x3 x4 cur P) := D3.out.below hb
    replace B3 : Hid (Bx w5 X3 (.slice x1 cur.length x2) (.slice x3 P.length x4)) := B3.out.keep hb B3.out.lt
    replace KR : Hid (KRow w5 (some ⟨G, 0, none⟩) ks) := KR.out.below hb
    replace D8 : Hid (DOwn w5 w3.heap.size y1 y2 y3 y4 NA P) := D8.out.below hb
    replace B8 : Hid (Bx w5 X8 (.slice y1 NA.length y2) (.slice y3 P.length y4)) := B8.out.keep hb B8.out.lt
    replace SL : Hid (SRow w5 (some ⟨LB, 0, none⟩) [ft, sc]) := SL.out.below hb
    have D11 : Hid (DOwn w5 v5.heap.size n1 n2 n3 n4 SW P) := hd
    clear hd hb HSW HFT HSC
    clear g0 g1
    have hba : Below w5.heap.size w5 (w5.alloc (.cells #[.slice n1 SW.length n2, .slice n3 P.length n4] 27)) := (belowRefl w5).alloc (Nat.le_refl _) _
    replace HB : Hid (Below w.heap.size w (w5.alloc (.cells #[.slice n1 SW.length n2, .slice n3 P.length n4] 27))) := HB.out.trans (hba.mono HB.out.size)
    replace D3 : Hid (DOwn (w5.alloc (.cells #[.slice n1 SW.length n2, .slice n3 P.length n4] 27)) w.heap.size x1 x2 x3 x4 cur P) := D3.out.below hba
    replace B3 : Hid (Bx (w5.alloc (.cells #[.slice n1 SW.length n2, .slice n3 P.length n4] 27)) X3 (.slice x1 cur.length x2) (.slice x3 P.length x4)) := B3.out.keep hba B3.out.lt
    replace KR : Hid (KRow (w5.alloc (.cells #[.slice n1 SW.length n2, .slice n3 P.length n4] 27)) (some ⟨G, 0, none⟩) ks) := KR.out.below hba
    replace D8 : Hid (DOwn (w5.alloc (.cells #[.slice n1 SW.length n2, .slice n3 P.length n4] 27)) w3.heap.size y1 y2 y3 y4 NA P) := D8.out.below hba
    replace B8 : Hid (Bx (w5.alloc (.cells #[.slice n1 SW.length n2, .slice n3 P.length n4] 27)) X8 (.slice y1 NA.length y2) (.slice y3 P.length y4)) := B8.out.keep hba B8.out.lt
    replace SL : Hid (SRow (w5.alloc (.cells #[.slice n1 SW.length n2, .slice n3 P.length n4] 27)) (some ⟨LB, 0, none⟩) [ft, sc]) := SL.out.below hba
    replace D11 : Hid (DOwn (w5.alloc (.cells #[.slice n1 SW.length n2, .slice n3 P.length n4] 27)) v5.heap.size n1 n2 n3 n4 SW P) := D11.out.below hba
    have B11 : Hid (Bx (w5.alloc (.cells #[.slice n1 SW.length n2, .slice n3 P.length n4] 27)) w5.heap.size (.slice n1 SW.length n2) (.slice n3 P.length n4)) := Bx.new w5 _ _ 27
    clear hba
    go_upto_region 10 with fail
    generalize (w5.alloc (.cells #[.slice n1 SW.length n2, .slice n3 P.length n4] 27)) = v6 at *
    generalize w5.heap.size = X11 at *
    go_wp2
    go_loopw [13] (fun ti wr => ∃ (k : Nat), k ≤ 4 ∧ ti = .int .i64 k ∧ Hid (Below w.heap.size w wr) ∧ Hid (DOwn wr w.heap.size x1 x2 x3 x4 cur P) ∧ Hid (Bx wr X3 (.slice x1 cur.length x2) (.slice x3 P.length x4)) ∧ Hid (KRow wr (some ⟨G, 0, none⟩) ks) ∧ Hid (DOwn wr w3.heap.size y1 y2 y3 y4 NA P) ∧ Hid (Bx wr X8 (.slice y1 NA.length y2) (.slice y3 P.length y4)) ∧ Hid (SRow wr (some ⟨LB, 0, none⟩) [ft, sc]) ∧ Hid (DOwn wr v5.heap.size n1 n2 n3 n4 SW P) ∧ Hid (Bx wr X11 (.slice n1 SW.length n2) (.slice n3 P.length n4))) (fun ti _ => 4 - (intOf ti).toNat)
    case atStart => exact ⟨0, by omega, rfl, HB, D3, B3, KR, D8, B8, SL, D11, B11⟩
    case round =>
      clear HB D3 B3 KR D8 B8 SL D11 B11
      obtain ⟨k, hk, rfl, HB, D3, B3, KR, D8, B8, SL, D11, B11⟩ := hrel
      by_cases hlt : k < 4
      · have hk4 : k = 0 ∨ k = 1 ∨ k = 2 ∨ k = 3 := by omega
        clear hk hlt
        rcases hk4 with rfl | rfl | rfl | rfl
        · skip
          have g0 := B3.out.c0
          have g1 := B3.out.c1
          go_wp2_with fail
          refine (HCA.out _ _ _ _ _ _ D3.out.s.srow D3.out.p.prow KR.out).mono ?_
          rintro e w6 ⟨m1, m2, m3, m4, rfl, hd, hb⟩
          replace HB : Hid (Below w.heap.size w w6) := HB.out.trans (hb.mono HB.out.size)
          replace D3 : Hid (DOwn w6 w.heap.size x1 x2 x3 x4 cur P) := D3.out.below hb
          replace B3 : Hid (Bx w6 X3 (.slice x1 cur.length x2) (.slice x3 P.length x4)) := B3.out.keep hb B3.out.lt
          replace KR : Hid (KRow w6 (some ⟨G, 0, none⟩) ks) := KR.out.below hb
          replace D8 : Hid (DOwn w6 w3.heap.size y1 y2 y3 y4 NA P) := D8.out.below hb
          replace B8 : Hid (Bx w6 X8 (.slice y1 NA.length y2) (.slice y3 P.length y4)) := B8.out.keep hb B8.out.lt
          replace SL : Hid (SRow w6 (some ⟨LB, 0, none⟩) [ft, sc]) := SL.out.below hb
          replace D11 : Hid (DOwn w6 v5.heap.size n1 n2 n3 n4 SW P) := D11.out.below hb
          replace B11 : Hid (Bx w6 X11 (.slice n1 SW.length n2) (.slice n3 P.length n4)) := B11.out.keep hb B11.out.lt
          have D14 : Hid (DOwn w6 wr.heap.size m1 m2 m3 m4 (CA 0) P) := hd
          clear hd hb
          clear g0 g1
          have hba : Below w6.heap.size w6 (w6.alloc (.cells #[.slice m1 (CA 0).length m2, .slice m3 P.length m4] 27)) := (belowRefl w6).alloc (Nat.le_refl _) _
          replace HB : Hid (Below w.heap.size w (w6.alloc (.cells #[.slice m1 (CA 0).length m2, .slice m3 P.length m4] 27))) := HB.out.trans (hba.mono HB.out.size)
          replace D3 : Hid (DOwn (w6.alloc (.cells #[.slice m1 (CA 0).length m2, .slice m3 P.length m4] 27)) w.heap.size x1 x2 x3 x4 cur P) := D3.out.below hba
          replace B3 : Hid (Bx (w6.alloc (.cells #[.slice m1 (CA 0).length m2, .slice m3 P.length m4] 27)) X3 (.slice x1 cur.length x2) (.slice x3 P.length x4)) := B3.out.keep hba B3.out.lt
          replace KR : Hid (KRow (w6.alloc (.cells #[.slice m1 (CA 0).length m2, .slice m3 P.length m4] 27)) (some ⟨G, 0, none⟩) ks) := KR.out.below hba
          replace D8 : Hid (DOwn (w6.alloc (.cells #[.slice m1 (CA 0).length m2, .slice m3 P.length m4] 27)) w3.heap.size y1 y2 y3 y4 NA P) := D8.out.below hba
          replace B8 : Hid (Bx (w6.alloc (.cells #[.slice m1 (CA 0).length m2, .slice m3 P.length m4] 27)) X8 (.slice y1 NA.length y2) (.slice y3 P.length y4)) := B8.out.keep hba B8.out.lt
          replace SL : Hid (SRow (w6.alloc (.cells #[.slice m1 (CA 0).length m2, .slice m3 P.length m4] 27)) (some ⟨LB, 0, none⟩) [ft, sc]) := SL.out.below hba
          replace D11 : Hid (DOwn (w6.alloc (.cells #[.slice m1 (CA 0).length m2, .slice m3 P.length m4] 27)) v5.heap.size n1 n2 n3 n4 SW P) := D11.out.below hba
          replace B11 : Hid (Bx (w6.alloc (.cells #[.slice m1 (CA 0).length m2, .slice m3 P.length m4] 27)) X11 (.slice n1 SW.length n2) (.slice n3 P.length n4)) := B11.out.keep hba B11.out.lt
          replace D14 : Hid (DOwn (w6.alloc (.cells #[.slice m1 (CA 0).length m2, .slice m3 P.length m4] 27)) wr.heap.size m1 m2 m3 m4 (CA 0) P) := D14.out.below hba
          have B14 : Hid (Bx (w6.alloc (.cells #[.slice m1 (CA 0).length m2, .slice m3 P.length m4] 27)) w6.heap.size (.slice m1 (CA 0).length m2) (.slice m3 P.length m4)) := Bx.new w6 _ _ 27
          clear hba
          have g0 := B3.out.c0
          have g1 := B3.out.c1
          go_wp2_with fail
          generalize (w6.alloc (.cells #[.slice m1 (CA 0).length m2, .slice m3 P.length m4] 27)) = v7 at *
          generalize w6.heap.size = X14 at *
          refine (HCS.out _ _ _ _ _ _ _ D3.out.s.srow D3.out.p.prow SL.out KR.out).mono ?_
          rintro e w7 ⟨j1, j2, j3, j4, rfl, hd, hb⟩
          replace HB : Hid (Below w.heap.size w w7) := HB.out.trans (hb.mono HB.out.size)
          replace D3 : Hid (DOwn w7 w.heap.size x1 x2 x3 x4 cur P) := D3.out.below hb
          replace B3 : Hid (Bx w7 X3 (.slice x1 cur.length x2) (.slice x3 P.length x4)) := B3.out.keep hb B3.out.lt
          replace KR : Hid (KRow w7 (some ⟨G, 0, none⟩) ks) := KR.out.below hb
          replace D8 : Hid (DOwn w7 w3.heap.size y1 y2 y3 y4 NA P) := D8.out.below hb
          replace B8 : Hid (Bx w7 X8 (.slice y1 NA.length y2) (.slice y3 P.length y4)) := B8.out.keep hb B8.out.lt
          replace SL : Hid (SRow w7 (some ⟨LB, 0, none⟩) [ft, sc]) := SL.out.below hb
          replace D11 : Hid (DOwn w7 v5.heap.size n1 n2 n3 n4 SW P) := D11.out.below hb
          replace B11 : Hid (Bx w7 X11 (.slice n1 SW.length n2) (.slice n3 P.length n4)) := B11.out.keep hb B11.out.lt
          replace D14 : Hid (DOwn w7 wr.heap.size m1 m2 m3 m4 (CA 0) P) := D14.out.below hb
          replace B14 : Hid (Bx w7 X14 (.slice m1 (CA 0).length m2) (.slice m3 P.length m4)) := B14.out.keep hb B14.out.lt
          have D15 : Hid (DOwn w7 v7.heap.size j1 j2 j3 j4 (CS 0) P) := hd
          clear hd hb
          clear g0 g1
          have hba : Below w7.heap.size w7 (w7.alloc (.cells #[.slice j1 (CS 0).length j2, .slice j3 P.length j4] 27)) := (belowRefl w7).alloc (Nat.le_refl _) _
          replace HB : Hid (Below w.heap.size w (w7.alloc (.cells #[.slice j1 (CS 0).length j2, .slice j3 P.length j4] 27))) := HB.out.trans (hba.mono HB.out.size)
          replace D3 : Hid (DOwn (w7.alloc (.cells #[.slice j1 (CS 0).length j2, .slice j3 P.length j4] 27)) w.heap.size x1 x2 x3 x4 cur P) := D3.out.below hba
          replace B3 : Hid (Bx (w7.alloc (.cells #[.slice j1 (CS 0).length j2, .slice j3 P.length j4] 27)) X3 (.slice x1 cur.length x2) (.slice x3 P.length x4)) := B3.out.keep hba B3.out.lt
          replace KR : Hid (KRow (w7.alloc (.cells #[.slice j1 (CS 0).length j2, .slice j3 P.length j4] 27)) (some ⟨G, 0, none⟩) ks) := KR.out.below hba
          replace D8 : Hid (DOwn (w7.alloc (.cells #[.slice j1 (CS 0).length j2, .slice j3 P.length j4] 27)) w3.heap.size y1 y2 y3 y4 NA P) := D8.out.below hba
          replace B8 : Hid (Bx (w7.alloc (.cells #[.slice j1 (CS 0).length j2, .slice j3 P.length j4] 27)) X8 (.slice y1 NA.length y2) (.slice y3 P.length y4)) := B8.out.keep hba B8.out.lt
          replace SL : Hid (SRow (w7.alloc (.cells #[.slice j1 (CS 0).length j2, .slice j3 P.length j4] 27)) (some ⟨LB, 0, none⟩) [ft, sc]) := SL.out.below hba
          replace D11 : Hid (DOwn (w7.alloc (.cells #[.slice j1 (CS 0).length j2, .slice j3 P.length j4] 27)) v5.heap.size n1 n2 n3 n4 SW P) := D11.out.below hba
          replace B11 : Hid (Bx (w7.alloc (.cells #[.slice j1 (CS 0).length j2, .slice j3 P.length j4] 27)) X11 (.slice n1 SW.length n2) (.slice n3 P.length n4)) := B11.out.keep hba B11.out.lt
          replace D14 : Hid (DOwn (w7.alloc (.cells #[.slice j1 (CS 0).length j2, .slice j3 P.length j4] 27)) wr.heap.size m1 m2 m3 m4 (CA 0) P) := D14.out.below hba
          replace B14 : Hid (Bx (w7.alloc (.cells #[.slice j1 (CS 0).length j2, .slice j3 P.length j4] 27)) X14 (.slice m1 (CA 0).length m2) (.slice m3 P.length m4)) := B14.out.keep hba B14.out.lt
          replace D15 : Hid (DOwn (w7.alloc (.cells #[.slice j1 (CS 0).length j2, .slice j3 P.length j4] 27)) v7.heap.size j1 j2 j3 j4 (CS 0) P) := D15.out.below hba
          have B15 : Hid (Bx (w7.alloc (.cells #[.slice j1 (CS 0).length j2, .slice j3 P.length j4] 27)) w7.heap.size (.slice j1 (CS 0).length j2) (.slice j3 P.length j4)) := Bx.new w7 _ _ 27
          clear hba
          have g0 := B3.out.c0
          have g1 := B3.out.c1
          have k0 := B8.out.c0
          have k1 := B8.out.c1
          have q0 := B14.out.c0
          have q1 := B14.out.c1
          go_wp2_with fail
          generalize (w7.alloc (.cells #[.slice j1 (CS 0).length j2, .slice j3 P.length j4] 27)) = v8 at *
          generalize w7.heap.size = X15 at *
          refine (HR1.out _ _ _ _ _ _ _ _ _ _ _ _ _ _ D3.out.s.srow D3.out.p.prow D8.out.s.srow D8.out.p.prow D14.out.s.srow D14.out.p.prow).mono ?_
          rintro e r0 ⟨rfl, hb⟩
          replace HB : Hid (Below w.heap.size w r0) := HB.out.trans (hb.mono HB.out.size)
          replace D3 : Hid (DOwn r0 w.heap.size x1 x2 x3 x4 cur P) := D3.out.below hb
          replace B3 : Hid (Bx r0 X3 (.slice x1 cur.length x2) (.slice x3 P.length x4)) := B3.out.keep hb B3.out.lt
          replace KR : Hid (KRow r0 (some ⟨G, 0, none⟩) ks) := KR.out.below hb
          replace D8 : Hid (DOwn r0 w3.heap.size y1 y2 y3 y4 NA P) := D8.out.below hb
          replace B8 : Hid (Bx r0 X8 (.slice y1 NA.length y2) (.slice y3 P.length y4)) := B8.out.keep hb B8.out.lt
          replace SL : Hid (SRow r0 (some ⟨LB, 0, none⟩) [ft, sc]) := SL.out.below hb
          replace D11 : Hid (DOwn r0 v5.heap.size n1 n2 n3 n4 SW P) := D11.out.below hb
          replace B11 : Hid (Bx r0 X11 (.slice n1 SW.length n2) (.slice n3 P.length n4)) := B11.out.keep hb B11.out.lt
          replace D14 : Hid (DOwn r0 wr.heap.size m1 m2 m3 m4 (CA 0) P) := D14.out.below hb
          replace B14 : Hid (Bx r0 X14 (.slice m1 (CA 0).length m2) (.slice m3 P.length m4)) := B14.out.keep hb B14.out.lt
          replace D15 : Hid (DOwn r0 v7.heap.size j1 j2 j3 j4 (CS 0) P) := D15.out.below hb
          replace B15 : Hid (Bx r0 X15 (.slice j1 (CS 0).length j2) (.slice j3 P.length j4)) := B15.out.keep hb B15.out.lt
          clear hb
          clear g0 g1 k0 k1 q0 q1
          have g0 := B3.out.c0
          have g1 := B3.out.c1
          have k0 := B11.out.c0
          have k1 := B11.out.c1
          have q0 := B15.out.c0
          have q1 := B15.out.c1
          go_wp2_with fail
          refine (HR2.out _ _ _ _ _ _ _ _ _ _ _ _ _ _ D3.out.s.srow D3.out.p.prow D11.out.s.srow D11.out.p.prow D15.out.s.srow D15.out.p.prow).mono ?_
          rintro e r1 ⟨rfl, hb⟩
          replace HB : Hid (Below w.heap.size w r1) := HB.out.trans (hb.mono HB.out.size)
          replace D3 : Hid (DOwn r1 w.heap.size x1 x2 x3 x4 cur P) := D3.out.below hb
          replace B3 : Hid (Bx r1 X3 (.slice x1 cur.length x2) (.slice x3 P.length x4)) := B3.out.keep hb B3.out.lt
          replace KR : Hid (KRow r1 (some ⟨G, 0, none⟩) ks) := KR.out.below hb
          replace D8 : Hid (DOwn r1 w3.heap.size y1 y2 y3 y4 NA P) := D8.out.below hb
          replace B8 : Hid (Bx r1 X8 (.slice y1 NA.length y2) (.slice y3 P.length y4)) := B8.out.keep hb B8.out.lt
          replace SL : Hid (SRow r1 (some ⟨LB, 0, none⟩) [ft, sc]) := SL.out.below hb
          replace D11 : Hid (DOwn r1 v5.heap.size n1 n2 n3 n4 SW P) := D11.out.below hb
          replace B11 : Hid (Bx r1 X11 (.slice n1 SW.length n2) (.slice n3 P.length n4)) := B11.out.keep hb B11.out.lt
          replace D14 : Hid (DOwn r1 wr.heap.size m1 m2 m3 m4 (CA 0) P) := D14.out.below hb
          replace B14 : Hid (Bx r1 X14 (.slice m1 (CA 0).length m2) (.slice m3 P.length m4)) := B14.out.keep hb B14.out.lt
          replace D15 : Hid (DOwn r1 v7.heap.size j1 j2 j3 j4 (CS 0) P) := D15.out.below hb
          replace B15 : Hid (Bx r1 X15 (.slice j1 (CS 0).length j2) (.slice j3 P.length j4)) := B15.out.keep hb B15.out.lt
          clear hb
          clear g0 g1 k0 k1 q0 q1
          have g0 := B14.out.c0
          have g1 := B14.out.c1
          have k0 := B3.out.c0
          have k1 := B3.out.c1
          go_wp2_with fail
          refine (HM1.out _ (by rfl) _ _ _ _ _ _ _ _ _ D14.out.s.srow D14.out.p.prow D3.out.s.srow D3.out.p.prow).mono ?_
          rintro e r2 ⟨rfl, hb⟩
          replace HB : Hid (Below w.heap.size w r2) := HB.out.trans (hb.mono HB.out.size)
          replace D3 : Hid (DOwn r2 w.heap.size x1 x2 x3 x4 cur P) := D3.out.below hb
          replace B3 : Hid (Bx r2 X3 (.slice x1 cur.length x2) (.slice x3 P.length x4)) := B3.out.keep hb B3.out.lt
          replace KR : Hid (KRow r2 (some ⟨G, 0, none⟩) ks) := KR.out.below hb
          replace D8 : Hid (DOwn r2 w3.heap.size y1 y2 y3 y4 NA P) := D8.out.below hb
          replace B8 : Hid (Bx r2 X8 (.slice y1 NA.length y2) (.slice y3 P.length y4)) := B8.out.keep hb B8.out.lt
          replace SL : Hid (SRow r2 (some ⟨LB, 0, none⟩) [ft, sc]) := SL.out.below hb
          replace D11 : Hid (DOwn r2 v5.heap.size n1 n2 n3 n4 SW P) := D11.out.below hb
          replace B11 : Hid (Bx r2 X11 (.slice n1 SW.length n2) (.slice n3 P.length n4)) := B11.out.keep hb B11.out.lt
          replace D14 : Hid (DOwn r2 wr.heap.size m1 m2 m3 m4 (CA 0) P) := D14.out.below hb
          replace B14 : Hid (Bx r2 X14 (.slice m1 (CA 0).length m2) (.slice m3 P.length m4)) := B14.out.keep hb B14.out.lt
          replace D15 : Hid (DOwn r2 v7.heap.size j1 j2 j3 j4 (CS 0) P) := D15.out.below hb
          replace B15 : Hid (Bx r2 X15 (.slice j1 (CS 0).length j2) (.slice j3 P.length j4)) := B15.out.keep hb B15.out.lt
          clear hb
          clear g0 g1 k0 k1
          have g0 := B15.out.c0
          have g1 := B15.out.c1
          have k0 := B3.out.c0
          have k1 := B3.out.c1
          go_wp2_with fail
          refine (HM2.out _ (by exact Or.inl rfl) _ _ _ _ _ _ _ _ _ D15.out.s.srow D15.out.p.prow D3.out.s.srow D3.out.p.prow).mono ?_
          rintro e r3 ⟨rfl, hb⟩
          replace HB : Hid (Below w.heap.size w r3) := HB.out.trans (hb.mono HB.out.size)
          replace D3 : Hid (DOwn r3 w.heap.size x1 x2 x3 x4 cur P) := D3.out.below hb
          replace B3 : Hid (Bx r3 X3 (.slice x1 cur.length x2) (.slice x3 P.length x4)) := B3.out.keep hb B3.out.lt
          replace KR : Hid (KRow r3 (some ⟨G, 0, none⟩) ks) := KR.out.below hb
          replace D8 : Hid (DOwn r3 w3.heap.size y1 y2 y3 y4 NA P) := D8.out.below hb
          replace B8 : Hid (Bx r3 X8 (.slice y1 NA.length y2) (.slice y3 P.length y4)) := B8.out.keep hb B8.out.lt
          replace SL : Hid (SRow r3 (some ⟨LB, 0, none⟩) [ft, sc]) := SL.out.below hb
          replace D11 : Hid (DOwn r3 v5.heap.size n1 n2 n3 n4 SW P) := D11.out.below hb
          replace B11 : Hid (Bx r3 X11 (.slice n1 SW.length n2) (.slice n3 P.length n4)) := B11.out.keep hb B11.out.lt
          replace D14 : Hid (DOwn r3 wr.heap.size m1 m2 m3 m4 (CA 0) P) := D14.out.below hb
          replace B14 : Hid (Bx r3 X14 (.slice m1 (CA 0).length m2) (.slice m3 P.length m4)) := B14.out.keep hb B14.out.lt
          replace D15 : Hid (DOwn r3 v7.heap.size j1 j2 j3 j4 (CS 0) P) := D15.out.below hb
          replace B15 : Hid (Bx r3 X15 (.slice j1 (CS 0).length j2) (.slice j3 P.length j4)) := B15.out.keep hb B15.out.lt
          clear hb
          clear g0 g1 k0 k1
          go_wp2
          go_roundw
          case rel => exact ⟨1, by omega, by go_num, HB, D3, B3, KR, D8, B8, SL, D11, B11⟩
          case measure => simp [intOf]
        · skip
          have g0 := B3.out.c0
          have g1 := B3.out.c1
          go_wp2_with fail
          refine (HCA.out _ _ _ _ _ _ D3.out.s.srow D3.out.p.prow KR.out).mono ?_
          rintro e w6 ⟨m1, m2, m3, m4, rfl, hd, hb⟩
          replace HB : Hid (Below w.heap.size w w6) := HB.out.trans (hb.mono HB.out.size)
          replace D3 : Hid (DOwn w6 w.heap.size x1 x2 x3 x4 cur P) := D3.out.below hb
          replace B3 : Hid (Bx w6 X3 (.slice x1 cur.length x2) (.slice x3 P.length x4)) := B3.out.keep hb B3.out.lt
          replace KR : Hid (KRow w6 (some ⟨G, 0, none⟩) ks) := KR.out.below hb
          replace D8 : Hid (DOwn w6 w3.heap.size y1 y2 y3 y4 NA P) := D8.out.below hb
          replace B8 : Hid (Bx w6 X8 (.slice y1 NA.length y2) (.slice y3 P.length y4)) := B8.out.keep hb B8.out.lt
          replace SL : Hid (SRow w6 (some ⟨LB, 0, none⟩) [ft, sc]) := SL.out.below hb
          replace D11 : Hid (DOwn w6 v5.heap.size n1 n2 n3 n4 SW P) := D11.out.below hb
          replace B11 : Hid (Bx w6 X11 (.slice n1 SW.length n2) (.slice n3 P.length n4)) := B11.out.keep hb B11.out.lt
          have D14 : Hid (DOwn w6 wr.heap.size m1 m2 m3 m4 (CA 1) P) := hd
          clear hd hb
          clear g0 g1
          have hba : Below w6.heap.size w6 (w6.alloc (.cells #[.slice m1 (CA 1).length m2, .slice m3 P.length m4] 27)) := (belowRefl w6).alloc (Nat.le_refl _) _
          replace HB : Hid (Below w.heap.size w (w6.alloc (.cells #[.slice m1 (CA 1).length m2, .slice m3 P.length m4] 27))) := HB.out.trans (hba.mono HB.out.size)
          replace D3 : Hid (DOwn (w6.alloc (.cells #[.slice m1 (CA 1).length m2, .slice m3 P.length m4] 27)) w.heap.size x1 x2 x3 x4 cur P) := D3.out.below hba
          replace B3 : Hid (Bx (w6.alloc (.cells #[.slice m1 (CA 1).length m2, .slice m3 P.length m4] 27)) X3 (.slice x1 cur.length x2) (.slice x3 P.length x4)) := B3.out.keep hba B3.out.lt
          replace KR : Hid (KRow (w6.alloc (.cells #[.slice m1 (CA 1).length m2, .slice m3 P.length m4] 27)) (some ⟨G, 0, none⟩) ks) := KR.out.below hba
          replace D8 : Hid (DOwn (w6.alloc (.cells #[.slice m1 (CA 1).length m2, .slice m3 P.length m4] 27)) w3.heap.size y1 y2 y3 y4 NA P) := D8.out.below hba
          replace B8 : Hid (Bx (w6.alloc (.cells #[.slice m1 (CA 1).length m2, .slice m3 P.length m4] 27)) X8 (.slice y1 NA.length y2) (.slice y3 P.length y4)) := B8.out.keep hba B8.out.lt
          replace SL : Hid (SRow (w6.alloc (.cells #[.slice m1 (CA 1).length m2, .slice m3 P.length m4] 27)) (some ⟨LB, 0, none⟩) [ft, sc]) := SL.out.below hba
          replace D11 : Hid (DOwn (w6.alloc (.cells #[.slice m1 (CA 1).length m2, .slice m3 P.length m4] 27)) v5.heap.size n1 n2 n3 n4 SW P) := D11.out.below hba
          replace B11 : Hid (Bx (w6.alloc (.cells #[.slice m1 (CA 1).length m2, .slice m3 P.length m4] 27)) X11 (.slice n1 SW.length n2) (.slice n3 P.length n4)) := B11.out.keep hba B11.out.lt
          replace D14 : Hid (DOwn (w6.alloc (.cells #[.slice m1 (CA 1).length m2, .slice m3 P.length m4] 27)) wr.heap.size m1 m2 m3 m4 (CA 1) P) := D14.out.below hba
          have B14 : Hid (Bx (w6.alloc (.cells #[.slice m1 (CA 1).length m2, .slice m3 P.length m4] 27)) w6.heap.size (.slice m1 (CA 1).length m2) (.slice m3 P.length m4)) := Bx.new w6 _ _ 27
          clear hba
          have g0 := B3.out.c0
          have g1 := B3.out.c1
          go_wp2_with fail
          generalize (w6.alloc (.cells #[.slice m1 (CA 1).length m2, .slice m3 P.length m4] 27)) = v7 at *
          generalize w6.heap.size = X14 at *
          refine (HCS.out _ _ _ _ _ _ _ D3.out.s.srow D3.out.p.prow SL.out KR.out).mono ?_
          rintro e w7 ⟨j1, j2, j3, j4, rfl, hd, hb⟩
          replace HB : Hid (Below w.heap.size w w7) := HB.out.trans (hb.mono HB.out.size)
          replace D3 : Hid (DOwn w7 w.heap.size x1 x2 x3 x4 cur P) := D3.out.below hb
          replace B3 : Hid (Bx w7 X3 (.slice x1 cur.length x2) (.slice x3 P.length x4)) := B3.out.keep hb B3.out.lt
          replace KR : Hid (KRow w7 (some ⟨G, 0, none⟩) ks) := KR.out.below hb
          replace D8 : Hid (DOwn w7 w3.heap.size y1 y2 y3 y4 NA P) := D8.out.below hb
          replace B8 : Hid (Bx w7 X8 (.slice y1 NA.length y2) (.slice y3 P.length y4)) := B8.out.keep hb B8.out.lt
          replace SL : Hid (SRow w7 (some ⟨LB, 0, none⟩) [ft, sc]) := SL.out.below hb
          replace D11 : Hid (DOwn w7 v5.heap.size n1 n2 n3 n4 SW P) := D11.out.below hb
          replace B11 : Hid (Bx w7 X11 (.slice n1 SW.length n2) (.slice n3 P.length n4)) := B11.out.keep hb B11.out.lt
          replace D14 : Hid (DOwn w7 wr.heap.size m1 m2 m3 m4 (CA 1) P) := D14.out.below hb
          replace B14 : Hid (Bx w7 X14 (.slice m1 (CA 1).length m2) (.slice m3 P.length m4)) := B14.out.keep hb B14.out.lt
          have D15 : Hid (DOwn w7 v7.heap.size j1 j2 j3 j4 (CS 1) P) := hd
          clear hd hb
          clear g0 g1
          have hba : Below w7.heap.size w7 (w7.alloc (.cells #[.slice j1 (CS 1).length j2, .slice j3 P.length j4] 27)) := (belowRefl w7).alloc (Nat.le_refl _) _
          replace HB : Hid (Below w.heap.size w (w7.alloc (.cells #[.slice j1 (CS 1).length j2, .slice j3 P.length j4] 27))) := HB.out.trans (hba.mono HB.out.size)
          replace D3 : Hid (DOwn (w7.alloc (.cells #[.slice j1 (CS 1).length j2, .slice j3 P.length j4] 27)) w.heap.size x1 x2 x3 x4 cur P) := D3.out.below hba
          replace B3 : Hid (Bx (w7.alloc (.cells #[.slice j1 (CS 1).length j2, .slice j3 P.length j4] 27)) X3 (.slice x1 cur.length x2) (.slice x3 P.length x4)) := B3.out.keep hba B3.out.lt
          replace KR : Hid (KRow (w7.alloc (.cells #[.slice j1 (CS 1).length j2, .slice j3 P.length j4] 27)) (some ⟨G, 0, none⟩) ks) := KR.out.below hba
          replace D8 : Hid (DOwn (w7.alloc (.cells #[.slice j1 (CS 1).length j2, .slice j3 P.length j4] 27)) w3.heap.size y1 y2 y3 y4 NA P) := D8.out.below hba
          replace B8 : Hid (Bx (w7.alloc (.cells #[.slice j1 (CS 1).length j2, .slice j3 P.length j4] 27)) X8 (.slice y1 NA.length y2) (.slice y3 P.length y4)) := B8.out.keep hba B8.out.lt
          replace SL : Hid (SRow (w7.alloc (.cells #[.slice j1 (CS 1).length j2, .slice j3 P.length j4] 27)) (some ⟨LB, 0, none⟩) [ft, sc]) := SL.out.below hba
          replace D11 : Hid (DOwn (w7.alloc (.cells #[.slice j1 (CS 1).length j2, .slice j3 P.length j4] 27)) v5.heap.size n1 n2 n3 n4 SW P) := D11.out.below hba
          replace B11 : Hid (Bx (w7.alloc (.cells #[.slice j1 (CS 1).length j2, .slice j3 P.length j4] 27)) X11 (.slice n1 SW.length n2) (.slice n3 P.length n4)) := B11.out.keep hba B11.out.lt
          replace D14 : Hid (DOwn (w7.alloc (.cells #[.slice j1 (CS 1).length j2, .slice j3 P.length j4] 27)) wr.heap.size m1 m2 m3 m4 (CA 1) P) := D14.out.below hba
          replace B14 : Hid (Bx (w7.alloc (.cells #[.slice j1 (CS 1).length j2, .slice j3 P.length j4] 27)) X14 (.slice m1 (CA 1).length m2) (.slice m3 P.length m4)) := B14.out.keep hba B14.out.lt
          replace D15 : Hid (DOwn (w7.alloc (.cells #[.slice j1 (CS 1).length j2, .slice j3 P.length j4] 27)) v7.heap.size j1 j2 j3 j4 (CS 1) P) := D15.out.below hba
          have B15 : Hid (Bx (w7.alloc (.cells #[.slice j1 (CS 1).length j2, .slice j3 P.length j4] 27)) w7.heap.size (.slice j1 (CS 1).length j2) (.slice j3 P.length j4)) := Bx.new w7 _ _ 27
          clear hba
          have g0 := B3.out.c0
          have g1 := B3.out.c1
          have k0 := B8.out.c0
          have k1 := B8.out.c1
          have q0 := B14.out.c0
          have q1 := B14.out.c1
          go_wp2_with fail
          generalize (w7.alloc (.cells #[.slice j1 (CS 1).length j2, .slice j3 P.length j4] 27)) = v8 at *
          generalize w7.heap.size = X15 at *
          refine (HR1.out _ _ _ _ _ _ _ _ _ _ _ _ _ _ D3.out.s.srow D3.out.p.prow D8.out.s.srow D8.out.p.prow D14.out.s.srow D14.out.p.prow).mono ?_
          rintro e r0 ⟨rfl, hb⟩
          replace HB : Hid (Below w.heap.size w r0) := HB.out.trans (hb.mono HB.out.size)
          replace D3 : Hid (DOwn r0 w.heap.size x1 x2 x3 x4 cur P) := D3.out.below hb
          replace B3 : Hid (Bx r0 X3 (.slice x1 cur.length x2) (.slice x3 P.length x4)) := B3.out.keep hb B3.out.lt
          replace KR : Hid (KRow r0 (some ⟨G, 0, none⟩) ks) := KR.out.below hb
          replace D8 : Hid (DOwn r0 w3.heap.size y1 y2 y3 y4 NA P) := D8.out.below hb
          replace B8 : Hid (Bx r0 X8 (.slice y1 NA.length y2) (.slice y3 P.length y4)) := B8.out.keep hb B8.out.lt
          replace SL : Hid (SRow r0 (some ⟨LB, 0, none⟩) [ft, sc]) := SL.out.below hb
          replace D11 : Hid (DOwn r0 v5.heap.size n1 n2 n3 n4 SW P) := D11.out.below hb
          replace B11 : Hid (Bx r0 X11 (.slice n1 SW.length n2) (.slice n3 P.length n4)) := B11.out.keep hb B11.out.lt
          replace D14 : Hid (DOwn r0 wr.heap.size m1 m2 m3 m4 (CA 1) P) := D14.out.below hb
          replace B14 : Hid (Bx r0 X14 (.slice m1 (CA 1).length m2) (.slice m3 P.length m4)) := B14.out.keep hb B14.out.lt
          replace D15 : Hid (DOwn r0 v7.heap.size j1 j2 j3 j4 (CS 1) P) := D15.out.below hb
          replace B15 : Hid (Bx r0 X15 (.slice j1 (CS 1).length j2) (.slice j3 P.length j4)) := B15.out.keep hb B15.out.lt
          clear hb
          clear g0 g1 k0 k1 q0 q1
          have g0 := B3.out.c0
          have g1 := B3.out.c1
          have k0 := B11.out.c0
          have k1 := B11.out.c1
          have q0 := B15.out.c0
          have q1 := B15.out.c1
          go_wp2_with fail
          refine (HR2.out _ _ _ _ _ _ _ _ _ _ _ _ _ _ D3.out.s.srow D3.out.p.prow D11.out.s.srow D11.out.p.prow D15.out.s.srow D15.out.p.prow).mono ?_
          rintro e r1 ⟨rfl, hb⟩
          replace HB : Hid (Below w.heap.size w r1) := HB.out.trans (hb.mono HB.out.size)
          replace D3 : Hid (DOwn r1 w.heap.size x1 x2 x3 x4 cur P) := D3.out.below hb
          replace B3 : Hid (Bx r1 X3 (.slice x1 cur.length x2) (.slice x3 P.length x4)) := B3.out.keep hb B3.out.lt
          replace KR : Hid (KRow r1 (some ⟨G, 0, none⟩) ks) := KR.out.below hb
          replace D8 : Hid (DOwn r1 w3.heap.size y1 y2 y3 y4 NA P) := D8.out.below hb
          replace B8 : Hid (Bx r1 X8 (.slice y1 NA.length y2) (.slice y3 P.length y4)) := B8.out.keep hb B8.out.lt
          replace SL : Hid (SRow r1 (some ⟨LB, 0, none⟩) [ft, sc]) := SL.out.below hb
          replace D11 : Hid (DOwn r1 v5.heap.size n1 n2 n3 n4 SW P) := D11.out.below hb
          replace B11 : Hid (Bx r1 X11 (.slice n1 SW.length n2) (.slice n3 P.length n4)) := B11.out.keep hb B11.out.lt
          replace D14 : Hid (DOwn r1 wr.heap.size m1 m2 m3 m4 (CA 1) P) := D14.out.below hb
          replace B14 : Hid (Bx r1 X14 (.slice m1 (CA 1).length m2) (.slice m3 P.length m4)) := B14.out.keep hb B14.out.lt
          replace D15 : Hid (DOwn r1 v7.heap.size j1 j2 j3 j4 (CS 1) P) := D15.out.below hb
          replace B15 : Hid (Bx r1 X15 (.slice j1 (CS 1).length j2) (.slice j3 P.length j4)) := B15.out.keep hb B15.out.lt
          clear hb
          clear g0 g1 k0 k1 q0 q1
          have g0 := B15.out.c0
          have g1 := B15.out.c1
          have k0 := B3.out.c0
          have k1 := B3.out.c1
          go_wp2_with fail
          refine (HM2.out _ (by exact Or.inr rfl) _ _ _ _ _ _ _ _ _ D15.out.s.srow D15.out.p.prow D3.out.s.srow D3.out.p.prow).mono ?_
          rintro e r2 ⟨rfl, hb⟩
          replace HB : Hid (Below w.heap.size w r2) := HB.out.trans (hb.mono HB.out.size)
          replace D3 : Hid (DOwn r2 w.heap.size x1 x2 x3 x4 cur P) := D3.out.below hb
          replace B3 : Hid (Bx r2 X3 (.slice x1 cur.length x2) (.slice x3 P.length x4)) := B3.out.keep hb B3.out.lt
          replace KR : Hid (KRow r2 (some ⟨G, 0, none⟩) ks) := KR.out.below hb
          replace D8 : Hid (DOwn r2 w3.heap.size y1 y2 y3 y4 NA P) := D8.out.below hb
          replace B8 : Hid (Bx r2 X8 (.slice y1 NA.length y2) (.slice y3 P.length y4)) := B8.out.keep hb B8.out.lt
          replace SL : Hid (SRow r2 (some ⟨LB, 0, none⟩) [ft, sc]) := SL.out.below hb
          replace D11 : Hid (DOwn r2 v5.heap.size n1 n2 n3 n4 SW P) := D11.out.below hb
          replace B11 : Hid (Bx r2 X11 (.slice n1 SW.length n2) (.slice n3 P.length n4)) := B11.out.keep hb B11.out.lt
          replace D14 : Hid (DOwn r2 wr.heap.size m1 m2 m3 m4 (CA 1) P) := D14.out.below hb
          replace B14 : Hid (Bx r2 X14 (.slice m1 (CA 1).length m2) (.slice m3 P.length m4)) := B14.out.keep hb B14.out.lt
          replace D15 : Hid (DOwn r2 v7.heap.size j1 j2 j3 j4 (CS 1) P) := D15.out.below hb
          replace B15 : Hid (Bx r2 X15 (.slice j1 (CS 1).length j2) (.slice j3 P.length j4)) := B15.out.keep hb B15.out.lt
          clear hb
          clear g0 g1 k0 k1
          go_wp2
          go_roundw
          case rel => exact ⟨2, by omega, by go_num, HB, D3, B3, KR, D8, B8, SL, D11, B11⟩
          case measure => simp [intOf]
        · skip
          have g0 := B3.out.c0
          have g1 := B3.out.c1
          go_wp2_with fail
          refine (HCA.out _ _ _ _ _ _ D3.out.s.srow D3.out.p.prow KR.out).mono ?_
          rintro e w6 ⟨m1, m2, m3, m4, rfl, hd, hb⟩
          replace HB : Hid (Below w.heap.size w w6) := HB.out.trans (hb.mono HB.out.size)
          replace D3 : Hid (DOwn w6 w.heap.size x1 x2 x3 x4 cur P) := D3.out.below hb
          replace B3 : Hid (Bx w6 X3 (.slice x1 cur.length x2) (.slice x3 P.length x4)) := B3.out.keep hb B3.out.lt
          replace KR : Hid (KRow w6 (some ⟨G, 0, none⟩) ks) := KR.out.below hb
          replace D8 : Hid (DOwn w6 w3.heap.size y1 y2 y3 y4 NA P) := D8.out.below hb
          replace B8 : Hid (Bx w6 X8 (.slice y1 NA.length y2) (.slice y3 P.length y4)) := B8.out.keep hb B8.out.lt
          replace SL : Hid (SRow w6 (some ⟨LB, 0, none⟩) [ft, sc]) := SL.out.below hb
          replace D11 : Hid (DOwn w6 v5.heap.size n1 n2 n3 n4 SW P) := D11.out.below hb
          replace B11 : Hid (Bx w6 X11 (.slice n1 SW.length n2) (.slice n3 P.length n4)) := B11.out.keep hb B11.out.lt
          have D14 : Hid (DOwn w6 wr.heap.size m1 m2 m3 m4 (CA 2) P) := hd
          clear hd hb
          clear g0 g1
          have hba : Below w6.heap.size w6 (w6.alloc (.cells #[.slice m1 (CA 2).length m2, .slice m3 P.length m4] 27)) := (belowRefl w6).alloc (Nat.le_refl _) _
          replace HB : Hid (Below w.heap.size w (w6.alloc (.cells #[.slice m1 (CA 2).length m2, .slice m3 P.length m4] 27))) := HB.out.trans (hba.mono HB.out.size)
          replace D3 : Hid (DOwn (w6.alloc (.cells #[.slice m1 (CA 2).length m2, .slice m3 P.length m4] 27)) w.heap.size x1 x2 x3 x4 cur P) := D3.out.below hba
          replace B3 : Hid (Bx (w6.alloc (.cells #[.slice m1 (CA 2).length m2, .slice m3 P.length m4] 27)) X3 (.slice x1 cur.length x2) (.slice x3 P.length x4)) := B3.out.keep hba B3.out.lt
          replace KR : Hid (KRow (w6.alloc (.cells #[.slice m1 (CA 2).length m2, .slice m3 P.length m4] 27)) (some ⟨G, 0, none⟩) ks) := KR.out.below hba
          replace D8 : Hid (DOwn (w6.alloc (.cells #[.slice m1 (CA 2).length m2, .slice m3 P.length m4] 27)) w3.heap.size y1 y2 y3 y4 NA P) := D8.out.below hba
          replace B8 : Hid (Bx (w6.alloc (.cells #[.slice m1 (CA 2).length m2, .slice m3 P.length m4] 27)) X8 (.slice y1 NA.length y2) (.slice y3 P.length y4)) := B8.out.keep hba B8.out.lt
          replace SL : Hid (SRow (w6.alloc (.cells #[.slice m1 (CA 2).length m2, .slice m3 P.length m4] 27)) (some ⟨LB, 0, none⟩) [ft, sc]) := SL.out.below hba
          replace D11 : Hid (DOwn (w6.alloc (.cells #[.slice m1 (CA 2).length m2, .slice m3 P.length m4] 27)) v5.heap.size n1 n2 n3 n4 SW P) := D11.out.below hba
          replace B11 : Hid (Bx (w6.alloc (.cells #[.slice m1 (CA 2).length m2, .slice m3 P.length m4] 27)) X11 (.slice n1 SW.length n2) (.slice n3 P.length n4)) := B11.out.keep hba B11.out.lt
          replace D14 : Hid (DOwn (w6.alloc (.cells #[.slice m1 (CA 2).length m2, .slice m3 P.length m4] 27)) wr.heap.size m1 m2 m3 m4 (CA 2) P) := D14.out.below hba
          have B14 : Hid (Bx (w6.alloc (.cells #[.slice m1 (CA 2).length m2, .slice m3 P.length m4] 27)) w6.heap.size (.slice m1 (CA 2).length m2) (.slice m3 P.length m4)) := Bx.new w6 _ _ 27
          clear hba
          have g0 := B3.out.c0
          have g1 := B3.out.c1
          go_wp2_with fail
          generalize (w6.alloc (.cells #[.slice m1 (CA 2).length m2, .slice m3 P.length m4] 27)) = v7 at *
          generalize w6.heap.size = X14 at *
          refine (HCS.out _ _ _ _ _ _ _ D3.out.s.srow D3.out.p.prow SL.out KR.out).mono ?_
          rintro e w7 ⟨j1, j2, j3, j4, rfl, hd, hb⟩
          replace HB : Hid (Below w.heap.size w w7) := HB.out.trans (hb.mono HB.out.size)
          replace D3 : Hid (DOwn w7 w.heap.size x1 x2 x3 x4 cur P) := D3.out.below hb
          replace B3 : Hid (Bx w7 X3 (.slice x1 cur.length x2) (.slice x3 P.length x4)) := B3.out.keep hb B3.out.lt
          replace KR : Hid (KRow w7 (some ⟨G, 0, none⟩) ks) := KR.out.below hb
          replace D8 : Hid (DOwn w7 w3.heap.size y1 y2 y3 y4 NA P) := D8.out.below hb
          replace B8 : Hid (Bx w7 X8 (.slice y1 NA.length y2) (.slice y3 P.length y4)) := B8.out.keep hb B8.out.lt
          replace SL : Hid (SRow w7 (some ⟨LB, 0, none⟩) [ft, sc]) := SL.out.below hb
          replace D11 : Hid (DOwn w7 v5.heap.size n1 n2 n3 n4 SW P) := D11.out.below hb
          replace B11 : Hid (Bx w7 X11 (.slice n1 SW.length n2) (.slice n3 P.length n4)) := B11.out.keep hb B11.out.lt
          replace D14 : Hid (DOwn w7 wr.heap.size m1 m2 m3 m4 (CA 2) P) := D14.out.below hb
          replace B14 : Hid (Bx w7 X14 (.slice m1 (CA 2).length m2) (.slice m3 P.length m4)) := B14.out.keep hb B14.out.lt
          have D15 : Hid (DOwn w7 v7.heap.size j1 j2 j3 j4 (CS 2) P) := hd
          clear hd hb
          clear g0 g1
          have hba : Below w7.heap.size w7 (w7.alloc (.cells #[.slice j1 (CS 2).length j2, .slice j3 P.length j4] 27)) := (belowRefl w7).alloc (Nat.le_refl _) _
          replace HB : Hid (Below w.heap.size w (w7.alloc (.cells #[.slice j1 (CS 2).length j2, .slice j3 P.length j4] 27))) := HB.out.trans (hba.mono HB.out.size)
          replace D3 : Hid (DOwn (w7.alloc (.cells #[.slice j1 (CS 2).length j2, .slice j3 P.length j4] 27)) w.heap.size x1 x2 x3 x4 cur P) := D3.out.below hba
          replace B3 : Hid (Bx (w7.alloc (.cells #[.slice j1 (CS 2).length j2, .slice j3 P.length j4] 27)) X3 (.slice x1 cur.length x2) (.slice x3 P.length x4)) := B3.out.keep hba B3.out.lt
          replace KR : Hid (KRow (w7.alloc (.cells #[.slice j1 (CS 2).length j2, .slice j3 P.length j4] 27)) (some ⟨G, 0, none⟩) ks) := KR.out.below hba
          replace D8 : Hid (DOwn (w7.alloc (.cells #[.slice j1 (CS 2).length j2, .slice j3 P.length j4] 27)) w3.heap.size y1 y2 y3 y4 NA P) := D8.out.below hba
          replace B8 : Hid (Bx (w7.alloc (.cells #[.slice j1 (CS 2).length j2, .slice j3 P.length j4] 27)) X8 (.slice y1 NA.length y2) (.slice y3 P.length y4)) := B8.out.keep hba B8.out.lt
          replace SL : Hid (SRow (w7.alloc (.cells #[.slice j1 (CS 2).length j2, .slice j3 P.length j4] 27)) (some ⟨LB, 0, none⟩) [ft, sc]) := SL.out.below hba
          replace D11 : Hid (DOwn (w7.alloc (.cells #[.slice j1 (CS 2).length j2, .slice j3 P.length j4] 27)) v5.heap.size n1 n2 n3 n4 SW P) := D11.out.below hba
          replace B11 : Hid (Bx (w7.alloc (.cells #[.slice j1 (CS 2).length j2, .slice j3 P.length j4] 27)) X11 (.slice n1 SW.length n2) (.slice n3 P.length n4)) := B11.out.keep hba B11.out.lt
          replace D14 : Hid (DOwn (w7.alloc (.cells #[.slice j1 (CS 2).length j2, .slice j3 P.length j4] 27)) wr.heap.size m1 m2 m3 m4 (CA 2) P) := D14.out.below hba
          replace B14 : Hid (Bx (w7.alloc (.cells #[.slice j1 (CS 2).length j2, .slice j3 P.length j4] 27)) X14 (.slice m1 (CA 2).length m2) (.slice m3 P.length m4)) := B14.out.keep hba B14.out.lt
          replace D15 : Hid (DOwn (w7.alloc (.cells #[.slice j1 (CS 2).length j2, .slice j3 P.length j4] 27)) v7.heap.size j1 j2 j3 j4 (CS 2) P) := D15.out.below hba
          have B15 : Hid (Bx (w7.alloc (.cells #[.slice j1 (CS 2).length j2, .slice j3 P.length j4] 27)) w7.heap.size (.slice j1 (CS 2).length j2) (.slice j3 P.length j4)) := Bx.new w7 _ _ 27
          clear hba
          have g0 := B3.out.c0
          have g1 := B3.out.c1
          have k0 := B8.out.c0
          have k1 := B8.out.c1
          have q0 := B14.out.c0
          have q1 := B14.out.c1
          go_wp2_with fail
          generalize (w7.alloc (.cells #[.slice j1 (CS 2).length j2, .slice j3 P.length j4] 27)) = v8 at *
          generalize w7.heap.size = X15 at *
          refine (HR1.out _ _ _ _ _ _ _ _ _ _ _ _ _ _ D3.out.s.srow D3.out.p.prow D8.out.s.srow D8.out.p.prow D14.out.s.srow D14.out.p.prow).mono ?_
          rintro e r0 ⟨rfl, hb⟩
          replace HB : Hid (Below w.heap.size w r0) := HB.out.trans (hb.mono HB.out.size)
          replace D3 : Hid (DOwn r0 w.heap.size x1 x2 x3 x4 cur P) := D3.out.below hb
          replace B3 : Hid (Bx r0 X3 (.slice x1 cur.length x2) (.slice x3 P.length x4)) := B3.out.keep hb B3.out.lt
          replace KR : Hid (KRow r0 (some ⟨G, 0, none⟩) ks) := KR.out.below hb
          replace D8 : Hid (DOwn r0 w3.heap.size y1 y2 y3 y4 NA P) := D8.out.below hb
          replace B8 : Hid (Bx r0 X8 (.slice y1 NA.length y2) (.slice y3 P.length y4)) := B8.out.keep hb B8.out.lt
          replace SL : Hid (SRow r0 (some ⟨LB, 0, none⟩) [ft, sc]) := SL.out.below hb
          replace D11 : Hid (DOwn r0 v5.heap.size n1 n2 n3 n4 SW P) := D11.out.below hb
          replace B11 : Hid (Bx r0 X11 (.slice n1 SW.length n2) (.slice n3 P.length n4)) := B11.out.keep hb B11.out.lt
          replace D14 : Hid (DOwn r0 wr.heap.size m1 m2 m3 m4 (CA 2) P) := D14.out.below hb
          replace B14 : Hid (Bx r0 X14 (.slice m1 (CA 2).length m2) (.slice m3 P.length m4)) := B14.out.keep hb B14.out.lt
          replace D15 : Hid (DOwn r0 v7.heap.size j1 j2 j3 j4 (CS 2) P) := D15.out.below hb
          replace B15 : Hid (Bx r0 X15 (.slice j1 (CS 2).length j2) (.slice j3 P.length j4)) := B15.out.keep hb B15.out.lt
          clear hb
          clear g0 g1 k0 k1 q0 q1
          have g0 := B3.out.c0
          have g1 := B3.out.c1
          have k0 := B11.out.c0
          have k1 := B11.out.c1
          have q0 := B15.out.c0
          have q1 := B15.out.c1
          go_wp2_with fail
          refine (HR2.out _ _ _ _ _ _ _ _ _ _ _ _ _ _ D3.out.s.srow D3.out.p.prow D11.out.s.srow D11.out.p.prow D15.out.s.srow D15.out.p.prow).mono ?_
          rintro e r1 ⟨rfl, hb⟩
          replace HB : Hid (Below w.heap.size w r1) := HB.out.trans (hb.mono HB.out.size)
          replace D3 : Hid (DOwn r1 w.heap.size x1 x2 x3 x4 cur P) := D3.out.below hb
          replace B3 : Hid (Bx r1 X3 (.slice x1 cur.length x2) (.slice x3 P.length x4)) := B3.out.keep hb B3.out.lt
          replace KR : Hid (KRow r1 (some ⟨G, 0, none⟩) ks) := KR.out.below hb
          replace D8 : Hid (DOwn r1 w3.heap.size y1 y2 y3 y4 NA P) := D8.out.below hb
          replace B8 : Hid (Bx r1 X8 (.slice y1 NA.length y2) (.slice y3 P.length y4)) := B8.out.keep hb B8.out.lt
          replace SL : Hid (SRow r1 (some ⟨LB, 0, none⟩) [ft, sc]) := SL.out.below hb
          replace D11 : Hid (DOwn r1 v5.heap.size n1 n2 n3 n4 SW P) := D11.out.below hb
          replace B11 : Hid (Bx r1 X11 (.slice n1 SW.length n2) (.slice n3 P.length n4)) := B11.out.keep hb B11.out.lt
          replace D14 : Hid (DOwn r1 wr.heap.size m1 m2 m3 m4 (CA 2) P) := D14.out.below hb
          replace B14 : Hid (Bx r1 X14 (.slice m1 (CA 2).length m2) (.slice m3 P.length m4)) := B14.out.keep hb B14.out.lt
          replace D15 : Hid (DOwn r1 v7.heap.size j1 j2 j3 j4 (CS 2) P) := D15.out.below hb
          replace B15 : Hid (Bx r1 X15 (.slice j1 (CS 2).length j2) (.slice j3 P.length j4)) := B15.out.keep hb B15.out.lt
          clear hb
          clear g0 g1 k0 k1 q0 q1
          go_wp2
          go_roundw
          case rel => exact ⟨3, by omega, by go_num, HB, D3, B3, KR, D8, B8, SL, D11, B11⟩
          case measure => simp [intOf]
        · skip
          have g0 := B3.out.c0
          have g1 := B3.out.c1
          go_wp2_with fail
          refine (HCA.out _ _ _ _ _ _ D3.out.s.srow D3.out.p.prow KR.out).mono ?_
          rintro e w6 ⟨m1, m2, m3, m4, rfl, hd, hb⟩
          replace HB : Hid (Below w.heap.size w w6) := HB.out.trans (hb.mono HB.out.size)
          replace D3 : Hid (DOwn w6 w.heap.size x1 x2 x3 x4 cur P) := D3.out.below hb
          replace B3 : Hid (Bx w6 X3 (.slice x1 cur.length x2) (.slice x3 P.length x4)) := B3.out.keep hb B3.out.lt
          replace KR : Hid (KRow w6 (some ⟨G, 0, none⟩) ks) := KR.out.below hb
          replace D8 : Hid (DOwn w6 w3.heap.size y1 y2 y3 y4 NA P) := D8.out.below hb
          replace B8 : Hid (Bx w6 X8 (.slice y1 NA.length y2) (.slice y3 P.length y4)) := B8.out.keep hb B8.out.lt
          replace SL : Hid (SRow w6 (some ⟨LB, 0, none⟩) [ft, sc]) := SL.out.below hb
          replace D11 : Hid (DOwn w6 v5.heap.size n1 n2 n3 n4 SW P) := D11.out.below hb
          replace B11 : Hid (Bx w6 X11 (.slice n1 SW.length n2) (.slice n3 P.length n4)) := B11.out.keep hb B11.out.lt
          have D14 : Hid (DOwn w6 wr.heap.size m1 m2 m3 m4 (CA 3) P) := hd
          clear hd hb
          clear g0 g1
          have hba : Below w6.heap.size w6 (w6.alloc (.cells #[.slice m1 (CA 3).length m2, .slice m3 P.length m4] 27)) := (belowRefl w6).alloc (Nat.le_refl _) _
          replace HB : Hid (Below w.heap.size w (w6.alloc (.cells #[.slice m1 (CA 3).length m2, .slice m3 P.length m4] 27))) := HB.out.trans (hba.mono HB.out.size)
          replace D3 : Hid (DOwn (w6.alloc (.cells #[.slice m1 (CA 3).length m2, .slice m3 P.length m4] 27)) w.heap.size x1 x2 x3 x4 cur P) := D3.out.below hba
          replace B3 : Hid (Bx (w6.alloc (.cells #[.slice m1 (CA 3).length m2, .slice m3 P.length m4] 27)) X3 (.slice x1 cur.length x2) (.slice x3 P.length x4)) := B3.out.keep hba B3.out.lt
          replace KR : Hid (KRow (w6.alloc (.cells #[.slice m1 (CA 3).length m2, .slice m3 P.length m4] 27)) (some ⟨G, 0, none⟩) ks) := KR.out.below hba
          replace D8 : Hid (DOwn (w6.alloc (.cells #[.slice m1 (CA 3).length m2, .slice m3 P.length m4] 27)) w3.heap.size y1 y2 y3 y4 NA P) := D8.out.below hba
          replace B8 : Hid (Bx (w6.alloc (.cells #[.slice m1 (CA 3).length m2, .slice m3 P.length m4] 27)) X8 (.slice y1 NA.length y2) (.slice y3 P.length y4)) := B8.out.keep hba B8.out.lt
          replace SL : Hid (SRow (w6.alloc (.cells #[.slice m1 (CA 3).length m2, .slice m3 P.length m4] 27)) (some ⟨LB, 0, none⟩) [ft, sc]) := SL.out.below hba
          replace D11 : Hid (DOwn (w6.alloc (.cells #[.slice m1 (CA 3).length m2, .slice m3 P.length m4] 27)) v5.heap.size n1 n2 n3 n4 SW P) := D11.out.below hba
          replace B11 : Hid (Bx (w6.alloc (.cells #[.slice m1 (CA 3).length m2, .slice m3 P.length m4] 27)) X11 (.slice n1 SW.length n2) (.slice n3 P.length n4)) := B11.out.keep hba B11.out.lt
          replace D14 : Hid (DOwn (w6.alloc (.cells #[.slice m1 (CA 3).length m2, .slice m3 P.length m4] 27)) wr.heap.size m1 m2 m3 m4 (CA 3) P) := D14.out.below hba
          have B14 : Hid (Bx (w6.alloc (.cells #[.slice m1 (CA 3).length m2, .slice m3 P.length m4] 27)) w6.heap.size (.slice m1 (CA 3).length m2) (.slice m3 P.length m4)) := Bx.new w6 _ _ 27
          clear hba
          have g0 := B3.out.c0
          have g1 := B3.out.c1
          go_wp2_with fail
          generalize (w6.alloc (.cells #[.slice m1 (CA 3).length m2, .slice m3 P.length m4] 27)) = v7 at *
          generalize w6.heap.size = X14 at *
          refine (HCS.out _ _ _ _ _ _ _ D3.out.s.srow D3.out.p.prow SL.out KR.out).mono ?_
          rintro e w7 ⟨j1, j2, j3, j4, rfl, hd, hb⟩
          replace HB : Hid (Below w.heap.size w w7) := HB.out.trans (hb.mono HB.out.size)
          replace D3 : Hid (DOwn w7 w.heap.size x1 x2 x3 x4 cur P) := D3.out.below hb
          replace B3 : Hid (Bx w7 X3 (.slice x1 cur.length x2) (.slice x3 P.length x4)) := B3.out.keep hb B3.out.lt
          replace KR : Hid (KRow w7 (some ⟨G, 0, none⟩) ks) := KR.out.below hb
          replace D8 : Hid (DOwn w7 w3.heap.size y1 y2 y3 y4 NA P) := D8.out.below hb
          replace B8 : Hid (Bx w7 X8 (.slice y1 NA.length y2) (.slice y3 P.length y4)) := B8.out.keep hb B8.out.lt
          replace SL : Hid (SRow w7 (some ⟨LB, 0, none⟩) [ft, sc]) := SL.out.below hb
          replace D11 : Hid (DOwn w7 v5.heap.size n1 n2 n3 n4 SW P) := D11.out.below hb
          replace B11 : Hid (Bx w7 X11 (.slice n1 SW.length n2) (.slice n3 P.length n4)) := B11.out.keep hb B11.out.lt
          replace D14 : Hid (DOwn w7 wr.heap.size m1 m2 m3 m4 (CA 3) P) := D14.out.below hb
          replace B14 : Hid (Bx w7 X14 (.slice m1 (CA 3).length m2) (.slice m3 P.length m4)) := B14.out.keep hb B14.out.lt
          have D15 : Hid (DOwn w7 v7.heap.size j1 j2 j3 j4 (CS 3) P) := hd
          clear hd hb
          clear g0 g1
          have hba : Below w7.heap.size w7 (w7.alloc (.cells #[.slice j1 (CS 3).length j2, .slice j3 P.length j4] 27)) := (belowRefl w7).alloc (Nat.le_refl _) _
          replace HB : Hid (Below w.heap.size w (w7.alloc (.cells #[.slice j1 (CS 3).length j2, .slice j3 P.length j4] 27))) := HB.out.trans (hba.mono HB.out.size)
          replace D3 : Hid (DOwn (w7.alloc (.cells #[.slice j1 (CS 3).length j2, .slice j3 P.length j4] 27)) w.heap.size x1 x2 x3 x4 cur P) := D3.out.below hba
          replace B3 : Hid (Bx (w7.alloc (.cells #[.slice j1 (CS 3).length j2, .slice j3 P.length j4] 27)) X3 (.slice x1 cur.length x2) (.slice x3 P.length x4)) := B3.out.keep hba B3.out.lt
          replace KR : Hid (KRow (w7.alloc (.cells #[.slice j1 (CS 3).length j2, .slice j3 P.length j4] 27)) (some ⟨G, 0, none⟩) ks) := KR.out.below hba
          replace D8 : Hid (DOwn (w7.alloc (.cells #[.slice j1 (CS 3).length j2, .slice j3 P.length j4] 27)) w3.heap.size y1 y2 y3 y4 NA P) := D8.out.below hba
          replace B8 : Hid (Bx (w7.alloc (.cells #[.slice j1 (CS 3).length j2, .slice j3 P.length j4] 27)) X8 (.slice y1 NA.length y2) (.slice y3 P.length y4)) := B8.out.keep hba B8.out.lt
          replace SL : Hid (SRow (w7.alloc (.cells #[.slice j1 (CS 3).length j2, .slice j3 P.length j4] 27)) (some ⟨LB, 0, none⟩) [ft, sc]) := SL.out.below hba
          replace D11 : Hid (DOwn (w7.alloc (.cells #[.slice j1 (CS 3).length j2, .slice j3 P.length j4] 27)) v5.heap.size n1 n2 n3 n4 SW P) := D11.out.below hba
          replace B11 : Hid (Bx (w7.alloc (.cells #[.slice j1 (CS 3).length j2, .slice j3 P.length j4] 27)) X11 (.slice n1 SW.length n2) (.slice n3 P.length n4)) := B11.out.keep hba B11.out.lt
          replace D14 : Hid (DOwn (w7.alloc (.cells #[.slice j1 (CS 3).length j2, .slice j3 P.length j4] 27)) wr.heap.size m1 m2 m3 m4 (CA 3) P) := D14.out.below hba
          replace B14 : Hid (Bx (w7.alloc (.cells #[.slice j1 (CS 3).length j2, .slice j3 P.length j4] 27)) X14 (.slice m1 (CA 3).length m2) (.slice m3 P.length m4)) := B14.out.keep hba B14.out.lt
          replace D15 : Hid (DOwn (w7.alloc (.cells #[.slice j1 (CS 3).length j2, .slice j3 P.length j4] 27)) v7.heap.size j1 j2 j3 j4 (CS 3) P) := D15.out.below hba
          have B15 : Hid (Bx (w7.alloc (.cells #[.slice j1 (CS 3).length j2, .slice j3 P.length j4] 27)) w7.heap.size (.slice j1 (CS 3).length j2) (.slice j3 P.length j4)) := Bx.new w7 _ _ 27
          clear hba
          have g0 := B3.out.c0
          have g1 := B3.out.c1
          have k0 := B8.out.c0
          have k1 := B8.out.c1
          have q0 := B14.out.c0
          have q1 := B14.out.c1
          go_wp2_with fail
          generalize (w7.alloc (.cells #[.slice j1 (CS 3).length j2, .slice j3 P.length j4] 27)) = v8 at *
          generalize w7.heap.size = X15 at *
          refine (HR1.out _ _ _ _ _ _ _ _ _ _ _ _ _ _ D3.out.s.srow D3.out.p.prow D8.out.s.srow D8.out.p.prow D14.out.s.srow D14.out.p.prow).mono ?_
          rintro e r0 ⟨rfl, hb⟩
          replace HB : Hid (Below w.heap.size w r0) := HB.out.trans (hb.mono HB.out.size)
          replace D3 : Hid (DOwn r0 w.heap.size x1 x2 x3 x4 cur P) := D3.out.below hb
          replace B3 : Hid (Bx r0 X3 (.slice x1 cur.length x2) (.slice x3 P.length x4)) := B3.out.keep hb B3.out.lt
          replace KR : Hid (KRow r0 (some ⟨G, 0, none⟩) ks) := KR.out.below hb
          replace D8 : Hid (DOwn r0 w3.heap.size y1 y2 y3 y4 NA P) := D8.out.below hb
          replace B8 : Hid (Bx r0 X8 (.slice y1 NA.length y2) (.slice y3 P.length y4)) := B8.out.keep hb B8.out.lt
          replace SL : Hid (SRow r0 (some ⟨LB, 0, none⟩) [ft, sc]) := SL.out.below hb
          replace D11 : Hid (DOwn r0 v5.heap.size n1 n2 n3 n4 SW P) := D11.out.below hb
          replace B11 : Hid (Bx r0 X11 (.slice n1 SW.length n2) (.slice n3 P.length n4)) := B11.out.keep hb B11.out.lt
          replace D14 : Hid (DOwn r0 wr.heap.size m1 m2 m3 m4 (CA 3) P) := D14.out.below hb
          replace B14 : Hid (Bx r0 X14 (.slice m1 (CA 3).length m2) (.slice m3 P.length m4)) := B14.out.keep hb B14.out.lt
          replace D15 : Hid (DOwn r0 v7.heap.size j1 j2 j3 j4 (CS 3) P) := D15.out.below hb
          replace B15 : Hid (Bx r0 X15 (.slice j1 (CS 3).length j2) (.slice j3 P.length j4)) := B15.out.keep hb B15.out.lt
          clear hb
          clear g0 g1 k0 k1 q0 q1
          have g0 := B3.out.c0
          have g1 := B3.out.c1
          have k0 := B11.out.c0
          have k1 := B11.out.c1
          have q0 := B15.out.c0
          have q1 := B15.out.c1
          go_wp2_with fail
          refine (HR2.out _ _ _ _ _ _ _ _ _ _ _ _ _ _ D3.out.s.srow D3.out.p.prow D11.out.s.srow D11.out.p.prow D15.out.s.srow D15.out.p.prow).mono ?_
          rintro e r1 ⟨rfl, hb⟩
          replace HB : Hid (Below w.heap.size w r1) := HB.out.trans (hb.mono HB.out.size)
          replace D3 : Hid (DOwn r1 w.heap.size x1 x2 x3 x4 cur P) := D3.out.below hb
          replace B3 : Hid (Bx r1 X3 (.slice x1 cur.length x2) (.slice x3 P.length x4)) := B3.out.keep hb B3.out.lt
          replace KR : Hid (KRow r1 (some ⟨G, 0, none⟩) ks) := KR.out.below hb
          replace D8 : Hid (DOwn r1 w3.heap.size y1 y2 y3 y4 NA P) := D8.out.below hb
          replace B8 : Hid (Bx r1 X8 (.slice y1 NA.length y2) (.slice y3 P.length y4)) := B8.out.keep hb B8.out.lt
          replace SL : Hid (SRow r1 (some ⟨LB, 0, none⟩) [ft, sc]) := SL.out.below hb
          replace D11 : Hid (DOwn r1 v5.heap.size n1 n2 n3 n4 SW P) := D11.out.below hb
          replace B11 : Hid (Bx r1 X11 (.slice n1 SW.length n2) (.slice n3 P.length n4)) := B11.out.keep hb B11.out.lt
          replace D14 : Hid (DOwn r1 wr.heap.size m1 m2 m3 m4 (CA 3) P) := D14.out.below hb
          replace B14 : Hid (Bx r1 X14 (.slice m1 (CA 3).length m2) (.slice m3 P.length m4)) := B14.out.keep hb B14.out.lt
          replace D15 : Hid (DOwn r1 v7.heap.size j1 j2 j3 j4 (CS 3) P) := D15.out.below hb
          replace B15 : Hid (Bx r1 X15 (.slice j1 (CS 3).length j2) (.slice j3 P.length j4)) := B15.out.keep hb B15.out.lt
          clear hb
          clear g0 g1 k0 k1 q0 q1
          go_wp2
          go_roundw
          case rel => exact ⟨4, by omega, by go_num, HB, D3, B3, KR, D8, B8, SL, D11, B11⟩
          case measure => simp [intOf]
      · have hlt' : ¬ (k : Int) < 4 := by omega
        clear hk hlt
        go_upto_region 17 with fail
        try simp only [List.append_eq, List.cons_append, List.nil_append]
        refine wp_region_held_drew (S := fun w' => w'.cell? ⟨X3, 0, none⟩ = some (.slice x1 cur.length x2) ∧ w'.cell? ⟨X3, 1, none⟩ = some (.slice x3 P.length x4) ∧ w'.cell? ⟨X8, 0, none⟩ = some (.slice y1 NA.length y2) ∧ w'.cell? ⟨X8, 1, none⟩ = some (.slice y3 P.length y4) ∧ w'.cell? ⟨X11, 0, none⟩ = some (.slice n1 SW.length n2) ∧ w'.cell? ⟨X11, 1, none⟩ = some (.slice n3 P.length n4)) (by kernel_rfl) ⟨B3.out.c0, B3.out.c1, B8.out.c0, B8.out.c1, B11.out.c0, B11.out.c1⟩ (fun hHeld => ?_)
        (refine wpAnyH_take (i := 0) (v := ?_) rfl (by kernel_rfl) (by kernel_rfl) (by kernel_rfl) (fun _ _ _ h => h) (Or.inl ⟨by rfl, ?_⟩) (by assumption) ?_; rotate_left; (focus (intro w hSw; (try dsimp only at hSw); go_simp; (try with_reducible rfl); done)); simp only [Act.put, List.getElem_toArray, List.getElem_cons_zero, List.setIfInBounds_toArray, List.set_cons_zero, List.set_cons_succ])
        (refine wpAnyH_take (i := 1) (v := ?_) rfl (by kernel_rfl) (by kernel_rfl) (by kernel_rfl) (fun _ _ _ h => h) (Or.inl ⟨by rfl, ?_⟩) (by assumption) ?_; rotate_left; (focus (intro w hSw; (try dsimp only at hSw); go_simp; (try with_reducible rfl); done)); simp only [Act.put, List.getElem_toArray, List.getElem_cons_zero, List.getElem_cons_succ, List.setIfInBounds_toArray, List.set_cons_zero, List.set_cons_succ])
        (refine wpAnyH_take (i := 2) (v := ?_) rfl (by kernel_rfl) (by kernel_rfl) (by kernel_rfl) (fun _ _ _ h => h) (Or.inl ⟨by rfl, ?_⟩) (by assumption) ?_; rotate_left; (focus (intro w hSw; (try dsimp only at hSw); go_simp; (try with_reducible rfl); done)); simp only [Act.put, List.getElem_toArray, List.getElem_cons_zero, List.getElem_cons_succ, List.setIfInBounds_toArray, List.set_cons_zero, List.set_cons_succ])
        (refine wpAnyH_take (i := 3) (v := ?_) rfl (by kernel_rfl) (by kernel_rfl) (by kernel_rfl) (fun _ _ _ h => h) (Or.inl ⟨by rfl, ?_⟩) (by assumption) ?_; rotate_left; (focus (intro w hSw; (try dsimp only at hSw); go_simp; (try with_reducible rfl); done)); simp only [Act.put, List.getElem_toArray, List.getElem_cons_zero, List.getElem_cons_succ, List.setIfInBounds_toArray, List.set_cons_zero, List.set_cons_succ])
        (refine wpAnyH_take (i := 4) (v := ?_) rfl (by kernel_rfl) (by kernel_rfl) (by kernel_rfl) (fun _ _ _ h => h) (Or.inl ⟨by rfl, ?_⟩) (by assumption) ?_; rotate_left; (focus (intro w hSw; (try dsimp only at hSw); go_simp; (try with_reducible rfl); done)); simp only [Act.put, List.getElem_toArray, List.getElem_cons_zero, List.getElem_cons_succ, List.setIfInBounds_toArray, List.set_cons_zero, List.set_cons_succ])
        (refine wpAnyH_take (i := 5) (v := ?_) rfl (by kernel_rfl) (by kernel_rfl) (by kernel_rfl) (fun _ _ _ h => h) (Or.inl ⟨by rfl, ?_⟩) (by assumption) ?_; rotate_left; (focus (intro w hSw; (try dsimp only at hSw); go_simp; (try with_reducible rfl); done)); simp only [Act.put, List.getElem_toArray, List.getElem_cons_zero, List.getElem_cons_succ, List.setIfInBounds_toArray, List.set_cons_zero, List.set_cons_succ])
        (refine wpAnyH_take (i := 7) (v := ?_) rfl (by kernel_rfl) (by kernel_rfl) (by kernel_rfl) (fun _ _ _ h => h) (Or.inl ⟨by rfl, ?_⟩) (by assumption) ?_; rotate_left; (focus (intro w hSw; (try dsimp only at hSw); go_simp; (try with_reducible rfl); done)); simp only [Act.put, List.getElem_toArray, List.getElem_cons_zero, List.getElem_cons_succ, List.setIfInBounds_toArray, List.set_cons_zero, List.set_cons_succ])
        refine wpAnyH_ready (rs := [6]) (by kernel_rfl) (by simp) ?_
        refine AllReadyH.cons rfl (fun K hK => ?_) AllReadyH.nil
        go_simp
        go_wp2_with fail
        refine (HCS.out _ _ _ _ _ _ _ (D3.out.s.srow.below (belowRefl _).drew) (D3.out.p.prow.below (belowRefl _).drew) (SL.out.below (belowRefl _).drew) (KR.out.below (belowRefl _).drew)).mono ?_
        rintro e s1 ⟨j1, j2, j3, j4, rfl, hd, hb⟩
        replace hb := undrew hb
        replace HB : Hid (Below w.heap.size w s1) := HB.out.trans (hb.mono HB.out.size)
        replace D3 : Hid (DOwn s1 w.heap.size x1 x2 x3 x4 cur P) := D3.out.below hb
        replace B3 : Hid (Bx s1 X3 (.slice x1 cur.length x2) (.slice x3 P.length x4)) := B3.out.keep hb B3.out.lt
        replace KR : Hid (KRow s1 (some ⟨G, 0, none⟩) ks) := KR.out.below hb
        replace D8 : Hid (DOwn s1 w3.heap.size y1 y2 y3 y4 NA P) := D8.out.below hb
        replace B8 : Hid (Bx s1 X8 (.slice y1 NA.length y2) (.slice y3 P.length y4)) := B8.out.keep hb B8.out.lt
        replace SL : Hid (SRow s1 (some ⟨LB, 0, none⟩) [ft, sc]) := SL.out.below hb
        replace D11 : Hid (DOwn s1 v5.heap.size n1 n2 n3 n4 SW P) := D11.out.below hb
        replace B11 : Hid (Bx s1 X11 (.slice n1 SW.length n2) (.slice n3 P.length n4)) := B11.out.keep hb B11.out.lt
        have E1 : Hid (DOwn s1 wr.drew.heap.size j1 j2 j3 j4 (CS 9) P) := hd
        clear hd
        go_wp2_with fail
        refine hK.out _ _ ⟨B3.out.c0, B3.out.c1, B8.out.c0, B8.out.c1, B11.out.c0, B11.out.c1⟩ (fun hHeld1 => ?_)
        clear hK K hb
        refine wpAnyH_ready (rs := [8]) (by kernel_rfl) (by simp) ?_
        refine AllReadyH.cons rfl (fun K hK => ?_) AllReadyH.nil
        go_simp
        go_wp2_with fail
        refine (HM3.out _ _ _ _ _ _ _ _ _ E1.out.s.srow E1.out.p.prow D11.out.s.srow D11.out.p.prow).mono ?_
        rintro e s2 ⟨rfl, hb⟩
        replace HB : Hid (Below w.heap.size w s2) := HB.out.trans (hb.mono HB.out.size)
        replace D3 : Hid (DOwn s2 w.heap.size x1 x2 x3 x4 cur P) := D3.out.below hb
        replace B3 : Hid (Bx s2 X3 (.slice x1 cur.length x2) (.slice x3 P.length x4)) := B3.out.keep hb B3.out.lt
        replace KR : Hid (KRow s2 (some ⟨G, 0, none⟩) ks) := KR.out.below hb
        replace D8 : Hid (DOwn s2 w3.heap.size y1 y2 y3 y4 NA P) := D8.out.below hb
        replace B8 : Hid (Bx s2 X8 (.slice y1 NA.length y2) (.slice y3 P.length y4)) := B8.out.keep hb B8.out.lt
        replace SL : Hid (SRow s2 (some ⟨LB, 0, none⟩) [ft, sc]) := SL.out.below hb
        replace D11 : Hid (DOwn s2 v5.heap.size n1 n2 n3 n4 SW P) := D11.out.below hb
        replace B11 : Hid (Bx s2 X11 (.slice n1 SW.length n2) (.slice n3 P.length n4)) := B11.out.keep hb B11.out.lt
        replace E1 : Hid (DOwn s2 wr.drew.heap.size j1 j2 j3 j4 (CS 9) P) := E1.out.below hb
        go_wp2_with fail
        refine hK.out _ _ ⟨B3.out.c0, B3.out.c1, B8.out.c0, B8.out.c1, B11.out.c0, B11.out.c1⟩ (fun hHeld2 => ?_)
        clear hK K hb
        (refine wpAnyH_take (i := 9) (v := ?_) rfl (by kernel_rfl) (by kernel_rfl) (by kernel_rfl) (fun _ _ _ h => h) (Or.inl ⟨by rfl, ?_⟩) (by assumption) ?_; rotate_left; (focus (intro w hSw; (try dsimp only at hSw); go_simp; (try with_reducible rfl); done)); simp only [Act.put, List.getElem_toArray, List.getElem_cons_zero, List.getElem_cons_succ, List.setIfInBounds_toArray, List.set_cons_zero, List.set_cons_succ])
        (refine wpAnyH_take (i := 10) (v := ?_) rfl (by kernel_rfl) (by kernel_rfl) (by kernel_rfl) (fun _ _ _ h => h) (Or.inl ⟨by rfl, ?_⟩) (by assumption) ?_; rotate_left; (focus (intro w hSw; (try dsimp only at hSw); go_simp; (try with_reducible rfl); done)); simp only [Act.put, List.getElem_toArray, List.getElem_cons_zero, List.getElem_cons_succ, List.setIfInBounds_toArray, List.set_cons_zero, List.set_cons_succ])
        (refine wpAnyH_take (i := 11) (v := ?_) rfl (by kernel_rfl) (by kernel_rfl) (by kernel_rfl) (fun _ _ _ h => h) (Or.inl ⟨by rfl, ?_⟩) (by assumption) ?_; rotate_left; (focus (intro w hSw; (try dsimp only at hSw); go_simp; (try with_reducible rfl); done)); simp only [Act.put, List.getElem_toArray, List.getElem_cons_zero, List.getElem_cons_succ, List.setIfInBounds_toArray, List.set_cons_zero, List.set_cons_succ])
        (refine wpAnyH_take (i := 12) (v := ?_) rfl (by kernel_rfl) (by kernel_rfl) (by kernel_rfl) (fun _ _ _ h => h) (Or.inl ⟨by rfl, ?_⟩) (by assumption) ?_; rotate_left; (focus (intro w hSw; (try dsimp only at hSw); go_simp; (try with_reducible rfl); done)); simp only [Act.put, List.getElem_toArray, List.getElem_cons_zero, List.getElem_cons_succ, List.setIfInBounds_toArray, List.set_cons_zero, List.set_cons_succ])
        (refine wpAnyH_take (i := 13) (v := ?_) rfl (by kernel_rfl) (by kernel_rfl) (by kernel_rfl) (fun _ _ _ h => h) (Or.inl ⟨by rfl, ?_⟩) (by assumption) ?_; rotate_left; (focus (intro w hSw; (try dsimp only at hSw); go_simp; (try with_reducible rfl); done)); simp only [Act.put, List.getElem_toArray, List.getElem_cons_zero, List.getElem_cons_succ, List.setIfInBounds_toArray, List.set_cons_zero, List.set_cons_succ])
        (refine wpAnyH_take (i := 14) (v := ?_) rfl (by kernel_rfl) (by kernel_rfl) (by kernel_rfl) (fun _ _ _ h => h) (Or.inl ⟨by rfl, ?_⟩) (by assumption) ?_; rotate_left; (focus (intro w hSw; (try dsimp only at hSw); go_simp; (try with_reducible rfl); done)); simp only [Act.put, List.getElem_toArray, List.getElem_cons_zero, List.getElem_cons_succ, List.setIfInBounds_toArray, List.set_cons_zero, List.set_cons_succ])
        (refine wpAnyH_take (i := 15) (v := ?_) rfl (by kernel_rfl) (by kernel_rfl) (by kernel_rfl) (fun _ _ _ h => h) (Or.inl ⟨by rfl, ?_⟩) (by assumption) ?_; rotate_left; (focus (intro w hSw; (try dsimp only at hSw); go_simp; (try with_reducible rfl); done)); simp only [Act.put, List.getElem_toArray, List.getElem_cons_zero, List.getElem_cons_succ, List.setIfInBounds_toArray, List.set_cons_zero, List.set_cons_succ])
        (refine wpAnyH_take (i := 16) (v := ?_) rfl (by kernel_rfl) (by kernel_rfl) (by kernel_rfl) (fun _ _ _ h => h) (Or.inl ⟨by rfl, ?_⟩) (by assumption) ?_; rotate_left; (focus (intro w hSw; (try dsimp only at hSw); go_simp; (try with_reducible rfl); done)); simp only [Act.put, List.getElem_toArray, List.getElem_cons_zero, List.getElem_cons_succ, List.setIfInBounds_toArray, List.set_cons_zero, List.set_cons_succ])
        (refine wpAnyH_take (i := 17) (v := ?_) rfl (by kernel_rfl) (by kernel_rfl) (by kernel_rfl) (fun _ _ _ h => h) (Or.inl ⟨by rfl, ?_⟩) (by assumption) ?_; rotate_left; (focus (intro w hSw; (try dsimp only at hSw); go_simp; (try with_reducible rfl); done)); simp only [Act.put, List.getElem_toArray, List.getElem_cons_zero, List.getElem_cons_succ, List.setIfInBounds_toArray, List.set_cons_zero, List.set_cons_succ])
        (refine wpAnyH_take (i := 19) (v := ?_) rfl (by kernel_rfl) (by kernel_rfl) (by kernel_rfl) (fun _ _ _ h => h) (Or.inl ⟨by rfl, ?_⟩) (by assumption) ?_; rotate_left; (focus (intro w hSw; (try dsimp only at hSw); go_simp; (try with_reducible rfl); done)); simp only [Act.put, List.getElem_toArray, List.getElem_cons_zero, List.getElem_cons_succ, List.setIfInBounds_toArray, List.set_cons_zero, List.set_cons_succ])
        refine wpAnyH_ready (rs := [18]) (by kernel_rfl) (by simp) ?_
        refine AllReadyH.cons rfl (fun K hK => ?_) AllReadyH.nil
        go_simp
        go_wp2_with fail
        refine (HCA.out _ _ _ _ _ _ D3.out.s.srow D3.out.p.prow KR.out).mono ?_
        rintro e s3 ⟨m1, m2, m3, m4, rfl, hd, hb⟩
        replace HB : Hid (Below w.heap.size w s3) := HB.out.trans (hb.mono HB.out.size)
        replace D3 : Hid (DOwn s3 w.heap.size x1 x2 x3 x4 cur P) := D3.out.below hb
        replace B3 : Hid (Bx s3 X3 (.slice x1 cur.length x2) (.slice x3 P.length x4)) := B3.out.keep hb B3.out.lt
        replace KR : Hid (KRow s3 (some ⟨G, 0, none⟩) ks) := KR.out.below hb
        replace D8 : Hid (DOwn s3 w3.heap.size y1 y2 y3 y4 NA P) := D8.out.below hb
        replace B8 : Hid (Bx s3 X8 (.slice y1 NA.length y2) (.slice y3 P.length y4)) := B8.out.keep hb B8.out.lt
        replace SL : Hid (SRow s3 (some ⟨LB, 0, none⟩) [ft, sc]) := SL.out.below hb
        replace D11 : Hid (DOwn s3 v5.heap.size n1 n2 n3 n4 SW P) := D11.out.below hb
        replace B11 : Hid (Bx s3 X11 (.slice n1 SW.length n2) (.slice n3 P.length n4)) := B11.out.keep hb B11.out.lt
        replace E1 : Hid (DOwn s3 wr.drew.heap.size j1 j2 j3 j4 (CS 9) P) := E1.out.below hb
        have E2 : Hid (DOwn s3 s2.heap.size m1 m2 m3 m4 (CA 9) P) := hd
        clear hd
        go_wp2_with fail
        refine hK.out _ _ ⟨B3.out.c0, B3.out.c1, B8.out.c0, B8.out.c1, B11.out.c0, B11.out.c1⟩ (fun hHeld3 => ?_)
        clear hK K hb
        refine wpAnyH_ready (rs := [20]) (by kernel_rfl) (by simp) ?_
        refine AllReadyH.cons rfl (fun K hK => ?_) AllReadyH.nil
        go_simp
        go_wp2_with fail
        refine (HM4.out _ _ _ _ _ _ _ _ _ E2.out.s.srow E2.out.p.prow D8.out.s.srow D8.out.p.prow).mono ?_
        rintro e s4 ⟨rfl, hb⟩
        replace HB : Hid (Below w.heap.size w s4) := HB.out.trans (hb.mono HB.out.size)
        replace D3 : Hid (DOwn s4 w.heap.size x1 x2 x3 x4 cur P) := D3.out.below hb
        replace B3 : Hid (Bx s4 X3 (.slice x1 cur.length x2) (.slice x3 P.length x4)) := B3.out.keep hb B3.out.lt
        replace KR : Hid (KRow s4 (some ⟨G, 0, none⟩) ks) := KR.out.below hb
        replace D8 : Hid (DOwn s4 w3.heap.size y1 y2 y3 y4 NA P) := D8.out.below hb
        replace B8 : Hid (Bx s4 X8 (.slice y1 NA.length y2) (.slice y3 P.length y4)) := B8.out.keep hb B8.out.lt
        replace SL : Hid (SRow s4 (some ⟨LB, 0, none⟩) [ft, sc]) := SL.out.below hb
        replace D11 : Hid (DOwn s4 v5.heap.size n1 n2 n3 n4 SW P) := D11.out.below hb
        replace B11 : Hid (Bx s4 X11 (.slice n1 SW.length n2) (.slice n3 P.length n4)) := B11.out.keep hb B11.out.lt
        replace E1 : Hid (DOwn s4 wr.drew.heap.size j1 j2 j3 j4 (CS 9) P) := E1.out.below hb
        replace E2 : Hid (DOwn s4 s2.heap.size m1 m2 m3 m4 (CA 9) P) := E2.out.below hb
        go_wp2_with fail
        refine hK.out _ _ ⟨B3.out.c0, B3.out.c1, B8.out.c0, B8.out.c1, B11.out.c0, B11.out.c1⟩ (fun hHeld4 => ?_)
        clear hK K hb
        (refine wpAnyH_take (i := 21) (v := ?_) rfl (by kernel_rfl) (by kernel_rfl) (by kernel_rfl) (fun _ _ _ h => h) (Or.inl ⟨by rfl, ?_⟩) (by assumption) ?_; rotate_left; (focus (intro w hSw; (try dsimp only at hSw); go_simp; (try with_reducible rfl); done)); simp only [Act.put, List.getElem_toArray, List.getElem_cons_zero, List.getElem_cons_succ, List.setIfInBounds_toArray, List.set_cons_zero, List.set_cons_succ])
        (refine wpAnyH_take (i := 22) (v := ?_) rfl (by kernel_rfl) (by kernel_rfl) (by kernel_rfl) (fun _ _ _ h => h) (Or.inl ⟨by rfl, ?_⟩) (by assumption) ?_; rotate_left; (focus (intro w hSw; (try dsimp only at hSw); go_simp; (try with_reducible rfl); done)); simp only [Act.put, List.getElem_toArray, List.getElem_cons_zero, List.getElem_cons_succ, List.setIfInBounds_toArray, List.set_cons_zero, List.set_cons_succ])
        (refine wpAnyH_take (i := 23) (v := ?_) rfl (by kernel_rfl) (by kernel_rfl) (by kernel_rfl) (fun _ _ _ h => h) (Or.inl ⟨by rfl, ?_⟩) (by assumption) ?_; rotate_left; (focus (intro w hSw; (try dsimp only at hSw); go_simp; (try with_reducible rfl); done)); simp only [Act.put, List.getElem_toArray, List.getElem_cons_zero, List.getElem_cons_succ, List.setIfInBounds_toArray, List.set_cons_zero, List.set_cons_succ])
        refine wpAnyH_done (by kernel_rfl) ?_ _
        go_wp2
        go_ret
        exact ⟨rfl, HB.out⟩
  · rw [decide_eq_true (by omega)] at HBG
    go_enter Try.func3, Try.ntmps3
    go_wp2_with fail
    refine (HBG.out _).mono ?_
    rintro e w ⟨rfl, rfl⟩
    go_wp2
    go_ret
    exact ⟨rfl, belowRefl w⟩
end Go.Proofs.Ytekjpoenbcnhdaa

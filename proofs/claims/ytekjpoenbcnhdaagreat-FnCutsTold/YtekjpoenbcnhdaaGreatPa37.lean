/- The law FnCutsTold, walked. -/
import Derived.Test.YtekjpoenbcnhdaaGreatPa01
import Derived.Test.YtekjpoenbcnhdaaGreatPa25
import Derived.Test.YtekjpoenbcnhdaaGreatPa30
import Derived.Test.YtekjpoenbcnhdaaGreatPa32
import Derived.Test.YtekjpoenbcnhdaaGreatPa34
import Derived.Test.YtekjpoenbcnhdaaGreatPa36
import Derived.Laws.StructEq
namespace Go.Proofs.YtekjpoenbcnhdaaGreat
open Go.RowKit
open DM
open FM
attribute [local go_sem ↓] Go.wp_at_zero Go.wp_at_succ

set_option maxRecDepth 100000 in
set_option maxHeartbeats 40000000 in
theorem law3 (len cap : Nat) (a : Option Addr) (w : World) (hl0 : len ≤ 9223372036854775807) (hr : CodeRow w a len) :
  Calls Tryz.prog 3 #[.slice a len cap] w fun e w' => e = .returned (.bool true) ∧ Below w.heap.size w w' := by
 have HBG : Hid (∀ W : World, Calls Tryz.prog 4 #[.slice a len cap] W fun e w' => e = .returned (.bool (decide ((1048576 : Int) < (len : Int)))) ∧ w' = W) := fun W => big10 len cap a W
 by_cases hl : len ≤ 1048576
 ·rw [decide_eq_false (by omega)] at HBG
  have HD5 := hide0 (fun (W : World) (h : Below w.heap.size w W) => dca5 len cap a hl W (hr.below h))
  have HD6 := hide0 (fun (W : World) (h : Below w.heap.size w W) => dcs6 len cap a hl W (hr.below h))
  have HD7 := hide0 (fun (W : World) (h : Below w.heap.size w W) => dst7 len cap a hl W (hr.below h))
  have HD8 := hide0 (fun (W : World) (h : Below w.heap.size w W) => dcr8 len cap a hl W (hr.below h))
  clear hr
  go_enter Tryz.func3, Tryz.ntmps3
  go_wp2_with fail
  refine (HBG.out _).mono ?_
  rintro e w ⟨rfl, rfl⟩
  go_wp2_with fail
  refine (HD5.out _ (belowRefl _)).mono ?_
  rintro e w1 ⟨s1, p1, a1, a2, a3, a4, t, st, ks, G, cp, tr, rfl, hd, hIT, hkr, hkl, hb⟩
  have HB : Hid (Below w.heap.size w w1) := hb
  have D3 : Hid (DOwn w1 w.heap.size a1 a2 a3 a4 s1 p1) := hd
  have K3 : Hid (KRow w1 (some ⟨G, 0, none⟩) ks) := hkr
  have hf := hIT.1.wide
  obtain ⟨CA, hCA⟩ : ∃ CA, CA = caS s1 p1 t (st : Int) ks (tr : Int) := ⟨_, rfl⟩
  have HA10 : Hid (∀ (W : World) (z1 : Option Addr) (z2 : Nat) (z3 : Option Addr) (z4 : Nat), SRow W z1 s1 → PRow W z3 p1 → KRow W (some ⟨G, 0, none⟩) ks → Calls Tryz.prog 10 #[.agg #[.slice z1 s1.length z2, .slice z3 p1.length z4], .string t, .int .i64 (st : Int), .slice (some ⟨G, 0, none⟩) ks.length cp, .int .i64 (tr : Int)] W fun e w' => ∃ f1 f2 f3 f4, e = .returned (.agg #[.slice f1 CA.length f2, .slice f3 p1.length f4]) ∧ DOwn w' W.heap.size f1 f2 f3 f4 CA p1 ∧ Below W.heap.size W w') := fun W z1 z2 z3 z4 h h2 h3 => by
   rw [hCA]
   exact icutA s1 p1 t st ks tr z1 z3 _ z2 z4 cp hf.1 hf.2.1 hf.2.2.1 hf.2.2.2 (Nat.le_trans hIT.2 (by omega)) (by omega) W h h2 h3
  have HA11 : Hid (∀ (B : Nat) (W : World) (z1 : Option Addr) (z2 : Nat) (z3 : Option Addr) (z4 : Nat), DOwn W B z1 z2 z3 z4 s1 p1 → KRow W (some ⟨G, 0, none⟩) ks → Calls Tryz.prog 11 #[.agg #[.slice z1 s1.length z2, .slice z3 p1.length z4], .string t, .int .i64 (st : Int), .slice (some ⟨G, 0, none⟩) ks.length cp, .int .i64 (tr : Int)] W fun e w' => ∃ f1 f2 f3 f4, e = .returned (.agg #[.slice f1 CA.length f2, .slice f3 p1.length f4]) ∧ DOwn w' W.heap.size f1 f2 f3 f4 CA p1 ∧ Below W.heap.size W w') := fun B W z1 z2 z3 z4 h h3 => by
   rw [hCA]
   exact scutA s1 p1 t st ks tr z1 z3 _ z2 z4 cp B hf.1 hf.2.1 hf.2.2.1 hf.2.2.2 (Nat.le_trans hIT.2 (by omega)) (by omega) W h h3
  have HLA : Hid (CA.length ≤ 100000000 ∧ p1.length ≤ 100000000) := ⟨by rw [hCA, caS_len]; have := hf.1; omega, by have := hf.2.1; omega⟩
  clear hd hIT hkr hkl hb hf hCA HD5 HBG
  have hba : Below w1.heap.size w1 (w1.alloc (.cells #[.slice a1 s1.length a2, .slice a3 p1.length a4] 27)) := (belowRefl w1).alloc (Nat.le_refl _) _
  replace HB : Hid (Below w.heap.size w (w1.alloc (.cells #[.slice a1 s1.length a2, .slice a3 p1.length a4] 27))) := HB.out.trans (hba.mono HB.out.size)
  replace D3 : Hid (DOwn (w1.alloc (.cells #[.slice a1 s1.length a2, .slice a3 p1.length a4] 27)) w.heap.size a1 a2 a3 a4 s1 p1) := D3.out.below hba
  replace K3 : Hid (KRow (w1.alloc (.cells #[.slice a1 s1.length a2, .slice a3 p1.length a4] 27)) (some ⟨G, 0, none⟩) ks) := K3.out.below hba
  have B3 : Hid (Bx (w1.alloc (.cells #[.slice a1 s1.length a2, .slice a3 p1.length a4] 27)) w1.heap.size (.slice a1 s1.length a2) (.slice a3 p1.length a4)) := Bx.new w1 _ _ 27
  clear hba
  go_wp2_with fail
  generalize (w1.alloc (.cells #[.slice a1 s1.length a2, .slice a3 p1.length a4] 27)) = v1 at *
  generalize w1.heap.size = X3 at *
  refine (HD6.out _ HB.out).mono ?_
  rintro e w2 ⟨s2, p2, b1, b2, b3, b4, ts, al, cl, sn, kt, GG, cq, tq, rfl, hd, hIT, hkr, hkl, hb⟩
  replace HB : Hid (Below w.heap.size w w2) := HB.out.trans (hb.mono HB.out.size)
  replace D3 : Hid (DOwn w2 w.heap.size a1 a2 a3 a4 s1 p1) := D3.out.below hb
  replace K3 : Hid (KRow w2 (some ⟨G, 0, none⟩) ks) := K3.out.below hb
  replace B3 : Hid (Bx w2 X3 (.slice a1 s1.length a2) (.slice a3 p1.length a4)) := B3.out.keep hb B3.out.lt
  have D8 : Hid (DOwn w2 v1.heap.size b1 b2 b3 b4 s2 p2) := hd
  have K8 : Hid (KRow w2 (some ⟨GG, 0, none⟩) kt) := hkr
  have L8 : Hid (SRow w2 al ts) := hIT.2.1
  have hf := hIT.1
  have hts := hIT.2.2
  obtain ⟨CS, hCS⟩ : ∃ CS, CS = csS s2 p2 ts (sn : Int) kt (tq : Int) := ⟨_, rfl⟩
  have HS12 : Hid (∀ (W : World) (z1 : Option Addr) (z2 : Nat) (z3 : Option Addr) (z4 : Nat), SRow W z1 s2 → PRow W z3 p2 → SRow W al ts → KRow W (some ⟨GG, 0, none⟩) kt → Calls Tryz.prog 12 #[.agg #[.slice z1 s2.length z2, .slice z3 p2.length z4], .slice al ts.length cl, .int .i64 (sn : Int), .slice (some ⟨GG, 0, none⟩) kt.length cq, .int .i64 (tq : Int)] W fun e w' => ∃ f1 f2 f3 f4, e = .returned (.agg #[.slice f1 CS.length f2, .slice f3 p2.length f4]) ∧ DOwn w' W.heap.size f1 f2 f3 f4 CS p2 ∧ Below W.heap.size W w') := fun W z1 z2 z3 z4 h h2 h3 h4 => by
   rw [hCS]
   exact icutS s2 p2 ts sn kt tq z1 z3 al _ z2 z4 cl cq hf.1 hf.2.1 hf.2.2.1 hf.2.2.2 (by have := hts.1; omega) (fun x hx => Nat.le_trans (hts.2 x hx) (by omega)) (by omega) W h h2 h3 h4
  have HS13 : Hid (∀ (B : Nat) (W : World) (z1 : Option Addr) (z2 : Nat) (z3 : Option Addr) (z4 : Nat), DOwn W B z1 z2 z3 z4 s2 p2 → SRow W al ts → KRow W (some ⟨GG, 0, none⟩) kt → Calls Tryz.prog 13 #[.agg #[.slice z1 s2.length z2, .slice z3 p2.length z4], .slice al ts.length cl, .int .i64 (sn : Int), .slice (some ⟨GG, 0, none⟩) kt.length cq, .int .i64 (tq : Int)] W fun e w' => ∃ f1 f2 f3 f4, e = .returned (.agg #[.slice f1 CS.length f2, .slice f3 p2.length f4]) ∧ DOwn w' W.heap.size f1 f2 f3 f4 CS p2 ∧ Below W.heap.size W w') := fun B W z1 z2 z3 z4 h h3 h4 => by
   rw [hCS]
   exact scutS s2 p2 ts sn kt tq z1 z3 al _ z2 z4 cl cq B hf.1 hf.2.1 hf.2.2.1 hf.2.2.2 (by have := hts.1; omega) (fun x hx => Nat.le_trans (hts.2 x hx) (by omega)) (by omega) W h h3 h4
  have HLS : Hid (CS.length ≤ 100000000 ∧ p2.length ≤ 100000000) := ⟨by rw [hCS, csS_len]; have := hf.1; omega, by have := hf.2.1; omega⟩
  clear hd hIT hkr hkl hb hf hts hCS HD6
  have hba : Below w2.heap.size w2 (w2.alloc (.cells #[.slice b1 s2.length b2, .slice b3 p2.length b4] 27)) := (belowRefl w2).alloc (Nat.le_refl _) _
  replace HB : Hid (Below w.heap.size w (w2.alloc (.cells #[.slice b1 s2.length b2, .slice b3 p2.length b4] 27))) := HB.out.trans (hba.mono HB.out.size)
  replace D3 : Hid (DOwn (w2.alloc (.cells #[.slice b1 s2.length b2, .slice b3 p2.length b4] 27)) w.heap.size a1 a2 a3 a4 s1 p1) := D3.out.below hba
  replace K3 : Hid (KRow (w2.alloc (.cells #[.slice b1 s2.length b2, .slice b3 p2.length b4] 27)) (some ⟨G, 0, none⟩) ks) := K3.out.below hba
  replace B3 : Hid (Bx (w2.alloc (.cells #[.slice b1 s2.length b2, .slice b3 p2.length b4] 27)) X3 (.slice a1 s1.length a2) (.slice a3 p1.length a4)) := B3.out.keep hba B3.out.lt
  replace D8 : Hid (DOwn (w2.alloc (.cells #[.slice b1 s2.length b2, .slice b3 p2.length b4] 27)) v1.heap.size b1 b2 b3 b4 s2 p2) := D8.out.below hba
  replace K8 : Hid (KRow (w2.alloc (.cells #[.slice b1 s2.length b2, .slice b3 p2.length b4] 27)) (some ⟨GG, 0, none⟩) kt) := K8.out.below hba
  replace L8 : Hid (SRow (w2.alloc (.cells #[.slice b1 s2.length b2, .slice b3 p2.length b4] 27)) al ts) := L8.out.below hba
  have B8 : Hid (Bx (w2.alloc (.cells #[.slice b1 s2.length b2, .slice b3 p2.length b4] 27)) w2.heap.size (.slice b1 s2.length b2) (.slice b3 p2.length b4)) := Bx.new w2 _ _ 27
  clear hba
  go_wp2_with fail
  generalize (w2.alloc (.cells #[.slice b1 s2.length b2, .slice b3 p2.length b4] 27)) = v2 at *
  generalize w2.heap.size = X8 at *
  refine (HD7.out _ HB.out).mono ?_
  rintro e w3 ⟨s3, p3, c1, c2, c3, c4, s4, p4, d1, d2, d3, d4, rfl, hI3, hI4, h1, h2, h3, h4, hb⟩
  replace HB : Hid (Below w.heap.size w w3) := HB.out.trans (hb.mono HB.out.size)
  replace D3 : Hid (DOwn w3 w.heap.size a1 a2 a3 a4 s1 p1) := D3.out.below hb
  replace K3 : Hid (KRow w3 (some ⟨G, 0, none⟩) ks) := K3.out.below hb
  replace B3 : Hid (Bx w3 X3 (.slice a1 s1.length a2) (.slice a3 p1.length a4)) := B3.out.keep hb B3.out.lt
  replace D8 : Hid (DOwn w3 v1.heap.size b1 b2 b3 b4 s2 p2) := D8.out.below hb
  replace K8 : Hid (KRow w3 (some ⟨GG, 0, none⟩) kt) := K8.out.below hb
  replace L8 : Hid (SRow w3 al ts) := L8.out.below hb
  replace B8 : Hid (Bx w3 X8 (.slice b1 s2.length b2) (.slice b3 p2.length b4)) := B8.out.keep hb B8.out.lt
  have S3 : Hid (SRow w3 c1 s3) := h1
  have P3 : Hid (PRow w3 c3 p3) := h2
  have S4 : Hid (SRow w3 d1 s4) := h3
  have P4 : Hid (PRow w3 d3 p4) := h4
  obtain ⟨bs, hbs⟩ : ∃ bs : Bool, bs = true ↔ txOf s3 p3 = txOf s4 p4 := ⟨decide _, decide_eq_true_iff⟩
  have HM14 : Hid (∀ (W : World) (z1 : Option Addr) (z2 : Nat) (z3 : Option Addr) (z4 : Nat) (q1 : Option Addr) (q2 : Nat) (q3 : Option Addr) (q4 : Nat), SRow W z1 s3 → PRow W z3 p3 → SRow W q1 s4 → PRow W q3 p4 → Calls Tryz.prog 14 #[.agg #[.slice z1 s3.length z2, .slice z3 p3.length z4], .agg #[.slice q1 s4.length q2, .slice q3 p4.length q4]] W fun e w' => e = .returned (.bool bs) ∧ Below W.heap.size W w') := fun W z1 z2 z3 z4 q1 q2 q3 q4 g1 g2 g3 g4 => isame14 s3 p3 s4 p4 z1 z2 z3 z4 q1 q2 q3 q4 hI3 hI4 bs hbs W g1 g2 g3 g4
  have HM15 : Hid (∀ (W : World) (z1 : Option Addr) (z2 : Nat) (z3 : Option Addr) (z4 : Nat) (q1 : Option Addr) (q2 : Nat) (q3 : Option Addr) (q4 : Nat), SRow W z1 s3 → PRow W z3 p3 → SRow W q1 s4 → PRow W q3 p4 → Calls Tryz.prog 15 #[.agg #[.slice z1 s3.length z2, .slice z3 p3.length z4], .agg #[.slice q1 s4.length q2, .slice q3 p4.length q4]] W fun e w' => e = .returned (.bool bs) ∧ Below W.heap.size W w') := fun W z1 z2 z3 z4 q1 q2 q3 q4 g1 g2 g3 g4 => ssame15 s3 p3 s4 p4 z1 z2 z3 z4 q1 q2 q3 q4 hI3 hI4 bs hbs W g1 g2 g3 g4
  have HMaa : Hid (∀ (W : World) (z1 : Option Addr) (z2 : Nat) (z3 : Option Addr) (z4 : Nat) (q1 : Option Addr) (q2 : Nat) (q3 : Option Addr) (q4 : Nat), SRow W z1 s3 → PRow W z3 p3 → SRow W q1 s3 → PRow W q3 p3 → Calls Tryz.prog 14 #[.agg #[.slice z1 s3.length z2, .slice z3 p3.length z4], .agg #[.slice q1 s3.length q2, .slice q3 p3.length q4]] W fun e w' => e = .returned (.bool true) ∧ Below W.heap.size W w') := fun W z1 z2 z3 z4 q1 q2 q3 q4 g1 g2 g3 g4 => isame14 s3 p3 s3 p3 z1 z2 z3 z4 q1 q2 q3 q4 hI3 hI3 true ⟨fun _ => rfl, fun _ => rfl⟩ W g1 g2 g3 g4
  clear hI3 hI4 h1 h2 h3 h4 hb hbs HD7
  have hba : Below w3.heap.size w3 (w3.alloc (.cells #[.slice c1 s3.length c2, .slice c3 p3.length c4] 27)) := (belowRefl w3).alloc (Nat.le_refl _) _
  replace HB : Hid (Below w.heap.size w (w3.alloc (.cells #[.slice c1 s3.length c2, .slice c3 p3.length c4] 27))) := HB.out.trans (hba.mono HB.out.size)
  replace D3 : Hid (DOwn (w3.alloc (.cells #[.slice c1 s3.length c2, .slice c3 p3.length c4] 27)) w.heap.size a1 a2 a3 a4 s1 p1) := D3.out.below hba
  replace K3 : Hid (KRow (w3.alloc (.cells #[.slice c1 s3.length c2, .slice c3 p3.length c4] 27)) (some ⟨G, 0, none⟩) ks) := K3.out.below hba
  replace B3 : Hid (Bx (w3.alloc (.cells #[.slice c1 s3.length c2, .slice c3 p3.length c4] 27)) X3 (.slice a1 s1.length a2) (.slice a3 p1.length a4)) := B3.out.keep hba B3.out.lt
  replace D8 : Hid (DOwn (w3.alloc (.cells #[.slice c1 s3.length c2, .slice c3 p3.length c4] 27)) v1.heap.size b1 b2 b3 b4 s2 p2) := D8.out.below hba
  replace K8 : Hid (KRow (w3.alloc (.cells #[.slice c1 s3.length c2, .slice c3 p3.length c4] 27)) (some ⟨GG, 0, none⟩) kt) := K8.out.below hba
  replace L8 : Hid (SRow (w3.alloc (.cells #[.slice c1 s3.length c2, .slice c3 p3.length c4] 27)) al ts) := L8.out.below hba
  replace B8 : Hid (Bx (w3.alloc (.cells #[.slice c1 s3.length c2, .slice c3 p3.length c4] 27)) X8 (.slice b1 s2.length b2) (.slice b3 p2.length b4)) := B8.out.keep hba B8.out.lt
  replace S3 : Hid (SRow (w3.alloc (.cells #[.slice c1 s3.length c2, .slice c3 p3.length c4] 27)) c1 s3) := S3.out.below hba
  replace P3 : Hid (PRow (w3.alloc (.cells #[.slice c1 s3.length c2, .slice c3 p3.length c4] 27)) c3 p3) := P3.out.below hba
  replace S4 : Hid (SRow (w3.alloc (.cells #[.slice c1 s3.length c2, .slice c3 p3.length c4] 27)) d1 s4) := S4.out.below hba
  replace P4 : Hid (PRow (w3.alloc (.cells #[.slice c1 s3.length c2, .slice c3 p3.length c4] 27)) d3 p4) := P4.out.below hba
  have B13 : Hid (Bx (w3.alloc (.cells #[.slice c1 s3.length c2, .slice c3 p3.length c4] 27)) w3.heap.size (.slice c1 s3.length c2) (.slice c3 p3.length c4)) := Bx.new w3 _ _ 27
  clear hba
  have hba : Below (w3.alloc (.cells #[.slice c1 s3.length c2, .slice c3 p3.length c4] 27)).heap.size (w3.alloc (.cells #[.slice c1 s3.length c2, .slice c3 p3.length c4] 27)) ((w3.alloc (.cells #[.slice c1 s3.length c2, .slice c3 p3.length c4] 27)).alloc (.cells #[.slice d1 s4.length d2, .slice d3 p4.length d4] 27)) := (belowRefl (w3.alloc (.cells #[.slice c1 s3.length c2, .slice c3 p3.length c4] 27))).alloc (Nat.le_refl _) _
  replace HB : Hid (Below w.heap.size w ((w3.alloc (.cells #[.slice c1 s3.length c2, .slice c3 p3.length c4] 27)).alloc (.cells #[.slice d1 s4.length d2, .slice d3 p4.length d4] 27))) := HB.out.trans (hba.mono HB.out.size)
  replace D3 : Hid (DOwn ((w3.alloc (.cells #[.slice c1 s3.length c2, .slice c3 p3.length c4] 27)).alloc (.cells #[.slice d1 s4.length d2, .slice d3 p4.length d4] 27)) w.heap.size a1 a2 a3 a4 s1 p1) := D3.out.below hba
  replace K3 : Hid (KRow ((w3.alloc (.cells #[.slice c1 s3.length c2, .slice c3 p3.length c4] 27)).alloc (.cells #[.slice d1 s4.length d2, .slice d3 p4.length d4] 27)) (some ⟨G, 0, none⟩) ks) := K3.out.below hba
  replace B3 : Hid (Bx ((w3.alloc (.cells #[.slice c1 s3.length c2, .slice c3 p3.length c4] 27)).alloc (.cells #[.slice d1 s4.length d2, .slice d3 p4.length d4] 27)) X3 (.slice a1 s1.length a2) (.slice a3 p1.length a4)) := B3.out.keep hba B3.out.lt
  replace D8 : Hid (DOwn ((w3.alloc (.cells #[.slice c1 s3.length c2, .slice c3 p3.length c4] 27)).alloc (.cells #[.slice d1 s4.length d2, .slice d3 p4.length d4] 27)) v1.heap.size b1 b2 b3 b4 s2 p2) := D8.out.below hba
  replace K8 : Hid (KRow ((w3.alloc (.cells #[.slice c1 s3.length c2, .slice c3 p3.length c4] 27)).alloc (.cells #[.slice d1 s4.length d2, .slice d3 p4.length d4] 27)) (some ⟨GG, 0, none⟩) kt) := K8.out.below hba
  replace L8 : Hid (SRow ((w3.alloc (.cells #[.slice c1 s3.length c2, .slice c3 p3.length c4] 27)).alloc (.cells #[.slice d1 s4.length d2, .slice d3 p4.length d4] 27)) al ts) := L8.out.below hba
  replace B8 : Hid (Bx ((w3.alloc (.cells #[.slice c1 s3.length c2, .slice c3 p3.length c4] 27)).alloc (.cells #[.slice d1 s4.length d2, .slice d3 p4.length d4] 27)) X8 (.slice b1 s2.length b2) (.slice b3 p2.length b4)) := B8.out.keep hba B8.out.lt
  replace S3 : Hid (SRow ((w3.alloc (.cells #[.slice c1 s3.length c2, .slice c3 p3.length c4] 27)).alloc (.cells #[.slice d1 s4.length d2, .slice d3 p4.length d4] 27)) c1 s3) := S3.out.below hba
  replace P3 : Hid (PRow ((w3.alloc (.cells #[.slice c1 s3.length c2, .slice c3 p3.length c4] 27)).alloc (.cells #[.slice d1 s4.length d2, .slice d3 p4.length d4] 27)) c3 p3) := P3.out.below hba
  replace S4 : Hid (SRow ((w3.alloc (.cells #[.slice c1 s3.length c2, .slice c3 p3.length c4] 27)).alloc (.cells #[.slice d1 s4.length d2, .slice d3 p4.length d4] 27)) d1 s4) := S4.out.below hba
  replace P4 : Hid (PRow ((w3.alloc (.cells #[.slice c1 s3.length c2, .slice c3 p3.length c4] 27)).alloc (.cells #[.slice d1 s4.length d2, .slice d3 p4.length d4] 27)) d3 p4) := P4.out.below hba
  replace B13 : Hid (Bx ((w3.alloc (.cells #[.slice c1 s3.length c2, .slice c3 p3.length c4] 27)).alloc (.cells #[.slice d1 s4.length d2, .slice d3 p4.length d4] 27)) w3.heap.size (.slice c1 s3.length c2) (.slice c3 p3.length c4)) := B13.out.keep hba B13.out.lt
  have B14 : Hid (Bx ((w3.alloc (.cells #[.slice c1 s3.length c2, .slice c3 p3.length c4] 27)).alloc (.cells #[.slice d1 s4.length d2, .slice d3 p4.length d4] 27)) (w3.heap.size + 1) (.slice d1 s4.length d2) (.slice d3 p4.length d4)) := by
   have h := Bx.new (w3.alloc (.cells #[.slice c1 s3.length c2, .slice c3 p3.length c4] 27)) (.slice d1 s4.length d2) (.slice d3 p4.length d4) 27
   rw [World.size_alloc] at h
   exact h
  clear hba
  go_wp2_with fail
  generalize ((w3.alloc (.cells #[.slice c1 s3.length c2, .slice c3 p3.length c4] 27)).alloc (.cells #[.slice d1 s4.length d2, .slice d3 p4.length d4] 27)) = v3 at *
  generalize w3.heap.size = X13 at *
  refine (HD8.out _ HB.out).mono ?_
  rintro e w4 ⟨s5, p5, e1, e2, e3, e4, s6, p6, f1, f2, f3, f4, s7, p7, g1, g2, g3, g4, rfl, hI5, hI6, hI7, h1, h2, h3, h4, h5, h6, hb⟩
  replace HB : Hid (Below w.heap.size w w4) := HB.out.trans (hb.mono HB.out.size)
  replace D3 : Hid (DOwn w4 w.heap.size a1 a2 a3 a4 s1 p1) := D3.out.below hb
  replace K3 : Hid (KRow w4 (some ⟨G, 0, none⟩) ks) := K3.out.below hb
  replace B3 : Hid (Bx w4 X3 (.slice a1 s1.length a2) (.slice a3 p1.length a4)) := B3.out.keep hb B3.out.lt
  replace D8 : Hid (DOwn w4 v1.heap.size b1 b2 b3 b4 s2 p2) := D8.out.below hb
  replace K8 : Hid (KRow w4 (some ⟨GG, 0, none⟩) kt) := K8.out.below hb
  replace L8 : Hid (SRow w4 al ts) := L8.out.below hb
  replace B8 : Hid (Bx w4 X8 (.slice b1 s2.length b2) (.slice b3 p2.length b4)) := B8.out.keep hb B8.out.lt
  replace S3 : Hid (SRow w4 c1 s3) := S3.out.below hb
  replace P3 : Hid (PRow w4 c3 p3) := P3.out.below hb
  replace S4 : Hid (SRow w4 d1 s4) := S4.out.below hb
  replace P4 : Hid (PRow w4 d3 p4) := P4.out.below hb
  replace B13 : Hid (Bx w4 X13 (.slice c1 s3.length c2) (.slice c3 p3.length c4)) := B13.out.keep hb B13.out.lt
  replace B14 : Hid (Bx w4 (X13 + 1) (.slice d1 s4.length d2) (.slice d3 p4.length d4)) := B14.out.keep hb B14.out.lt
  have S5 : Hid (SRow w4 e1 s5) := h1
  have P5 : Hid (PRow w4 e3 p5) := h2
  have S6 : Hid (SRow w4 f1 s6) := h3
  have P6 : Hid (PRow w4 f3 p6) := h4
  have S7 : Hid (SRow w4 g1 s7) := h5
  have P7 : Hid (PRow w4 g3 p7) := h6
  obtain ⟨lg, hlg⟩ : ∃ lg, logB s7 p7 = lg := ⟨_, rfl⟩
  obtain ⟨bu, hbu⟩ : ∃ b : Bool, b = true ↔ txOf s7 p7 = txOf s5 p5 := ⟨decide _, decide_eq_true_iff⟩
  obtain ⟨bv, hbv⟩ : ∃ b : Bool, b = true ↔ txOf s7 p7 = txOf s6 p6 := ⟨decide _, decide_eq_true_iff⟩
  obtain ⟨R, hR⟩ : ∃ R, R = (lg && (bu || bv)) := ⟨_, rfl⟩
  have HR16 : Hid (∀ (W : World) (z1 : Option Addr) (z2 : Nat) (z3 : Option Addr) (z4 : Nat) (q1 : Option Addr) (q2 : Nat) (q3 : Option Addr) (q4 : Nat) (k1 : Option Addr) (k2 : Nat) (k3 : Option Addr) (k4 : Nat), SRow W z1 s5 → PRow W z3 p5 → SRow W q1 s6 → PRow W q3 p6 → SRow W k1 s7 → PRow W k3 p7 → Calls Tryz.prog 16 #[.agg #[.slice z1 s5.length z2, .slice z3 p5.length z4], .agg #[.slice q1 s6.length q2, .slice q3 p6.length q4], .agg #[.slice k1 s7.length k2, .slice k3 p7.length k4]] W fun e w' => e = .returned (.bool R) ∧ Below W.heap.size W w') := fun W z1 z2 z3 z4 q1 q2 q3 q4 k1 k2 k3 k4 g1 g2 g3 g4 g5 g6 => by
   rw [hR]
   exact icrg16 s5 p5 s6 p6 s7 p7 z1 z2 z3 z4 q1 q2 q3 q4 k1 k2 k3 k4 hI5 hI6 hI7 lg bu bv hlg hbu hbv W g1 g2 g3 g4 g5 g6
  have HR17 : Hid (∀ (W : World) (z1 : Option Addr) (z2 : Nat) (z3 : Option Addr) (z4 : Nat) (q1 : Option Addr) (q2 : Nat) (q3 : Option Addr) (q4 : Nat) (k1 : Option Addr) (k2 : Nat) (k3 : Option Addr) (k4 : Nat), SRow W z1 s5 → PRow W z3 p5 → SRow W q1 s6 → PRow W q3 p6 → SRow W k1 s7 → PRow W k3 p7 → Calls Tryz.prog 17 #[.agg #[.slice z1 s5.length z2, .slice z3 p5.length z4], .agg #[.slice q1 s6.length q2, .slice q3 p6.length q4], .agg #[.slice k1 s7.length k2, .slice k3 p7.length k4]] W fun e w' => e = .returned (.bool R) ∧ Below W.heap.size W w') := fun W z1 z2 z3 z4 q1 q2 q3 q4 k1 k2 k3 k4 g1 g2 g3 g4 g5 g6 => by
   rw [hR]
   exact scrg17 s5 p5 s6 p6 s7 p7 z1 z2 z3 z4 q1 q2 q3 q4 k1 k2 k3 k4 hI5 hI6 hI7 lg bu bv hlg hbu hbv W g1 g2 g3 g4 g5 g6
  clear hI5 hI6 hI7 h1 h2 h3 h4 h5 h6 hb hlg hbu hbv hR HD8
  have hba : Below w4.heap.size w4 (w4.alloc (.cells #[.slice e1 s5.length e2, .slice e3 p5.length e4] 27)) := (belowRefl w4).alloc (Nat.le_refl _) _
  replace HB : Hid (Below w.heap.size w (w4.alloc (.cells #[.slice e1 s5.length e2, .slice e3 p5.length e4] 27))) := HB.out.trans (hba.mono HB.out.size)
  replace D3 : Hid (DOwn (w4.alloc (.cells #[.slice e1 s5.length e2, .slice e3 p5.length e4] 27)) w.heap.size a1 a2 a3 a4 s1 p1) := D3.out.below hba
  replace K3 : Hid (KRow (w4.alloc (.cells #[.slice e1 s5.length e2, .slice e3 p5.length e4] 27)) (some ⟨G, 0, none⟩) ks) := K3.out.below hba
  replace B3 : Hid (Bx (w4.alloc (.cells #[.slice e1 s5.length e2, .slice e3 p5.length e4] 27)) X3 (.slice a1 s1.length a2) (.slice a3 p1.length a4)) := B3.out.keep hba B3.out.lt
  replace D8 : Hid (DOwn (w4.alloc (.cells #[.slice e1 s5.length e2, .slice e3 p5.length e4] 27)) v1.heap.size b1 b2 b3 b4 s2 p2) := D8.out.below hba
  replace K8 : Hid (KRow (w4.alloc (.cells #[.slice e1 s5.length e2, .slice e3 p5.length e4] 27)) (some ⟨GG, 0, none⟩) kt) := K8.out.below hba
  replace L8 : Hid (SRow (w4.alloc (.cells #[.slice e1 s5.length e2, .slice e3 p5.length e4] 27)) al ts) := L8.out.below hba
  replace B8 : Hid (Bx (w4.alloc (.cells #[.slice e1 s5.length e2, .slice e3 p5.length e4] 27)) X8 (.slice b1 s2.length b2) (.slice b3 p2.length b4)) := B8.out.keep hba B8.out.lt
  replace S3 : Hid (SRow (w4.alloc (.cells #[.slice e1 s5.length e2, .slice e3 p5.length e4] 27)) c1 s3) := S3.out.below hba
  replace P3 : Hid (PRow (w4.alloc (.cells #[.slice e1 s5.length e2, .slice e3 p5.length e4] 27)) c3 p3) := P3.out.below hba
  replace S4 : Hid (SRow (w4.alloc (.cells #[.slice e1 s5.length e2, .slice e3 p5.length e4] 27)) d1 s4) := S4.out.below hba
  replace P4 : Hid (PRow (w4.alloc (.cells #[.slice e1 s5.length e2, .slice e3 p5.length e4] 27)) d3 p4) := P4.out.below hba
  replace B13 : Hid (Bx (w4.alloc (.cells #[.slice e1 s5.length e2, .slice e3 p5.length e4] 27)) X13 (.slice c1 s3.length c2) (.slice c3 p3.length c4)) := B13.out.keep hba B13.out.lt
  replace B14 : Hid (Bx (w4.alloc (.cells #[.slice e1 s5.length e2, .slice e3 p5.length e4] 27)) (X13 + 1) (.slice d1 s4.length d2) (.slice d3 p4.length d4)) := B14.out.keep hba B14.out.lt
  replace S5 : Hid (SRow (w4.alloc (.cells #[.slice e1 s5.length e2, .slice e3 p5.length e4] 27)) e1 s5) := S5.out.below hba
  replace P5 : Hid (PRow (w4.alloc (.cells #[.slice e1 s5.length e2, .slice e3 p5.length e4] 27)) e3 p5) := P5.out.below hba
  replace S6 : Hid (SRow (w4.alloc (.cells #[.slice e1 s5.length e2, .slice e3 p5.length e4] 27)) f1 s6) := S6.out.below hba
  replace P6 : Hid (PRow (w4.alloc (.cells #[.slice e1 s5.length e2, .slice e3 p5.length e4] 27)) f3 p6) := P6.out.below hba
  replace S7 : Hid (SRow (w4.alloc (.cells #[.slice e1 s5.length e2, .slice e3 p5.length e4] 27)) g1 s7) := S7.out.below hba
  replace P7 : Hid (PRow (w4.alloc (.cells #[.slice e1 s5.length e2, .slice e3 p5.length e4] 27)) g3 p7) := P7.out.below hba
  have B15 : Hid (Bx (w4.alloc (.cells #[.slice e1 s5.length e2, .slice e3 p5.length e4] 27)) w4.heap.size (.slice e1 s5.length e2) (.slice e3 p5.length e4)) := Bx.new w4 _ _ 27
  clear hba
  have hba : Below (w4.alloc (.cells #[.slice e1 s5.length e2, .slice e3 p5.length e4] 27)).heap.size (w4.alloc (.cells #[.slice e1 s5.length e2, .slice e3 p5.length e4] 27)) ((w4.alloc (.cells #[.slice e1 s5.length e2, .slice e3 p5.length e4] 27)).alloc (.cells #[.slice f1 s6.length f2, .slice f3 p6.length f4] 27)) := (belowRefl (w4.alloc (.cells #[.slice e1 s5.length e2, .slice e3 p5.length e4] 27))).alloc (Nat.le_refl _) _
  replace HB : Hid (Below w.heap.size w ((w4.alloc (.cells #[.slice e1 s5.length e2, .slice e3 p5.length e4] 27)).alloc (.cells #[.slice f1 s6.length f2, .slice f3 p6.length f4] 27))) := HB.out.trans (hba.mono HB.out.size)
  replace D3 : Hid (DOwn ((w4.alloc (.cells #[.slice e1 s5.length e2, .slice e3 p5.length e4] 27)).alloc (.cells #[.slice f1 s6.length f2, .slice f3 p6.length f4] 27)) w.heap.size a1 a2 a3 a4 s1 p1) := D3.out.below hba
  replace K3 : Hid (KRow ((w4.alloc (.cells #[.slice e1 s5.length e2, .slice e3 p5.length e4] 27)).alloc (.cells #[.slice f1 s6.length f2, .slice f3 p6.length f4] 27)) (some ⟨G, 0, none⟩) ks) := K3.out.below hba
  replace B3 : Hid (Bx ((w4.alloc (.cells #[.slice e1 s5.length e2, .slice e3 p5.length e4] 27)).alloc (.cells #[.slice f1 s6.length f2, .slice f3 p6.length f4] 27)) X3 (.slice a1 s1.length a2) (.slice a3 p1.length a4)) := B3.out.keep hba B3.out.lt
  replace D8 : Hid (DOwn ((w4.alloc (.cells #[.slice e1 s5.length e2, .slice e3 p5.length e4] 27)).alloc (.cells #[.slice f1 s6.length f2, .slice f3 p6.length f4] 27)) v1.heap.size b1 b2 b3 b4 s2 p2) := D8.out.below hba
  replace K8 : Hid (KRow ((w4.alloc (.cells #[.slice e1 s5.length e2, .slice e3 p5.length e4] 27)).alloc (.cells #[.slice f1 s6.length f2, .slice f3 p6.length f4] 27)) (some ⟨GG, 0, none⟩) kt) := K8.out.below hba
  replace L8 : Hid (SRow ((w4.alloc (.cells #[.slice e1 s5.length e2, .slice e3 p5.length e4] 27)).alloc (.cells #[.slice f1 s6.length f2, .slice f3 p6.length f4] 27)) al ts) := L8.out.below hba
  replace B8 : Hid (Bx ((w4.alloc (.cells #[.slice e1 s5.length e2, .slice e3 p5.length e4] 27)).alloc (.cells #[.slice f1 s6.length f2, .slice f3 p6.length f4] 27)) X8 (.slice b1 s2.length b2) (.slice b3 p2.length b4)) := B8.out.keep hba B8.out.lt
  replace S3 : Hid (SRow ((w4.alloc (.cells #[.slice e1 s5.length e2, .slice e3 p5.length e4] 27)).alloc (.cells #[.slice f1 s6.length f2, .slice f3 p6.length f4] 27)) c1 s3) := S3.out.below hba
  replace P3 : Hid (PRow ((w4.alloc (.cells #[.slice e1 s5.length e2, .slice e3 p5.length e4] 27)).alloc (.cells #[.slice f1 s6.length f2, .slice f3 p6.length f4] 27)) c3 p3) := P3.out.below hba
  replace S4 : Hid (SRow ((w4.alloc (.cells #[.slice e1 s5.length e2, .slice e3 p5.length e4] 27)).alloc (.cells #[.slice f1 s6.length f2, .slice f3 p6.length f4] 27)) d1 s4) := S4.out.below hba
  replace P4 : Hid (PRow ((w4.alloc (.cells #[.slice e1 s5.length e2, .slice e3 p5.length e4] 27)).alloc (.cells #[.slice f1 s6.length f2, .slice f3 p6.length f4] 27)) d3 p4) := P4.out.below hba
  replace B13 : Hid (Bx ((w4.alloc (.cells #[.slice e1 s5.length e2, .slice e3 p5.length e4] 27)).alloc (.cells #[.slice f1 s6.length f2, .slice f3 p6.length f4] 27)) X13 (.slice c1 s3.length c2) (.slice c3 p3.length c4)) := B13.out.keep hba B13.out.lt
  replace B14 : Hid (Bx ((w4.alloc (.cells #[.slice e1 s5.length e2, .slice e3 p5.length e4] 27)).alloc (.cells #[.slice f1 s6.length f2, .slice f3 p6.length f4] 27)) (X13 + 1) (.slice d1 s4.length d2) (.slice d3 p4.length d4)) := B14.out.keep hba B14.out.lt
  replace S5 : Hid (SRow ((w4.alloc (.cells #[.slice e1 s5.length e2, .slice e3 p5.length e4] 27)).alloc (.cells #[.slice f1 s6.length f2, .slice f3 p6.length f4] 27)) e1 s5) := S5.out.below hba
  replace P5 : Hid (PRow ((w4.alloc (.cells #[.slice e1 s5.length e2, .slice e3 p5.length e4] 27)).alloc (.cells #[.slice f1 s6.length f2, .slice f3 p6.length f4] 27)) e3 p5) := P5.out.below hba
  replace S6 : Hid (SRow ((w4.alloc (.cells #[.slice e1 s5.length e2, .slice e3 p5.length e4] 27)).alloc (.cells #[.slice f1 s6.length f2, .slice f3 p6.length f4] 27)) f1 s6) := S6.out.below hba
  replace P6 : Hid (PRow ((w4.alloc (.cells #[.slice e1 s5.length e2, .slice e3 p5.length e4] 27)).alloc (.cells #[.slice f1 s6.length f2, .slice f3 p6.length f4] 27)) f3 p6) := P6.out.below hba
  replace S7 : Hid (SRow ((w4.alloc (.cells #[.slice e1 s5.length e2, .slice e3 p5.length e4] 27)).alloc (.cells #[.slice f1 s6.length f2, .slice f3 p6.length f4] 27)) g1 s7) := S7.out.below hba
  replace P7 : Hid (PRow ((w4.alloc (.cells #[.slice e1 s5.length e2, .slice e3 p5.length e4] 27)).alloc (.cells #[.slice f1 s6.length f2, .slice f3 p6.length f4] 27)) g3 p7) := P7.out.below hba
  replace B15 : Hid (Bx ((w4.alloc (.cells #[.slice e1 s5.length e2, .slice e3 p5.length e4] 27)).alloc (.cells #[.slice f1 s6.length f2, .slice f3 p6.length f4] 27)) w4.heap.size (.slice e1 s5.length e2) (.slice e3 p5.length e4)) := B15.out.keep hba B15.out.lt
  have B16 : Hid (Bx ((w4.alloc (.cells #[.slice e1 s5.length e2, .slice e3 p5.length e4] 27)).alloc (.cells #[.slice f1 s6.length f2, .slice f3 p6.length f4] 27)) (w4.heap.size + 1) (.slice f1 s6.length f2) (.slice f3 p6.length f4)) := by
   have h := Bx.new (w4.alloc (.cells #[.slice e1 s5.length e2, .slice e3 p5.length e4] 27)) (.slice f1 s6.length f2) (.slice f3 p6.length f4) 27
   rw [World.size_alloc] at h
   exact h
  clear hba
  have hba : Below ((w4.alloc (.cells #[.slice e1 s5.length e2, .slice e3 p5.length e4] 27)).alloc (.cells #[.slice f1 s6.length f2, .slice f3 p6.length f4] 27)).heap.size ((w4.alloc (.cells #[.slice e1 s5.length e2, .slice e3 p5.length e4] 27)).alloc (.cells #[.slice f1 s6.length f2, .slice f3 p6.length f4] 27)) (((w4.alloc (.cells #[.slice e1 s5.length e2, .slice e3 p5.length e4] 27)).alloc (.cells #[.slice f1 s6.length f2, .slice f3 p6.length f4] 27)).alloc (.cells #[.slice g1 s7.length g2, .slice g3 p7.length g4] 27)) := (belowRefl ((w4.alloc (.cells #[.slice e1 s5.length e2, .slice e3 p5.length e4] 27)).alloc (.cells #[.slice f1 s6.length f2, .slice f3 p6.length f4] 27))).alloc (Nat.le_refl _) _
  replace HB : Hid (Below w.heap.size w (((w4.alloc (.cells #[.slice e1 s5.length e2, .slice e3 p5.length e4] 27)).alloc (.cells #[.slice f1 s6.length f2, .slice f3 p6.length f4] 27)).alloc (.cells #[.slice g1 s7.length g2, .slice g3 p7.length g4] 27))) := HB.out.trans (hba.mono HB.out.size)
  replace D3 : Hid (DOwn (((w4.alloc (.cells #[.slice e1 s5.length e2, .slice e3 p5.length e4] 27)).alloc (.cells #[.slice f1 s6.length f2, .slice f3 p6.length f4] 27)).alloc (.cells #[.slice g1 s7.length g2, .slice g3 p7.length g4] 27)) w.heap.size a1 a2 a3 a4 s1 p1) := D3.out.below hba
  replace K3 : Hid (KRow (((w4.alloc (.cells #[.slice e1 s5.length e2, .slice e3 p5.length e4] 27)).alloc (.cells #[.slice f1 s6.length f2, .slice f3 p6.length f4] 27)).alloc (.cells #[.slice g1 s7.length g2, .slice g3 p7.length g4] 27)) (some ⟨G, 0, none⟩) ks) := K3.out.below hba
  replace B3 : Hid (Bx (((w4.alloc (.cells #[.slice e1 s5.length e2, .slice e3 p5.length e4] 27)).alloc (.cells #[.slice f1 s6.length f2, .slice f3 p6.length f4] 27)).alloc (.cells #[.slice g1 s7.length g2, .slice g3 p7.length g4] 27)) X3 (.slice a1 s1.length a2) (.slice a3 p1.length a4)) := B3.out.keep hba B3.out.lt
  replace D8 : Hid (DOwn (((w4.alloc (.cells #[.slice e1 s5.length e2, .slice e3 p5.length e4] 27)).alloc (.cells #[.slice f1 s6.length f2, .slice f3 p6.length f4] 27)).alloc (.cells #[.slice g1 s7.length g2, .slice g3 p7.length g4] 27)) v1.heap.size b1 b2 b3 b4 s2 p2) := D8.out.below hba
  replace K8 : Hid (KRow (((w4.alloc (.cells #[.slice e1 s5.length e2, .slice e3 p5.length e4] 27)).alloc (.cells #[.slice f1 s6.length f2, .slice f3 p6.length f4] 27)).alloc (.cells #[.slice g1 s7.length g2, .slice g3 p7.length g4] 27)) (some ⟨GG, 0, none⟩) kt) := K8.out.below hba
  replace L8 : Hid (SRow (((w4.alloc (.cells #[.slice e1 s5.length e2, .slice e3 p5.length e4] 27)).alloc (.cells #[.slice f1 s6.length f2, .slice f3 p6.length f4] 27)).alloc (.cells #[.slice g1 s7.length g2, .slice g3 p7.length g4] 27)) al ts) := L8.out.below hba
  replace B8 : Hid (Bx (((w4.alloc (.cells #[.slice e1 s5.length e2, .slice e3 p5.length e4] 27)).alloc (.cells #[.slice f1 s6.length f2, .slice f3 p6.length f4] 27)).alloc (.cells #[.slice g1 s7.length g2, .slice g3 p7.length g4] 27)) X8 (.slice b1 s2.length b2) (.slice b3 p2.length b4)) := B8.out.keep hba B8.out.lt
  replace S3 : Hid (SRow (((w4.alloc (.cells #[.slice e1 s5.length e2, .slice e3 p5.length e4] 27)).alloc (.cells #[.slice f1 s6.length f2, .slice f3 p6.length f4] 27)).alloc (.cells #[.slice g1 s7.length g2, .slice g3 p7.length g4] 27)) c1 s3) := S3.out.below hba
  replace P3 : Hid (PRow (((w4.alloc (.cells #[.slice e1 s5.length e2, .slice e3 p5.length e4] 27)).alloc (.cells #[.slice f1 s6.length f2, .slice f3 p6.length f4] 27)).alloc (.cells #[.slice g1 s7.length g2, .slice g3 p7.length g4] 27)) c3 p3) := P3.out.below hba
  replace S4 : Hid (SRow (((w4.alloc (.cells #[.slice e1 s5.length e2, .slice e3 p5.length e4] 27)).alloc (.cells #[.slice f1 s6.length f2, .slice f3 p6.length f4] 27)).alloc (.cells #[.slice g1 s7.length g2, .slice g3 p7.length g4] 27)) d1 s4) := S4.out.below hba
  replace P4 : Hid (PRow (((w4.alloc (.cells #[.slice e1 s5.length e2, .slice e3 p5.length e4] 27)).alloc (.cells #[.slice f1 s6.length f2, .slice f3 p6.length f4] 27)).alloc (.cells #[.slice g1 s7.length g2, .slice g3 p7.length g4] 27)) d3 p4) := P4.out.below hba
  replace B13 : Hid (Bx (((w4.alloc (.cells #[.slice e1 s5.length e2, .slice e3 p5.length e4] 27)).alloc (.cells #[.slice f1 s6.length f2, .slice f3 p6.length f4] 27)).alloc (.cells #[.slice g1 s7.length g2, .slice g3 p7.length g4] 27)) X13 (.slice c1 s3.length c2) (.slice c3 p3.length c4)) := B13.out.keep hba B13.out.lt
  replace B14 : Hid (Bx (((w4.alloc (.cells #[.slice e1 s5.length e2, .slice e3 p5.length e4] 27)).alloc (.cells #[.slice f1 s6.length f2, .slice f3 p6.length f4] 27)).alloc (.cells #[.slice g1 s7.length g2, .slice g3 p7.length g4] 27)) (X13 + 1) (.slice d1 s4.length d2) (.slice d3 p4.length d4)) := B14.out.keep hba B14.out.lt
  replace S5 : Hid (SRow (((w4.alloc (.cells #[.slice e1 s5.length e2, .slice e3 p5.length e4] 27)).alloc (.cells #[.slice f1 s6.length f2, .slice f3 p6.length f4] 27)).alloc (.cells #[.slice g1 s7.length g2, .slice g3 p7.length g4] 27)) e1 s5) := S5.out.below hba
  replace P5 : Hid (PRow (((w4.alloc (.cells #[.slice e1 s5.length e2, .slice e3 p5.length e4] 27)).alloc (.cells #[.slice f1 s6.length f2, .slice f3 p6.length f4] 27)).alloc (.cells #[.slice g1 s7.length g2, .slice g3 p7.length g4] 27)) e3 p5) := P5.out.below hba
  replace S6 : Hid (SRow (((w4.alloc (.cells #[.slice e1 s5.length e2, .slice e3 p5.length e4] 27)).alloc (.cells #[.slice f1 s6.length f2, .slice f3 p6.length f4] 27)).alloc (.cells #[.slice g1 s7.length g2, .slice g3 p7.length g4] 27)) f1 s6) := S6.out.below hba
  replace P6 : Hid (PRow (((w4.alloc (.cells #[.slice e1 s5.length e2, .slice e3 p5.length e4] 27)).alloc (.cells #[.slice f1 s6.length f2, .slice f3 p6.length f4] 27)).alloc (.cells #[.slice g1 s7.length g2, .slice g3 p7.length g4] 27)) f3 p6) := P6.out.below hba
  replace S7 : Hid (SRow (((w4.alloc (.cells #[.slice e1 s5.length e2, .slice e3 p5.length e4] 27)).alloc (.cells #[.slice f1 s6.length f2, .slice f3 p6.length f4] 27)).alloc (.cells #[.slice g1 s7.length g2, .slice g3 p7.length g4] 27)) g1 s7) := S7.out.below hba
  replace P7 : Hid (PRow (((w4.alloc (.cells #[.slice e1 s5.length e2, .slice e3 p5.length e4] 27)).alloc (.cells #[.slice f1 s6.length f2, .slice f3 p6.length f4] 27)).alloc (.cells #[.slice g1 s7.length g2, .slice g3 p7.length g4] 27)) g3 p7) := P7.out.below hba
  replace B15 : Hid (Bx (((w4.alloc (.cells #[.slice e1 s5.length e2, .slice e3 p5.length e4] 27)).alloc (.cells #[.slice f1 s6.length f2, .slice f3 p6.length f4] 27)).alloc (.cells #[.slice g1 s7.length g2, .slice g3 p7.length g4] 27)) w4.heap.size (.slice e1 s5.length e2) (.slice e3 p5.length e4)) := B15.out.keep hba B15.out.lt
  replace B16 : Hid (Bx (((w4.alloc (.cells #[.slice e1 s5.length e2, .slice e3 p5.length e4] 27)).alloc (.cells #[.slice f1 s6.length f2, .slice f3 p6.length f4] 27)).alloc (.cells #[.slice g1 s7.length g2, .slice g3 p7.length g4] 27)) (w4.heap.size + 1) (.slice f1 s6.length f2) (.slice f3 p6.length f4)) := B16.out.keep hba B16.out.lt
  have B17 : Hid (Bx (((w4.alloc (.cells #[.slice e1 s5.length e2, .slice e3 p5.length e4] 27)).alloc (.cells #[.slice f1 s6.length f2, .slice f3 p6.length f4] 27)).alloc (.cells #[.slice g1 s7.length g2, .slice g3 p7.length g4] 27)) (w4.heap.size + 1 + 1) (.slice g1 s7.length g2) (.slice g3 p7.length g4)) := by
   have h := Bx.new ((w4.alloc (.cells #[.slice e1 s5.length e2, .slice e3 p5.length e4] 27)).alloc (.cells #[.slice f1 s6.length f2, .slice f3 p6.length f4] 27)) (.slice g1 s7.length g2) (.slice g3 p7.length g4) 27
   rw [World.size_alloc, World.size_alloc] at h
   exact h
  clear hba
  go_upto_region 7 with fail
  generalize (((w4.alloc (.cells #[.slice e1 s5.length e2, .slice e3 p5.length e4] 27)).alloc (.cells #[.slice f1 s6.length f2, .slice f3 p6.length f4] 27)).alloc (.cells #[.slice g1 s7.length g2, .slice g3 p7.length g4] 27)) = v4 at *
  generalize w4.heap.size = X15 at *
  have hRR : (R == R) = true := by cases R <;> rfl
  have hbb : (bs == bs) = true := by cases bs <;> rfl
  try simp only [List.append_eq, List.cons_append, List.nil_append]
  refine wp_region_held_drew (S := fun w' => w'.cell? ⟨X3, 0, none⟩ = some (.slice a1 s1.length a2) ∧ w'.cell? ⟨X3, 1, none⟩ = some (.slice a3 p1.length a4) ∧ w'.cell? ⟨X8, 0, none⟩ = some (.slice b1 s2.length b2) ∧ w'.cell? ⟨X8, 1, none⟩ = some (.slice b3 p2.length b4) ∧ w'.cell? ⟨X13, 0, none⟩ = some (.slice c1 s3.length c2) ∧ w'.cell? ⟨X13, 1, none⟩ = some (.slice c3 p3.length c4) ∧ w'.cell? ⟨(X13 + 1), 0, none⟩ = some (.slice d1 s4.length d2) ∧ w'.cell? ⟨(X13 + 1), 1, none⟩ = some (.slice d3 p4.length d4) ∧ w'.cell? ⟨X15, 0, none⟩ = some (.slice e1 s5.length e2) ∧ w'.cell? ⟨X15, 1, none⟩ = some (.slice e3 p5.length e4) ∧ w'.cell? ⟨(X15 + 1), 0, none⟩ = some (.slice f1 s6.length f2) ∧ w'.cell? ⟨(X15 + 1), 1, none⟩ = some (.slice f3 p6.length f4) ∧ w'.cell? ⟨(X15 + 1 + 1), 0, none⟩ = some (.slice g1 s7.length g2) ∧ w'.cell? ⟨(X15 + 1 + 1), 1, none⟩ = some (.slice g3 p7.length g4)) (by kernel_rfl) ⟨B3.out.c0, B3.out.c1, B8.out.c0, B8.out.c1, B13.out.c0, B13.out.c1, B14.out.c0, B14.out.c1, B15.out.c0, B15.out.c1, B16.out.c0, B16.out.c1, B17.out.c0, B17.out.c1⟩ (fun hHeld => ?_)
  (refine tk 0 ?_ rfl (Or.inl ⟨by rfl, ?_⟩) ?_; rotate_left; (focus (intro w h; (try dsimp only at h); go_simp; (try with_reducible rfl))); simp only [Act.put, tA, tB, tD, tE, tF])
  (refine tk 1 ?_ rfl (Or.inl ⟨by rfl, ?_⟩) ?_; rotate_left; (focus (intro w h; (try dsimp only at h); go_simp; (try with_reducible rfl))); simp only [Act.put, tA, tB, tC, tD, tE, tF])
  (refine tk 2 ?_ rfl (Or.inl ⟨by rfl, ?_⟩) ?_; rotate_left; (focus (intro w h; (try dsimp only at h); go_simp; (try with_reducible rfl))); simp only [Act.put, tA, tB, tC, tD, tE, tF])
  (refine tk 3 ?_ rfl (Or.inl ⟨by rfl, ?_⟩) ?_; rotate_left; (focus (intro w h; (try dsimp only at h); go_simp; (try with_reducible rfl))); simp only [Act.put, tA, tB, tC, tD, tE, tF])
  (refine tk 4 ?_ rfl (Or.inl ⟨by rfl, ?_⟩) ?_; rotate_left; (focus (intro w h; (try dsimp only at h); go_simp; (try with_reducible rfl))); simp only [Act.put, tA, tB, tC, tD, tE, tF])
  (refine tk 6 ?_ rfl (Or.inl ⟨by rfl, ?_⟩) ?_; rotate_left; (focus (intro w h; (try dsimp only at h); go_simp; (try with_reducible rfl))); simp only [Act.put, tA, tB, tC, tD, tE, tF])
  (refine tk 7 ?_ rfl (Or.inl ⟨by rfl, ?_⟩) ?_; rotate_left; (focus (intro w h; (try dsimp only at h); go_simp; (try with_reducible rfl))); simp only [Act.put, tA, tB, tC, tD, tE, tF])
  (refine tk 8 ?_ rfl (Or.inl ⟨by rfl, ?_⟩) ?_; rotate_left; (focus (intro w h; (try dsimp only at h); go_simp; (try with_reducible rfl))); simp only [Act.put, tA, tB, tC, tD, tE, tF])
  (refine tk 9 ?_ rfl (Or.inl ⟨by rfl, ?_⟩) ?_; rotate_left; (focus (intro w h; (try dsimp only at h); go_simp; (try with_reducible rfl))); simp only [Act.put, tA, tB, tC, tD, tE, tF])
  (refine tk 10 ?_ rfl (Or.inl ⟨by rfl, ?_⟩) ?_; rotate_left; (focus (intro w h; (try dsimp only at h); go_simp; (try with_reducible rfl))); simp only [Act.put, tA, tB, tC, tD, tE, tF])
  refine wpAnyH_ready (rs := [5]) (by kernel_rfl) (by simp) ?_
  refine AllReadyH.cons rfl (fun K hK => ?_) AllReadyH.nil
  go_simp
  go_wp2_with fail
  refine (HA10.out _ _ _ _ _ (D3.out.s.srow.below (belowRefl _).drew) (D3.out.p.prow.below (belowRefl _).drew) (K3.out.below (belowRefl _).drew)).mono ?_
  rintro e r1 ⟨m1, m2, m3, m4, rfl, hd, hb⟩
  replace hb := undrew hb
  replace HB : Hid (Below w.heap.size w r1) := HB.out.trans (hb.mono HB.out.size)
  replace D3 : Hid (DOwn r1 w.heap.size a1 a2 a3 a4 s1 p1) := D3.out.below hb
  replace K3 : Hid (KRow r1 (some ⟨G, 0, none⟩) ks) := K3.out.below hb
  replace B3 : Hid (Bx r1 X3 (.slice a1 s1.length a2) (.slice a3 p1.length a4)) := B3.out.keep hb B3.out.lt
  replace D8 : Hid (DOwn r1 v1.heap.size b1 b2 b3 b4 s2 p2) := D8.out.below hb
  replace K8 : Hid (KRow r1 (some ⟨GG, 0, none⟩) kt) := K8.out.below hb
  replace L8 : Hid (SRow r1 al ts) := L8.out.below hb
  replace B8 : Hid (Bx r1 X8 (.slice b1 s2.length b2) (.slice b3 p2.length b4)) := B8.out.keep hb B8.out.lt
  replace S3 : Hid (SRow r1 c1 s3) := S3.out.below hb
  replace P3 : Hid (PRow r1 c3 p3) := P3.out.below hb
  replace S4 : Hid (SRow r1 d1 s4) := S4.out.below hb
  replace P4 : Hid (PRow r1 d3 p4) := P4.out.below hb
  replace B13 : Hid (Bx r1 X13 (.slice c1 s3.length c2) (.slice c3 p3.length c4)) := B13.out.keep hb B13.out.lt
  replace B14 : Hid (Bx r1 (X13 + 1) (.slice d1 s4.length d2) (.slice d3 p4.length d4)) := B14.out.keep hb B14.out.lt
  replace S5 : Hid (SRow r1 e1 s5) := S5.out.below hb
  replace P5 : Hid (PRow r1 e3 p5) := P5.out.below hb
  replace S6 : Hid (SRow r1 f1 s6) := S6.out.below hb
  replace P6 : Hid (PRow r1 f3 p6) := P6.out.below hb
  replace S7 : Hid (SRow r1 g1 s7) := S7.out.below hb
  replace P7 : Hid (PRow r1 g3 p7) := P7.out.below hb
  replace B15 : Hid (Bx r1 X15 (.slice e1 s5.length e2) (.slice e3 p5.length e4)) := B15.out.keep hb B15.out.lt
  replace B16 : Hid (Bx r1 (X15 + 1) (.slice f1 s6.length f2) (.slice f3 p6.length f4)) := B16.out.keep hb B16.out.lt
  replace B17 : Hid (Bx r1 (X15 + 1 + 1) (.slice g1 s7.length g2) (.slice g3 p7.length g4)) := B17.out.keep hb B17.out.lt
  have E1 : Hid (DOwn r1 v4.drew.heap.size m1 m2 m3 m4 CA p1) := hd
  clear hd
  go_wp2_with fail
  refine hK.out _ _ ⟨B3.out.c0, B3.out.c1, B8.out.c0, B8.out.c1, B13.out.c0, B13.out.c1, B14.out.c0, B14.out.c1, B15.out.c0, B15.out.c1, B16.out.c0, B16.out.c1, B17.out.c0, B17.out.c1⟩ (fun hHeld1 => ?_)
  clear hK K hb
  refine wpAnyH_ready (rs := [11]) (by kernel_rfl) (by simp) ?_
  refine AllReadyH.cons rfl (fun K hK => ?_) AllReadyH.nil
  go_simp
  go_wp2_with fail
  refine (HA11.out _ _ _ _ _ _ D3.out K3.out).mono ?_
  rintro e r2 ⟨n1, n2, n3, n4, rfl, hd, hb⟩
  replace HB : Hid (Below w.heap.size w r2) := HB.out.trans (hb.mono HB.out.size)
  replace D3 : Hid (DOwn r2 w.heap.size a1 a2 a3 a4 s1 p1) := D3.out.below hb
  replace K3 : Hid (KRow r2 (some ⟨G, 0, none⟩) ks) := K3.out.below hb
  replace B3 : Hid (Bx r2 X3 (.slice a1 s1.length a2) (.slice a3 p1.length a4)) := B3.out.keep hb B3.out.lt
  replace D8 : Hid (DOwn r2 v1.heap.size b1 b2 b3 b4 s2 p2) := D8.out.below hb
  replace K8 : Hid (KRow r2 (some ⟨GG, 0, none⟩) kt) := K8.out.below hb
  replace L8 : Hid (SRow r2 al ts) := L8.out.below hb
  replace B8 : Hid (Bx r2 X8 (.slice b1 s2.length b2) (.slice b3 p2.length b4)) := B8.out.keep hb B8.out.lt
  replace S3 : Hid (SRow r2 c1 s3) := S3.out.below hb
  replace P3 : Hid (PRow r2 c3 p3) := P3.out.below hb
  replace S4 : Hid (SRow r2 d1 s4) := S4.out.below hb
  replace P4 : Hid (PRow r2 d3 p4) := P4.out.below hb
  replace B13 : Hid (Bx r2 X13 (.slice c1 s3.length c2) (.slice c3 p3.length c4)) := B13.out.keep hb B13.out.lt
  replace B14 : Hid (Bx r2 (X13 + 1) (.slice d1 s4.length d2) (.slice d3 p4.length d4)) := B14.out.keep hb B14.out.lt
  replace S5 : Hid (SRow r2 e1 s5) := S5.out.below hb
  replace P5 : Hid (PRow r2 e3 p5) := P5.out.below hb
  replace S6 : Hid (SRow r2 f1 s6) := S6.out.below hb
  replace P6 : Hid (PRow r2 f3 p6) := P6.out.below hb
  replace S7 : Hid (SRow r2 g1 s7) := S7.out.below hb
  replace P7 : Hid (PRow r2 g3 p7) := P7.out.below hb
  replace B15 : Hid (Bx r2 X15 (.slice e1 s5.length e2) (.slice e3 p5.length e4)) := B15.out.keep hb B15.out.lt
  replace B16 : Hid (Bx r2 (X15 + 1) (.slice f1 s6.length f2) (.slice f3 p6.length f4)) := B16.out.keep hb B16.out.lt
  replace B17 : Hid (Bx r2 (X15 + 1 + 1) (.slice g1 s7.length g2) (.slice g3 p7.length g4)) := B17.out.keep hb B17.out.lt
  replace E1 : Hid (DOwn r2 v4.drew.heap.size m1 m2 m3 m4 CA p1) := E1.out.below hb
  have E2 : Hid (DOwn r2 r1.heap.size n1 n2 n3 n4 CA p1) := hd
  clear hd
  go_wp2_with fail
  refine hK.out _ _ ⟨B3.out.c0, B3.out.c1, B8.out.c0, B8.out.c1, B13.out.c0, B13.out.c1, B14.out.c0, B14.out.c1, B15.out.c0, B15.out.c1, B16.out.c0, B16.out.c1, B17.out.c0, B17.out.c1⟩ (fun hHeld2 => ?_)
  clear hK K hb
  refine wpAnyH_ready (rs := [12]) (by kernel_rfl) (by simp) ?_
  refine AllReadyH.cons rfl (fun K hK => ?_) AllReadyH.nil
  go_simp
  go_wp2_with fail
  refine (same21 CA p1 m1 m3 n1 n3 m2 m4 n2 n4 HLA.out.1 HLA.out.2 _ E1.out.s.srow E1.out.p.prow E2.out.s.srow E2.out.p.prow).mono ?_
  rintro e r3 ⟨rfl, hb⟩
  replace HB : Hid (Below w.heap.size w r3) := HB.out.trans (hb.mono HB.out.size)
  replace D3 : Hid (DOwn r3 w.heap.size a1 a2 a3 a4 s1 p1) := D3.out.below hb
  replace K3 : Hid (KRow r3 (some ⟨G, 0, none⟩) ks) := K3.out.below hb
  replace B3 : Hid (Bx r3 X3 (.slice a1 s1.length a2) (.slice a3 p1.length a4)) := B3.out.keep hb B3.out.lt
  replace D8 : Hid (DOwn r3 v1.heap.size b1 b2 b3 b4 s2 p2) := D8.out.below hb
  replace K8 : Hid (KRow r3 (some ⟨GG, 0, none⟩) kt) := K8.out.below hb
  replace L8 : Hid (SRow r3 al ts) := L8.out.below hb
  replace B8 : Hid (Bx r3 X8 (.slice b1 s2.length b2) (.slice b3 p2.length b4)) := B8.out.keep hb B8.out.lt
  replace S3 : Hid (SRow r3 c1 s3) := S3.out.below hb
  replace P3 : Hid (PRow r3 c3 p3) := P3.out.below hb
  replace S4 : Hid (SRow r3 d1 s4) := S4.out.below hb
  replace P4 : Hid (PRow r3 d3 p4) := P4.out.below hb
  replace B13 : Hid (Bx r3 X13 (.slice c1 s3.length c2) (.slice c3 p3.length c4)) := B13.out.keep hb B13.out.lt
  replace B14 : Hid (Bx r3 (X13 + 1) (.slice d1 s4.length d2) (.slice d3 p4.length d4)) := B14.out.keep hb B14.out.lt
  replace S5 : Hid (SRow r3 e1 s5) := S5.out.below hb
  replace P5 : Hid (PRow r3 e3 p5) := P5.out.below hb
  replace S6 : Hid (SRow r3 f1 s6) := S6.out.below hb
  replace P6 : Hid (PRow r3 f3 p6) := P6.out.below hb
  replace S7 : Hid (SRow r3 g1 s7) := S7.out.below hb
  replace P7 : Hid (PRow r3 g3 p7) := P7.out.below hb
  replace B15 : Hid (Bx r3 X15 (.slice e1 s5.length e2) (.slice e3 p5.length e4)) := B15.out.keep hb B15.out.lt
  replace B16 : Hid (Bx r3 (X15 + 1) (.slice f1 s6.length f2) (.slice f3 p6.length f4)) := B16.out.keep hb B16.out.lt
  replace B17 : Hid (Bx r3 (X15 + 1 + 1) (.slice g1 s7.length g2) (.slice g3 p7.length g4)) := B17.out.keep hb B17.out.lt
  replace E1 : Hid (DOwn r3 v4.drew.heap.size m1 m2 m3 m4 CA p1) := E1.out.below hb
  replace E2 : Hid (DOwn r3 r1.heap.size n1 n2 n3 n4 CA p1) := E2.out.below hb
  go_wp2_with fail
  refine hK.out _ _ ⟨B3.out.c0, B3.out.c1, B8.out.c0, B8.out.c1, B13.out.c0, B13.out.c1, B14.out.c0, B14.out.c1, B15.out.c0, B15.out.c1, B16.out.c0, B16.out.c1, B17.out.c0, B17.out.c1⟩ (fun hHeld3 => ?_)
  clear hK K hb
  clear E1
  clear E2
  as_aux_lemma =>
  (refine tk 13 ?_ rfl (Or.inl ⟨by rfl, ?_⟩) ?_; rotate_left; (focus (intro w h; (try dsimp only at h); go_simp; (try with_reducible rfl))); simp only [Act.put, tA, tB, tC, tD, tE, tF])
  (refine tk 14 ?_ rfl (Or.inl ⟨by rfl, ?_⟩) ?_; rotate_left; (focus (intro w h; (try dsimp only at h); go_simp; (try with_reducible rfl))); simp only [Act.put, tA, tB, tC, tD, tE, tF])
  (refine tk 15 ?_ rfl (Or.inl ⟨by rfl, ?_⟩) ?_; rotate_left; (focus (intro w h; (try dsimp only at h); go_simp; (try with_reducible rfl))); simp only [Act.put, tA, tB, tC, tD, tE, tF])
  (refine tk 16 ?_ rfl (Or.inl ⟨by rfl, ?_⟩) ?_; rotate_left; (focus (intro w h; (try dsimp only at h); go_simp; (try with_reducible rfl))); simp only [Act.put, tA, tB, tC, tD, tE, tF])
  (refine tk 17 ?_ rfl (Or.inl ⟨by rfl, ?_⟩) ?_; rotate_left; (focus (intro w h; (try dsimp only at h); go_simp; (try with_reducible rfl))); simp only [Act.put, tA, tB, tC, tD, tE, tF])
  (refine tk 18 ?_ rfl (Or.inl ⟨by rfl, ?_⟩) ?_; rotate_left; (focus (intro w h; (try dsimp only at h); go_simp; (try with_reducible rfl))); simp only [Act.put, tA, tB, tC, tD, tE, tF])
  (refine tk 20 ?_ rfl (Or.inl ⟨by rfl, ?_⟩) ?_; rotate_left; (focus (intro w h; (try dsimp only at h); go_simp; (try with_reducible rfl))); simp only [Act.put, tA, tB, tC, tD, tE, tF])
  (refine tk 21 ?_ rfl (Or.inl ⟨by rfl, ?_⟩) ?_; rotate_left; (focus (intro w h; (try dsimp only at h); go_simp; (try with_reducible rfl))); simp only [Act.put, tA, tB, tC, tD, tE, tF])
  (refine tk 22 ?_ rfl (Or.inl ⟨by rfl, ?_⟩) ?_; rotate_left; (focus (intro w h; (try dsimp only at h); go_simp; (try with_reducible rfl))); simp only [Act.put, tA, tB, tC, tD, tE, tF])
  (refine tk 23 ?_ rfl (Or.inl ⟨by rfl, ?_⟩) ?_; rotate_left; (focus (intro w h; (try dsimp only at h); go_simp; (try with_reducible rfl))); simp only [Act.put, tA, tB, tC, tD, tE, tF])
  (refine tk 24 ?_ rfl (Or.inl ⟨by rfl, ?_⟩) ?_; rotate_left; (focus (intro w h; (try dsimp only at h); go_simp; (try with_reducible rfl))); simp only [Act.put, tA, tB, tC, tD, tE, tF])
  refine wpAnyH_ready (rs := [19]) (by kernel_rfl) (by simp) ?_
  refine AllReadyH.cons rfl (fun K hK => ?_) AllReadyH.nil
  go_simp
  go_wp2_with fail
  refine (HS12.out _ _ _ _ _ D8.out.s.srow D8.out.p.prow L8.out K8.out).mono ?_
  rintro e r4 ⟨o1, o2, o3, o4, rfl, hd, hb⟩
  replace HB : Hid (Below w.heap.size w r4) := HB.out.trans (hb.mono HB.out.size)
  replace D3 : Hid (DOwn r4 w.heap.size a1 a2 a3 a4 s1 p1) := D3.out.below hb
  replace K3 : Hid (KRow r4 (some ⟨G, 0, none⟩) ks) := K3.out.below hb
  replace B3 : Hid (Bx r4 X3 (.slice a1 s1.length a2) (.slice a3 p1.length a4)) := B3.out.keep hb B3.out.lt
  replace D8 : Hid (DOwn r4 v1.heap.size b1 b2 b3 b4 s2 p2) := D8.out.below hb
  replace K8 : Hid (KRow r4 (some ⟨GG, 0, none⟩) kt) := K8.out.below hb
  replace L8 : Hid (SRow r4 al ts) := L8.out.below hb
  replace B8 : Hid (Bx r4 X8 (.slice b1 s2.length b2) (.slice b3 p2.length b4)) := B8.out.keep hb B8.out.lt
  replace S3 : Hid (SRow r4 c1 s3) := S3.out.below hb
  replace P3 : Hid (PRow r4 c3 p3) := P3.out.below hb
  replace S4 : Hid (SRow r4 d1 s4) := S4.out.below hb
  replace P4 : Hid (PRow r4 d3 p4) := P4.out.below hb
  replace B13 : Hid (Bx r4 X13 (.slice c1 s3.length c2) (.slice c3 p3.length c4)) := B13.out.keep hb B13.out.lt
  replace B14 : Hid (Bx r4 (X13 + 1) (.slice d1 s4.length d2) (.slice d3 p4.length d4)) := B14.out.keep hb B14.out.lt
  replace S5 : Hid (SRow r4 e1 s5) := S5.out.below hb
  replace P5 : Hid (PRow r4 e3 p5) := P5.out.below hb
  replace S6 : Hid (SRow r4 f1 s6) := S6.out.below hb
  replace P6 : Hid (PRow r4 f3 p6) := P6.out.below hb
  replace S7 : Hid (SRow r4 g1 s7) := S7.out.below hb
  replace P7 : Hid (PRow r4 g3 p7) := P7.out.below hb
  replace B15 : Hid (Bx r4 X15 (.slice e1 s5.length e2) (.slice e3 p5.length e4)) := B15.out.keep hb B15.out.lt
  replace B16 : Hid (Bx r4 (X15 + 1) (.slice f1 s6.length f2) (.slice f3 p6.length f4)) := B16.out.keep hb B16.out.lt
  replace B17 : Hid (Bx r4 (X15 + 1 + 1) (.slice g1 s7.length g2) (.slice g3 p7.length g4)) := B17.out.keep hb B17.out.lt
  have E3 : Hid (DOwn r4 r3.heap.size o1 o2 o3 o4 CS p2) := hd
  clear hd
  go_wp2_with fail
  refine hK.out _ _ ⟨B3.out.c0, B3.out.c1, B8.out.c0, B8.out.c1, B13.out.c0, B13.out.c1, B14.out.c0, B14.out.c1, B15.out.c0, B15.out.c1, B16.out.c0, B16.out.c1, B17.out.c0, B17.out.c1⟩ (fun hHeld4 => ?_)
  clear hK K hb
  refine wpAnyH_ready (rs := [25]) (by kernel_rfl) (by simp) ?_
  refine AllReadyH.cons rfl (fun K hK => ?_) AllReadyH.nil
  go_simp
  go_wp2_with fail
  refine (HS13.out _ _ _ _ _ _ D8.out L8.out K8.out).mono ?_
  rintro e r5 ⟨u1, u2, u3, u4, rfl, hd, hb⟩
  replace HB : Hid (Below w.heap.size w r5) := HB.out.trans (hb.mono HB.out.size)
  replace D3 : Hid (DOwn r5 w.heap.size a1 a2 a3 a4 s1 p1) := D3.out.below hb
  replace K3 : Hid (KRow r5 (some ⟨G, 0, none⟩) ks) := K3.out.below hb
  replace B3 : Hid (Bx r5 X3 (.slice a1 s1.length a2) (.slice a3 p1.length a4)) := B3.out.keep hb B3.out.lt
  replace D8 : Hid (DOwn r5 v1.heap.size b1 b2 b3 b4 s2 p2) := D8.out.below hb
  replace K8 : Hid (KRow r5 (some ⟨GG, 0, none⟩) kt) := K8.out.below hb
  replace L8 : Hid (SRow r5 al ts) := L8.out.below hb
  replace B8 : Hid (Bx r5 X8 (.slice b1 s2.length b2) (.slice b3 p2.length b4)) := B8.out.keep hb B8.out.lt
  replace S3 : Hid (SRow r5 c1 s3) := S3.out.below hb
  replace P3 : Hid (PRow r5 c3 p3) := P3.out.below hb
  replace S4 : Hid (SRow r5 d1 s4) := S4.out.below hb
  replace P4 : Hid (PRow r5 d3 p4) := P4.out.below hb
  replace B13 : Hid (Bx r5 X13 (.slice c1 s3.length c2) (.slice c3 p3.length c4)) := B13.out.keep hb B13.out.lt
  replace B14 : Hid (Bx r5 (X13 + 1) (.slice d1 s4.length d2) (.slice d3 p4.length d4)) := B14.out.keep hb B14.out.lt
  replace S5 : Hid (SRow r5 e1 s5) := S5.out.below hb
  replace P5 : Hid (PRow r5 e3 p5) := P5.out.below hb
  replace S6 : Hid (SRow r5 f1 s6) := S6.out.below hb
  replace P6 : Hid (PRow r5 f3 p6) := P6.out.below hb
  replace S7 : Hid (SRow r5 g1 s7) := S7.out.below hb
  replace P7 : Hid (PRow r5 g3 p7) := P7.out.below hb
  replace B15 : Hid (Bx r5 X15 (.slice e1 s5.length e2) (.slice e3 p5.length e4)) := B15.out.keep hb B15.out.lt
  replace B16 : Hid (Bx r5 (X15 + 1) (.slice f1 s6.length f2) (.slice f3 p6.length f4)) := B16.out.keep hb B16.out.lt
  replace B17 : Hid (Bx r5 (X15 + 1 + 1) (.slice g1 s7.length g2) (.slice g3 p7.length g4)) := B17.out.keep hb B17.out.lt
  replace E3 : Hid (DOwn r5 r3.heap.size o1 o2 o3 o4 CS p2) := E3.out.below hb
  have E4 : Hid (DOwn r5 r4.heap.size u1 u2 u3 u4 CS p2) := hd
  clear hd
  go_wp2_with fail
  refine hK.out _ _ ⟨B3.out.c0, B3.out.c1, B8.out.c0, B8.out.c1, B13.out.c0, B13.out.c1, B14.out.c0, B14.out.c1, B15.out.c0, B15.out.c1, B16.out.c0, B16.out.c1, B17.out.c0, B17.out.c1⟩ (fun hHeld5 => ?_)
  clear hK K hb
  refine wpAnyH_ready (rs := [26]) (by kernel_rfl) (by simp) ?_
  refine AllReadyH.cons rfl (fun K hK => ?_) AllReadyH.nil
  go_simp
  go_wp2_with fail
  refine (same21 CS p2 o1 o3 u1 u3 o2 o4 u2 u4 HLS.out.1 HLS.out.2 _ E3.out.s.srow E3.out.p.prow E4.out.s.srow E4.out.p.prow).mono ?_
  rintro e r6 ⟨rfl, hb⟩
  replace HB : Hid (Below w.heap.size w r6) := HB.out.trans (hb.mono HB.out.size)
  replace D3 : Hid (DOwn r6 w.heap.size a1 a2 a3 a4 s1 p1) := D3.out.below hb
  replace K3 : Hid (KRow r6 (some ⟨G, 0, none⟩) ks) := K3.out.below hb
  replace B3 : Hid (Bx r6 X3 (.slice a1 s1.length a2) (.slice a3 p1.length a4)) := B3.out.keep hb B3.out.lt
  replace D8 : Hid (DOwn r6 v1.heap.size b1 b2 b3 b4 s2 p2) := D8.out.below hb
  replace K8 : Hid (KRow r6 (some ⟨GG, 0, none⟩) kt) := K8.out.below hb
  replace L8 : Hid (SRow r6 al ts) := L8.out.below hb
  replace B8 : Hid (Bx r6 X8 (.slice b1 s2.length b2) (.slice b3 p2.length b4)) := B8.out.keep hb B8.out.lt
  replace S3 : Hid (SRow r6 c1 s3) := S3.out.below hb
  replace P3 : Hid (PRow r6 c3 p3) := P3.out.below hb
  replace S4 : Hid (SRow r6 d1 s4) := S4.out.below hb
  replace P4 : Hid (PRow r6 d3 p4) := P4.out.below hb
  replace B13 : Hid (Bx r6 X13 (.slice c1 s3.length c2) (.slice c3 p3.length c4)) := B13.out.keep hb B13.out.lt
  replace B14 : Hid (Bx r6 (X13 + 1) (.slice d1 s4.length d2) (.slice d3 p4.length d4)) := B14.out.keep hb B14.out.lt
  replace S5 : Hid (SRow r6 e1 s5) := S5.out.below hb
  replace P5 : Hid (PRow r6 e3 p5) := P5.out.below hb
  replace S6 : Hid (SRow r6 f1 s6) := S6.out.below hb
  replace P6 : Hid (PRow r6 f3 p6) := P6.out.below hb
  replace S7 : Hid (SRow r6 g1 s7) := S7.out.below hb
  replace P7 : Hid (PRow r6 g3 p7) := P7.out.below hb
  replace B15 : Hid (Bx r6 X15 (.slice e1 s5.length e2) (.slice e3 p5.length e4)) := B15.out.keep hb B15.out.lt
  replace B16 : Hid (Bx r6 (X15 + 1) (.slice f1 s6.length f2) (.slice f3 p6.length f4)) := B16.out.keep hb B16.out.lt
  replace B17 : Hid (Bx r6 (X15 + 1 + 1) (.slice g1 s7.length g2) (.slice g3 p7.length g4)) := B17.out.keep hb B17.out.lt
  replace E3 : Hid (DOwn r6 r3.heap.size o1 o2 o3 o4 CS p2) := E3.out.below hb
  replace E4 : Hid (DOwn r6 r4.heap.size u1 u2 u3 u4 CS p2) := E4.out.below hb
  go_wp2_with fail
  refine hK.out _ _ ⟨B3.out.c0, B3.out.c1, B8.out.c0, B8.out.c1, B13.out.c0, B13.out.c1, B14.out.c0, B14.out.c1, B15.out.c0, B15.out.c1, B16.out.c0, B16.out.c1, B17.out.c0, B17.out.c1⟩ (fun hHeld6 => ?_)
  clear hK K hb
  clear E3
  clear E4
  as_aux_lemma =>
  (refine tk 27 ?_ rfl (Or.inl ⟨by rfl, ?_⟩) ?_; rotate_left; (focus (intro w h; (try dsimp only at h); go_simp; (try with_reducible rfl))); simp only [Act.put, tA, tB, tC, tD, tE, tF])
  (refine tk 28 ?_ rfl (Or.inl ⟨by rfl, ?_⟩) ?_; rotate_left; (focus (intro w h; (try dsimp only at h); go_simp; (try with_reducible rfl))); simp only [Act.put, tA, tB, tC, tD, tE, tF])
  (refine tk 29 ?_ rfl (Or.inl ⟨by rfl, ?_⟩) ?_; rotate_left; (focus (intro w h; (try dsimp only at h); go_simp; (try with_reducible rfl))); simp only [Act.put, tA, tB, tC, tD, tE, tF])
  (refine tk 30 ?_ rfl (Or.inl ⟨by rfl, ?_⟩) ?_; rotate_left; (focus (intro w h; (try dsimp only at h); go_simp; (try with_reducible rfl))); simp only [Act.put, tA, tB, tC, tD, tE, tF])
  (refine tk 32 ?_ rfl (Or.inl ⟨by rfl, ?_⟩) ?_; rotate_left; (focus (intro w h; (try dsimp only at h); go_simp; (try with_reducible rfl))); simp only [Act.put, tA, tB, tC, tD, tE, tF])
  (refine tk 33 ?_ rfl (Or.inl ⟨by rfl, ?_⟩) ?_; rotate_left; (focus (intro w h; (try dsimp only at h); go_simp; (try with_reducible rfl))); simp only [Act.put, tA, tB, tC, tD, tE, tF])
  refine wpAnyH_ready (rs := [31]) (by kernel_rfl) (by simp) ?_
  refine AllReadyH.cons rfl (fun K hK => ?_) AllReadyH.nil
  go_simp
  go_wp2_with fail
  refine (HM14.out _ _ _ _ _ _ _ _ _ S3.out P3.out S4.out P4.out).mono ?_
  rintro e r7 ⟨rfl, hb⟩
  replace HB : Hid (Below w.heap.size w r7) := HB.out.trans (hb.mono HB.out.size)
  replace D3 : Hid (DOwn r7 w.heap.size a1 a2 a3 a4 s1 p1) := D3.out.below hb
  replace K3 : Hid (KRow r7 (some ⟨G, 0, none⟩) ks) := K3.out.below hb
  replace B3 : Hid (Bx r7 X3 (.slice a1 s1.length a2) (.slice a3 p1.length a4)) := B3.out.keep hb B3.out.lt
  replace D8 : Hid (DOwn r7 v1.heap.size b1 b2 b3 b4 s2 p2) := D8.out.below hb
  replace K8 : Hid (KRow r7 (some ⟨GG, 0, none⟩) kt) := K8.out.below hb
  replace L8 : Hid (SRow r7 al ts) := L8.out.below hb
  replace B8 : Hid (Bx r7 X8 (.slice b1 s2.length b2) (.slice b3 p2.length b4)) := B8.out.keep hb B8.out.lt
  replace S3 : Hid (SRow r7 c1 s3) := S3.out.below hb
  replace P3 : Hid (PRow r7 c3 p3) := P3.out.below hb
  replace S4 : Hid (SRow r7 d1 s4) := S4.out.below hb
  replace P4 : Hid (PRow r7 d3 p4) := P4.out.below hb
  replace B13 : Hid (Bx r7 X13 (.slice c1 s3.length c2) (.slice c3 p3.length c4)) := B13.out.keep hb B13.out.lt
  replace B14 : Hid (Bx r7 (X13 + 1) (.slice d1 s4.length d2) (.slice d3 p4.length d4)) := B14.out.keep hb B14.out.lt
  replace S5 : Hid (SRow r7 e1 s5) := S5.out.below hb
  replace P5 : Hid (PRow r7 e3 p5) := P5.out.below hb
  replace S6 : Hid (SRow r7 f1 s6) := S6.out.below hb
  replace P6 : Hid (PRow r7 f3 p6) := P6.out.below hb
  replace S7 : Hid (SRow r7 g1 s7) := S7.out.below hb
  replace P7 : Hid (PRow r7 g3 p7) := P7.out.below hb
  replace B15 : Hid (Bx r7 X15 (.slice e1 s5.length e2) (.slice e3 p5.length e4)) := B15.out.keep hb B15.out.lt
  replace B16 : Hid (Bx r7 (X15 + 1) (.slice f1 s6.length f2) (.slice f3 p6.length f4)) := B16.out.keep hb B16.out.lt
  replace B17 : Hid (Bx r7 (X15 + 1 + 1) (.slice g1 s7.length g2) (.slice g3 p7.length g4)) := B17.out.keep hb B17.out.lt
  go_wp2_with fail
  refine hK.out _ _ ⟨B3.out.c0, B3.out.c1, B8.out.c0, B8.out.c1, B13.out.c0, B13.out.c1, B14.out.c0, B14.out.c1, B15.out.c0, B15.out.c1, B16.out.c0, B16.out.c1, B17.out.c0, B17.out.c1⟩ (fun hHeld7 => ?_)
  clear hK K hb
  refine wpAnyH_ready (rs := [34]) (by kernel_rfl) (by simp) ?_
  refine AllReadyH.cons rfl (fun K hK => ?_) AllReadyH.nil
  go_simp
  go_wp2_with fail
  refine (HM15.out _ _ _ _ _ _ _ _ _ S3.out P3.out S4.out P4.out).mono ?_
  rintro e r8 ⟨rfl, hb⟩
  replace HB : Hid (Below w.heap.size w r8) := HB.out.trans (hb.mono HB.out.size)
  replace D3 : Hid (DOwn r8 w.heap.size a1 a2 a3 a4 s1 p1) := D3.out.below hb
  replace K3 : Hid (KRow r8 (some ⟨G, 0, none⟩) ks) := K3.out.below hb
  replace B3 : Hid (Bx r8 X3 (.slice a1 s1.length a2) (.slice a3 p1.length a4)) := B3.out.keep hb B3.out.lt
  replace D8 : Hid (DOwn r8 v1.heap.size b1 b2 b3 b4 s2 p2) := D8.out.below hb
  replace K8 : Hid (KRow r8 (some ⟨GG, 0, none⟩) kt) := K8.out.below hb
  replace L8 : Hid (SRow r8 al ts) := L8.out.below hb
  replace B8 : Hid (Bx r8 X8 (.slice b1 s2.length b2) (.slice b3 p2.length b4)) := B8.out.keep hb B8.out.lt
  replace S3 : Hid (SRow r8 c1 s3) := S3.out.below hb
  replace P3 : Hid (PRow r8 c3 p3) := P3.out.below hb
  replace S4 : Hid (SRow r8 d1 s4) := S4.out.below hb
  replace P4 : Hid (PRow r8 d3 p4) := P4.out.below hb
  replace B13 : Hid (Bx r8 X13 (.slice c1 s3.length c2) (.slice c3 p3.length c4)) := B13.out.keep hb B13.out.lt
  replace B14 : Hid (Bx r8 (X13 + 1) (.slice d1 s4.length d2) (.slice d3 p4.length d4)) := B14.out.keep hb B14.out.lt
  replace S5 : Hid (SRow r8 e1 s5) := S5.out.below hb
  replace P5 : Hid (PRow r8 e3 p5) := P5.out.below hb
  replace S6 : Hid (SRow r8 f1 s6) := S6.out.below hb
  replace P6 : Hid (PRow r8 f3 p6) := P6.out.below hb
  replace S7 : Hid (SRow r8 g1 s7) := S7.out.below hb
  replace P7 : Hid (PRow r8 g3 p7) := P7.out.below hb
  replace B15 : Hid (Bx r8 X15 (.slice e1 s5.length e2) (.slice e3 p5.length e4)) := B15.out.keep hb B15.out.lt
  replace B16 : Hid (Bx r8 (X15 + 1) (.slice f1 s6.length f2) (.slice f3 p6.length f4)) := B16.out.keep hb B16.out.lt
  replace B17 : Hid (Bx r8 (X15 + 1 + 1) (.slice g1 s7.length g2) (.slice g3 p7.length g4)) := B17.out.keep hb B17.out.lt
  go_wp2_with fail
  refine hK.out _ _ ⟨B3.out.c0, B3.out.c1, B8.out.c0, B8.out.c1, B13.out.c0, B13.out.c1, B14.out.c0, B14.out.c1, B15.out.c0, B15.out.c1, B16.out.c0, B16.out.c1, B17.out.c0, B17.out.c1⟩ (fun hHeld8 => ?_)
  clear hK K hb
  as_aux_lemma =>
  (refine tk 35 ?_ rfl (Or.inl ⟨by rfl, ?_⟩) ?_; rotate_left; (focus (intro w h; (try dsimp only at h); go_simp; (try with_reducible rfl))); simp only [Act.put, tA, tB, tC, tD, tE, tF])
  (refine tk 36 ?_ rfl (Or.inl ⟨by rfl, ?_⟩) ?_; rotate_left; (focus (intro w h; (try dsimp only at h); go_simp; (try with_reducible rfl))); simp only [Act.put, tA, tB, tC, tD, tE, tF])
  (refine tk 37 ?_ rfl (Or.inl ⟨by rfl, ?_⟩) ?_; rotate_left; (focus (intro w h; (try dsimp only at h); go_simp; (try with_reducible rfl))); simp only [Act.put, tA, tB, tC, tD, tE, tF])
  (refine tk 38 ?_ rfl (Or.inl ⟨by rfl, ?_⟩) ?_; rotate_left; (focus (intro w h; (try dsimp only at h); go_simp; (try with_reducible rfl))); simp only [Act.put, tA, tB, tC, tD, tE, tF])
  (refine tk 39 ?_ rfl (Or.inl ⟨by rfl, ?_⟩) ?_; rotate_left; (focus (intro w h; (try dsimp only at h); go_simp; (try with_reducible rfl))); simp only [Act.put, tA, tB, tC, tD, tE, tF])
  (refine tk 40 ?_ rfl (Or.inl ⟨by rfl, ?_⟩) ?_; rotate_left; (focus (intro w h; (try dsimp only at h); go_simp; (try with_reducible rfl))); simp only [Act.put, tA, tB, tC, tD, tE, tF])
  (refine tk 42 ?_ rfl (Or.inl ⟨by rfl, ?_⟩) ?_; rotate_left; (focus (intro w h; (try dsimp only at h); go_simp; (try with_reducible rfl))); simp only [Act.put, tA, tB, tC, tD, tE, tF])
  (refine tk 43 ?_ rfl (Or.inl ⟨by rfl, ?_⟩) ?_; rotate_left; (focus (intro w h; (try dsimp only at h); go_simp; (try with_reducible rfl))); simp only [Act.put, tA, tB, tC, tD, tE, tF])
  (refine tk 44 ?_ rfl (Or.inl ⟨by rfl, ?_⟩) ?_; rotate_left; (focus (intro w h; (try dsimp only at h); go_simp; (try with_reducible rfl))); simp only [Act.put, tA, tB, tC, tD, tE, tF])
  refine wpAnyH_ready (rs := [41]) (by kernel_rfl) (by simp) ?_
  refine AllReadyH.cons rfl (fun K hK => ?_) AllReadyH.nil
  go_simp
  go_wp2_with fail
  refine (HR16.out _ _ _ _ _ _ _ _ _ _ _ _ _ S5.out P5.out S6.out P6.out S7.out P7.out).mono ?_
  rintro e r9 ⟨rfl, hb⟩
  replace HB : Hid (Below w.heap.size w r9) := HB.out.trans (hb.mono HB.out.size)
  replace D3 : Hid (DOwn r9 w.heap.size a1 a2 a3 a4 s1 p1) := D3.out.below hb
  replace K3 : Hid (KRow r9 (some ⟨G, 0, none⟩) ks) := K3.out.below hb
  replace B3 : Hid (Bx r9 X3 (.slice a1 s1.length a2) (.slice a3 p1.length a4)) := B3.out.keep hb B3.out.lt
  replace D8 : Hid (DOwn r9 v1.heap.size b1 b2 b3 b4 s2 p2) := D8.out.below hb
  replace K8 : Hid (KRow r9 (some ⟨GG, 0, none⟩) kt) := K8.out.below hb
  replace L8 : Hid (SRow r9 al ts) := L8.out.below hb
  replace B8 : Hid (Bx r9 X8 (.slice b1 s2.length b2) (.slice b3 p2.length b4)) := B8.out.keep hb B8.out.lt
  replace S3 : Hid (SRow r9 c1 s3) := S3.out.below hb
  replace P3 : Hid (PRow r9 c3 p3) := P3.out.below hb
  replace S4 : Hid (SRow r9 d1 s4) := S4.out.below hb
  replace P4 : Hid (PRow r9 d3 p4) := P4.out.below hb
  replace B13 : Hid (Bx r9 X13 (.slice c1 s3.length c2) (.slice c3 p3.length c4)) := B13.out.keep hb B13.out.lt
  replace B14 : Hid (Bx r9 (X13 + 1) (.slice d1 s4.length d2) (.slice d3 p4.length d4)) := B14.out.keep hb B14.out.lt
  replace S5 : Hid (SRow r9 e1 s5) := S5.out.below hb
  replace P5 : Hid (PRow r9 e3 p5) := P5.out.below hb
  replace S6 : Hid (SRow r9 f1 s6) := S6.out.below hb
  replace P6 : Hid (PRow r9 f3 p6) := P6.out.below hb
  replace S7 : Hid (SRow r9 g1 s7) := S7.out.below hb
  replace P7 : Hid (PRow r9 g3 p7) := P7.out.below hb
  replace B15 : Hid (Bx r9 X15 (.slice e1 s5.length e2) (.slice e3 p5.length e4)) := B15.out.keep hb B15.out.lt
  replace B16 : Hid (Bx r9 (X15 + 1) (.slice f1 s6.length f2) (.slice f3 p6.length f4)) := B16.out.keep hb B16.out.lt
  replace B17 : Hid (Bx r9 (X15 + 1 + 1) (.slice g1 s7.length g2) (.slice g3 p7.length g4)) := B17.out.keep hb B17.out.lt
  go_wp2_with fail
  refine hK.out _ _ ⟨B3.out.c0, B3.out.c1, B8.out.c0, B8.out.c1, B13.out.c0, B13.out.c1, B14.out.c0, B14.out.c1, B15.out.c0, B15.out.c1, B16.out.c0, B16.out.c1, B17.out.c0, B17.out.c1⟩ (fun hHeld9 => ?_)
  clear hK K hb
  refine wpAnyH_ready (rs := [45]) (by kernel_rfl) (by simp) ?_
  refine AllReadyH.cons rfl (fun K hK => ?_) AllReadyH.nil
  go_simp
  go_wp2_with fail
  refine (HR17.out _ _ _ _ _ _ _ _ _ _ _ _ _ S5.out P5.out S6.out P6.out S7.out P7.out).mono ?_
  rintro e r10 ⟨rfl, hb⟩
  replace HB : Hid (Below w.heap.size w r10) := HB.out.trans (hb.mono HB.out.size)
  replace D3 : Hid (DOwn r10 w.heap.size a1 a2 a3 a4 s1 p1) := D3.out.below hb
  replace K3 : Hid (KRow r10 (some ⟨G, 0, none⟩) ks) := K3.out.below hb
  replace B3 : Hid (Bx r10 X3 (.slice a1 s1.length a2) (.slice a3 p1.length a4)) := B3.out.keep hb B3.out.lt
  replace D8 : Hid (DOwn r10 v1.heap.size b1 b2 b3 b4 s2 p2) := D8.out.below hb
  replace K8 : Hid (KRow r10 (some ⟨GG, 0, none⟩) kt) := K8.out.below hb
  replace L8 : Hid (SRow r10 al ts) := L8.out.below hb
  replace B8 : Hid (Bx r10 X8 (.slice b1 s2.length b2) (.slice b3 p2.length b4)) := B8.out.keep hb B8.out.lt
  replace S3 : Hid (SRow r10 c1 s3) := S3.out.below hb
  replace P3 : Hid (PRow r10 c3 p3) := P3.out.below hb
  replace S4 : Hid (SRow r10 d1 s4) := S4.out.below hb
  replace P4 : Hid (PRow r10 d3 p4) := P4.out.below hb
  replace B13 : Hid (Bx r10 X13 (.slice c1 s3.length c2) (.slice c3 p3.length c4)) := B13.out.keep hb B13.out.lt
  replace B14 : Hid (Bx r10 (X13 + 1) (.slice d1 s4.length d2) (.slice d3 p4.length d4)) := B14.out.keep hb B14.out.lt
  replace S5 : Hid (SRow r10 e1 s5) := S5.out.below hb
  replace P5 : Hid (PRow r10 e3 p5) := P5.out.below hb
  replace S6 : Hid (SRow r10 f1 s6) := S6.out.below hb
  replace P6 : Hid (PRow r10 f3 p6) := P6.out.below hb
  replace S7 : Hid (SRow r10 g1 s7) := S7.out.below hb
  replace P7 : Hid (PRow r10 g3 p7) := P7.out.below hb
  replace B15 : Hid (Bx r10 X15 (.slice e1 s5.length e2) (.slice e3 p5.length e4)) := B15.out.keep hb B15.out.lt
  replace B16 : Hid (Bx r10 (X15 + 1) (.slice f1 s6.length f2) (.slice f3 p6.length f4)) := B16.out.keep hb B16.out.lt
  replace B17 : Hid (Bx r10 (X15 + 1 + 1) (.slice g1 s7.length g2) (.slice g3 p7.length g4)) := B17.out.keep hb B17.out.lt
  go_wp2_with fail
  refine hK.out _ _ ⟨B3.out.c0, B3.out.c1, B8.out.c0, B8.out.c1, B13.out.c0, B13.out.c1, B14.out.c0, B14.out.c1, B15.out.c0, B15.out.c1, B16.out.c0, B16.out.c1, B17.out.c0, B17.out.c1⟩ (fun hHeld10 => ?_)
  clear hK K hb
  (refine tk 46 ?_ rfl (Or.inl ⟨by rfl, ?_⟩) ?_; rotate_left; (focus (intro w h; (try dsimp only at h); go_simp; (try with_reducible rfl))); simp only [Act.put, tA, tB, tC, tD, tE, tF])
  (refine tk 47 ?_ rfl (Or.inl ⟨by rfl, ?_⟩) ?_; rotate_left; (focus (intro w h; (try dsimp only at h); go_simp; (try with_reducible rfl))); simp only [Act.put, tA, tB, tC, tD, tE, tF])
  (refine tk 48 ?_ rfl (Or.inl ⟨by rfl, ?_⟩) ?_; rotate_left; (focus (intro w h; (try dsimp only at h); go_simp; (try with_reducible rfl))); simp only [Act.put, tA, tB, tC, tD, tE, tF])
  (refine tk 49 ?_ rfl (Or.inl ⟨by rfl, ?_⟩) ?_; rotate_left; (focus (intro w h; (try dsimp only at h); go_simp; (try with_reducible rfl))); simp only [Act.put, tA, tB, tC, tD, tE, tF])
  (refine tk 50 ?_ rfl (Or.inl ⟨by rfl, ?_⟩) ?_; rotate_left; (focus (intro w h; (try dsimp only at h); go_simp; (try with_reducible rfl))); simp only [Act.put, tA, tB, tC, tD, tE, tF])
  refine wpAnyH_ready (rs := [51]) (by kernel_rfl) (by simp) ?_
  refine AllReadyH.cons rfl (fun K hK => ?_) AllReadyH.nil
  go_simp
  go_wp2_with fail
  refine (HMaa.out _ _ _ _ _ _ _ _ _ S3.out P3.out S3.out P3.out).mono ?_
  rintro e r11 ⟨rfl, hb⟩
  replace HB : Hid (Below w.heap.size w r11) := HB.out.trans (hb.mono HB.out.size)
  replace D3 : Hid (DOwn r11 w.heap.size a1 a2 a3 a4 s1 p1) := D3.out.below hb
  replace K3 : Hid (KRow r11 (some ⟨G, 0, none⟩) ks) := K3.out.below hb
  replace B3 : Hid (Bx r11 X3 (.slice a1 s1.length a2) (.slice a3 p1.length a4)) := B3.out.keep hb B3.out.lt
  replace D8 : Hid (DOwn r11 v1.heap.size b1 b2 b3 b4 s2 p2) := D8.out.below hb
  replace K8 : Hid (KRow r11 (some ⟨GG, 0, none⟩) kt) := K8.out.below hb
  replace L8 : Hid (SRow r11 al ts) := L8.out.below hb
  replace B8 : Hid (Bx r11 X8 (.slice b1 s2.length b2) (.slice b3 p2.length b4)) := B8.out.keep hb B8.out.lt
  replace S3 : Hid (SRow r11 c1 s3) := S3.out.below hb
  replace P3 : Hid (PRow r11 c3 p3) := P3.out.below hb
  replace S4 : Hid (SRow r11 d1 s4) := S4.out.below hb
  replace P4 : Hid (PRow r11 d3 p4) := P4.out.below hb
  replace B13 : Hid (Bx r11 X13 (.slice c1 s3.length c2) (.slice c3 p3.length c4)) := B13.out.keep hb B13.out.lt
  replace B14 : Hid (Bx r11 (X13 + 1) (.slice d1 s4.length d2) (.slice d3 p4.length d4)) := B14.out.keep hb B14.out.lt
  replace S5 : Hid (SRow r11 e1 s5) := S5.out.below hb
  replace P5 : Hid (PRow r11 e3 p5) := P5.out.below hb
  replace S6 : Hid (SRow r11 f1 s6) := S6.out.below hb
  replace P6 : Hid (PRow r11 f3 p6) := P6.out.below hb
  replace S7 : Hid (SRow r11 g1 s7) := S7.out.below hb
  replace P7 : Hid (PRow r11 g3 p7) := P7.out.below hb
  replace B15 : Hid (Bx r11 X15 (.slice e1 s5.length e2) (.slice e3 p5.length e4)) := B15.out.keep hb B15.out.lt
  replace B16 : Hid (Bx r11 (X15 + 1) (.slice f1 s6.length f2) (.slice f3 p6.length f4)) := B16.out.keep hb B16.out.lt
  replace B17 : Hid (Bx r11 (X15 + 1 + 1) (.slice g1 s7.length g2) (.slice g3 p7.length g4)) := B17.out.keep hb B17.out.lt
  go_wp2_with fail
  refine hK.out _ _ ⟨B3.out.c0, B3.out.c1, B8.out.c0, B8.out.c1, B13.out.c0, B13.out.c1, B14.out.c0, B14.out.c1, B15.out.c0, B15.out.c1, B16.out.c0, B16.out.c1, B17.out.c0, B17.out.c1⟩ (fun hHeld11 => ?_)
  clear hK K hb
  (refine tk 52 ?_ rfl (Or.inl ⟨by rfl, ?_⟩) ?_; rotate_left; (focus (intro w h; (try dsimp only at h); go_simp; (try with_reducible rfl))); simp only [Act.put, tA, tB, tC, tD, tE, tF])
  (refine tk 53 ?_ rfl (Or.inl ⟨by rfl, ?_⟩) ?_; rotate_left; (focus (intro w h; (try dsimp only at h); go_simp; (try with_reducible rfl))); simp only [Act.put, tA, tB, tC, tD, tE, tF])
  refine wpAnyH_done (by kernel_rfl) ?_ _
  go_wp2
  go_ret
  exact ⟨rfl, HB.out⟩
 ·rw [decide_eq_true (by omega)] at HBG
  go_enter Tryz.func3, Tryz.ntmps3
  go_wp2_with fail
  refine (HBG.out _).mono ?_
  rintro e w ⟨rfl, rfl⟩
  go_wp2
  go_ret
  exact ⟨rfl, belowRefl w⟩
end Go.Proofs.YtekjpoenbcnhdaaGreat

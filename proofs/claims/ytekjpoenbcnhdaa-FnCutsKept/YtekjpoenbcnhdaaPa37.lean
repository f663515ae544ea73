/- The law FnCutsKept, walked. -/
import Derived.Test.YtekjpoenbcnhdaaPa33
import Derived.Test.YtekjpoenbcnhdaaPa34
import Derived.Test.YtekjpoenbcnhdaaPa35
import Derived.Test.YtekjpoenbcnhdaaPa36
import Derived.Laws.StructEq
import Derived.Deep.Cut
import Derived.Deep.CutRange
import Derived.Deep.RegionHeld3
namespace Go.Proofs.Ytekjpoenbcnhdaa
open Go.RowKit
open DM
open FM
attribute [local go_sem ↓] Go.wp_at_zero Go.wp_at_succ

theorem krow_nil (w : World) (a : Option Addr) : KRow w a [] := fun h => by simp at h
theorem own_krow2 {w : World} {base G cp n : Nat} {ks : List Int} (hn : n = ks.length) (h : w.ownsRow base 3 1 (.slice (some ⟨G, 0, none⟩) n cp) n (icz ks)) : KRow w (some ⟨G, 0, none⟩) ks := by
  subst hn
  exact own_krow h
theorem lb97 {ss : List ByteArray} (h : logB ss [] = true) : LbI ss [] := LbI.ok (logB_parts h).1
theorem LbI.four {ss : List ByteArray} {ps : List Wr} (h : LbI ss ps) : ss.length ≤ 1048576 ∧ ps.length ≤ 1048576 ∧ (∀ s ∈ ss, s.size ≤ 1048576) ∧ (∀ p ∈ ps, p.2.size ≤ 1048576) := ⟨h.wide.1, h.wide.2.1, h.wide.2.2.1, h.wide.2.2.2⟩

set_option maxRecDepth 100000 in
set_option maxHeartbeats 40000000 in
theorem law4 (len cap : Nat) (a : Option Addr) (w : World) (hl0 : len ≤ 9223372036854775807) (hr : CodeRow w a len) :
    Calls Try.prog 4 #[.slice a len cap] w fun e w' => e = .returned (.bool true) ∧ Below w.heap.size w w' := by
  have HBG : Hid (∀ W : World, Calls Try.prog 5 #[.slice a len cap] W fun e w' => e = .returned (.bool (decide ((1048576 : Int) < (len : Int)))) ∧ w' = W) := fun W => big10 len cap a W
  by_cases hl : len ≤ 1048576
  · rw [decide_eq_false (by omega)] at HBG
    have HDR := hide0 (fun (W : World) (h : Below w.heap.size w W) => sdraw31 len cap a hl W (hr.below h))
    clear hr
    go_enter Try.func4, Try.ntmps4
    go_wp2_with fail
    refine (HBG.out _).mono ?_
    rintro e w ⟨rfl, rfl⟩
    go_wp2_with fail
    refine (HDR.out _ (belowRefl _)).mono ?_
    rintro e w1 ⟨cur, t, x1, x2, x3, x4, rfl, hd, hI, ht, hb⟩
    obtain ⟨P, hP⟩ : ∃ P, P = lgP := ⟨_, rfl⟩
    rw [← hP] at hd
    have hP0 : P = [] := hP
    have hlog : logB cur [] = true := hI.1
    have hOK := LbI.ok (logB_parts hlog).1
    have hA := act_01 cur []
    obtain ⟨hrec, _⟩ := hI.put (by omega) hA ht.1 ht.2
    have hput := put_read hlog hrec (by omega)
    obtain ⟨NA, hNA⟩ : ∃ NA, NA = putS cur [] (act cur []) t := ⟨_, rfl⟩
    have hNL : logB NA [] = true := by rw [hNA]; exact hput.2.2
    have hNO := LbI.ok (logB_parts hNL).1
    rw [← hP]
    obtain ⟨hsw, hSI⟩ := hI.switch (by omega) ht.1 ht.2
    obtain ⟨SW, hSW⟩ : ∃ SW, SW = swS cur [] [t] := ⟨_, rfl⟩
    have hSL : logB SW [] = true := by rw [hSW]; exact hSI.1
    have hts : ∀ x ∈ [t], x.size ≤ 1048576 := fun x hx => by rw [List.mem_singleton.1 hx]; omega
    obtain ⟨CB, hCB⟩ : ∃ CB, CB = caS cur [] t 1 [] 5 := ⟨_, rfl⟩
    obtain ⟨CE, hCE⟩ : ∃ CE, CE = csS cur [] [t] 2 [] 5 := ⟨_, rfl⟩
    have hcb := caS_none (tr := 5) hlog hrec
    rw [← hCB] at hcb
    have hce := csS_none (tr := 5) hlog hts hsw
    rw [← hCE] at hce
    have hf := hOK.four
    have hpr : prB cur [] (act cur []) t = true := by unfold prB; rw [hlog, hrec]; rfl
    have hps : prS cur [] (act cur []) t = NA := by rw [hNA]; exact if_pos hpr
    have hone : oddAt (List.replicate 60 1) 0 = true := by decide
    have HAP : Hid (∀ (B : Nat) (W : World) (z1 : Option Addr) (z2 : Nat) (z3 : Option Addr) (z4 : Nat), DOwn W B z1 z2 z3 z4 cur P → Calls Try.prog 9 #[.agg #[.slice z1 cur.length z2, .slice z3 P.length z4], .string t] W fun e w' => ∃ f1 f2 f3 f4, e = .returned (.tuple #[.agg #[.slice f1 NA.length f2, .slice f3 P.length f4], .bool true]) ∧ DOwn w' W.heap.size f1 f2 f3 f4 NA P ∧ Below W.heap.size W w') := fun B W z1 z2 z3 z4 h => by
      subst hP0
      have q := sapp38 cur [] t z1 z3 z2 z4 B hf.1 hf.2.1 hf.2.2.1 hf.2.2.2 (by omega) W h
      rw [hpr, hps] at q
      exact q
    have HSW : Hid (∀ (B : Nat) (W : World) (z1 : Option Addr) (z2 : Nat) (z3 : Option Addr) (z4 : Nat) (al : Option Addr), DOwn W B z1 z2 z3 z4 cur P → SRow W al [t] → Calls Try.prog 10 #[.agg #[.slice z1 cur.length z2, .slice z3 P.length z4], .slice al 1 1] W fun e w' => ∃ f1 f2 f3 f4, e = .returned (.tuple #[.agg #[.slice f1 SW.length f2, .slice f3 P.length f4], .bool true]) ∧ DOwn w' W.heap.size f1 f2 f3 f4 SW P ∧ Below W.heap.size W w') := fun B W z1 z2 z3 z4 al h h2 => by
      subst hP0
      have q := ssw41 cur [] [t] z1 z3 al z2 z4 1 B hf.1 hf.2.1 hf.2.2.1 hf.2.2.2 (by simp) hts W h h2
      rw [hsw, ← hSW] at q
      exact q
    have HCA : Hid (∀ (W : World) (z1 : Option Addr) (z2 : Nat) (z3 : Option Addr) (z4 : Nat) (ak : Option Addr) (ck : Nat), SRow W z1 cur → PRow W z3 P → KRow W ak (List.replicate 60 1) → Calls Try.prog 11 #[.agg #[.slice z1 cur.length z2, .slice z3 P.length z4], .string t, .int .i64 1, .slice ak 60 ck, .int .i64 64] W fun e w' => ∃ f1 f2 f3 f4, e = .returned (.agg #[.slice f1 NA.length f2, .slice f3 P.length f4]) ∧ DOwn w' W.heap.size f1 f2 f3 f4 NA P ∧ Below W.heap.size W w') := fun W z1 z2 z3 z4 ak ck h h2 h3 => by
      subst hP0
      have q := icutA cur [] t 1 (List.replicate 60 1) 64 z1 z3 ak z2 z4 ck hf.1 hf.2.1 hf.2.2.1 hf.2.2.2 (by omega) (by simp) W h h2 h3
      rw [caS_kept hlog hrec hone (by decide), ← hNA] at q
      exact q
    have HCB : Hid (∀ (W : World) (z1 : Option Addr) (z2 : Nat) (z3 : Option Addr) (z4 : Nat) (ak : Option Addr) (ck : Nat), SRow W z1 cur → PRow W z3 P → Calls Try.prog 11 #[.agg #[.slice z1 cur.length z2, .slice z3 P.length z4], .string t, .int .i64 1, .slice ak 0 ck, .int .i64 5] W fun e w' => ∃ f1 f2 f3 f4, e = .returned (.agg #[.slice f1 CB.length f2, .slice f3 P.length f4]) ∧ DOwn w' W.heap.size f1 f2 f3 f4 CB P ∧ Below W.heap.size W w') := fun W z1 z2 z3 z4 ak ck h h2 => by
      subst hP0
      have q := icutA cur [] t 1 [] 5 z1 z3 ak z2 z4 ck hf.1 hf.2.1 hf.2.2.1 hf.2.2.2 (by omega) (by simp) W h h2 (krow_nil W ak)
      rw [← hCB] at q
      exact q
    have HSA : Hid (∀ (W : World) (z1 : Option Addr) (z2 : Nat) (z3 : Option Addr) (z4 : Nat) (al ak : Option Addr) (ck : Nat), SRow W z1 cur → PRow W z3 P → SRow W al [t] → KRow W ak (List.replicate 60 1) → Calls Try.prog 12 #[.agg #[.slice z1 cur.length z2, .slice z3 P.length z4], .slice al 1 1, .int .i64 2, .slice ak 60 ck, .int .i64 64] W fun e w' => ∃ f1 f2 f3 f4, e = .returned (.agg #[.slice f1 SW.length f2, .slice f3 P.length f4]) ∧ DOwn w' W.heap.size f1 f2 f3 f4 SW P ∧ Below W.heap.size W w') := fun W z1 z2 z3 z4 al ak ck h h2 h3 h4 => by
      subst hP0
      have q := icutS cur [] [t] 2 (List.replicate 60 1) 64 z1 z3 al ak z2 z4 1 ck hf.1 hf.2.1 hf.2.2.1 hf.2.2.2 (by simp) hts (by simp) W h h2 h3 h4
      rw [csS_kept hlog hts hsw hone (by decide), ← hSW] at q
      exact q
    have HSB : Hid (∀ (W : World) (z1 : Option Addr) (z2 : Nat) (z3 : Option Addr) (z4 : Nat) (al ak : Option Addr) (ck : Nat), SRow W z1 cur → PRow W z3 P → SRow W al [t] → Calls Try.prog 12 #[.agg #[.slice z1 cur.length z2, .slice z3 P.length z4], .slice al 1 1, .int .i64 2, .slice ak 0 ck, .int .i64 5] W fun e w' => ∃ f1 f2 f3 f4, e = .returned (.agg #[.slice f1 CE.length f2, .slice f3 P.length f4]) ∧ DOwn w' W.heap.size f1 f2 f3 f4 CE P ∧ Below W.heap.size W w') := fun W z1 z2 z3 z4 al ak ck h h2 h3 => by
      subst hP0
      have q := icutS cur [] [t] 2 [] 5 z1 z3 al ak z2 z4 1 ck hf.1 hf.2.1 hf.2.2.1 hf.2.2.2 (by simp) hts (by simp) W h h2 h3 (krow_nil W ak)
      rw [← hCE] at q
      exact q
    have HM1 : Hid (∀ (W : World) (z1 : Option Addr) (z2 : Nat) (z3 : Option Addr) (z4 : Nat) (q1 : Option Addr) (q2 : Nat) (q3 : Option Addr) (q4 : Nat), SRow W z1 NA → PRow W z3 P → SRow W q1 NA → PRow W q3 P → Calls Try.prog 14 #[.agg #[.slice z1 NA.length z2, .slice z3 P.length z4], .agg #[.slice q1 NA.length q2, .slice q3 P.length q4]] W fun e w' => e = .returned (.bool true) ∧ Below W.heap.size W w') := fun W z1 z2 z3 z4 q1 q2 q3 q4 h1 h2 h3 h4 => by
      subst hP0
      exact isame14 NA [] NA [] z1 z2 z3 z4 q1 q2 q3 q4 (lb97 hNL) (lb97 hNL) true ⟨fun _ => rfl, fun _ => rfl⟩ W h1 h2 h3 h4
    have HM2 : Hid (∀ (W : World) (z1 : Option Addr) (z2 : Nat) (z3 : Option Addr) (z4 : Nat) (q1 : Option Addr) (q2 : Nat) (q3 : Option Addr) (q4 : Nat), SRow W z1 CB → PRow W z3 P → SRow W q1 cur → PRow W q3 P → Calls Try.prog 14 #[.agg #[.slice z1 CB.length z2, .slice z3 P.length z4], .agg #[.slice q1 cur.length q2, .slice q3 P.length q4]] W fun e w' => e = .returned (.bool true) ∧ Below W.heap.size W w') := fun W z1 z2 z3 z4 q1 q2 q3 q4 h1 h2 h3 h4 => by
      subst hP0
      exact isame14 CB [] cur [] z1 z2 z3 z4 q1 q2 q3 q4 (lb97 hcb.1) (lb97 hlog) true ⟨fun _ => hcb.2, fun _ => rfl⟩ W h1 h2 h3 h4
    have HM3 : Hid (∀ (W : World) (z1 : Option Addr) (z2 : Nat) (z3 : Option Addr) (z4 : Nat) (q1 : Option Addr) (q2 : Nat) (q3 : Option Addr) (q4 : Nat), SRow W z1 SW → PRow W z3 P → SRow W q1 SW → PRow W q3 P → Calls Try.prog 14 #[.agg #[.slice z1 SW.length z2, .slice z3 P.length z4], .agg #[.slice q1 SW.length q2, .slice q3 P.length q4]] W fun e w' => e = .returned (.bool true) ∧ Below W.heap.size W w') := fun W z1 z2 z3 z4 q1 q2 q3 q4 h1 h2 h3 h4 => by
      subst hP0
      exact isame14 SW [] SW [] z1 z2 z3 z4 q1 q2 q3 q4 (lb97 hSL) (lb97 hSL) true ⟨fun _ => rfl, fun _ => rfl⟩ W h1 h2 h3 h4
    have HM4 : Hid (∀ (W : World) (z1 : Option Addr) (z2 : Nat) (z3 : Option Addr) (z4 : Nat) (q1 : Option Addr) (q2 : Nat) (q3 : Option Addr) (q4 : Nat), SRow W z1 CE → PRow W z3 P → SRow W q1 cur → PRow W q3 P → Calls Try.prog 14 #[.agg #[.slice z1 CE.length z2, .slice z3 P.length z4], .agg #[.slice q1 cur.length q2, .slice q3 P.length q4]] W fun e w' => e = .returned (.bool true) ∧ Below W.heap.size W w') := fun W z1 z2 z3 z4 q1 q2 q3 q4 h1 h2 h3 h4 => by
      subst hP0
      exact isame14 CE [] cur [] z1 z2 z3 z4 q1 q2 q3 q4 (lb97 hce.1) (lb97 hlog) true ⟨fun _ => hce.2, fun _ => rfl⟩ W h1 h2 h3 h4
    have HK1 : Hid (∀ (W : World) (z1 : Option Addr) (z2 : Nat) (z3 : Option Addr) (z4 : Nat), SRow W z1 CB → PRow W z3 P → Calls Try.prog 15 #[.agg #[.slice z1 CB.length z2, .slice z3 P.length z4]] W fun e w' => e = .returned (.bool true) ∧ Below W.heap.size W w') := fun W z1 z2 z3 z4 h1 h2 => by
      subst hP0
      have f := (lb97 hcb.1).four
      have q := slok22 CB [] z1 z3 z2 z4 f.1 f.2.1 f.2.2.1 f.2.2.2 W h1 h2
      rw [hcb.1] at q
      exact q
    have HK2 : Hid (∀ (W : World) (z1 : Option Addr) (z2 : Nat) (z3 : Option Addr) (z4 : Nat), SRow W z1 CE → PRow W z3 P → Calls Try.prog 15 #[.agg #[.slice z1 CE.length z2, .slice z3 P.length z4]] W fun e w' => e = .returned (.bool true) ∧ Below W.heap.size W w') := fun W z1 z2 z3 z4 h1 h2 => by
      subst hP0
      have f := (lb97 hce.1).four
      have q := slok22 CE [] z1 z3 z2 z4 f.1 f.2.1 f.2.2.1 f.2.2.2 W h1 h2
      rw [hce.1] at q
      exact q
    have HB : Hid (Below w.heap.size w w1) := hb
    have D3 : Hid (DOwn w1 w.heap.size x1 x2 x3 x4 cur P) := hd
    clear hd hI ht hb hP hP0 hlog hOK hA hrec hput hNA hNL hNO hsw hSI hSW hSL hts hCB hCE hcb hce hf hpr hps hone HBG HDR
    have HU1 : Hid (∀ k, (Value.slice x1 cur.length x2).ownBlock = some k → k < w1.heap.size) := fun k hk => (World.ownsRow.lt D3.out.s k hk).2
    have HU2 : Hid (∀ k, (Value.slice x3 P.length x4).ownBlock = some k → k < w1.heap.size) := fun k hk => (World.ownsRow.lt D3.out.p k hk).2
    have X3lt : Hid (w.heap.size ≤ w1.heap.size) := HB.out.size
    have hba : Below w1.heap.size w1 (w1.alloc (.cells #[.slice x1 cur.length x2, .slice x3 P.length x4] 27)) := (belowRefl w1).alloc (Nat.le_refl _) _
    replace HB : Hid (Below w.heap.size w (w1.alloc (.cells #[.slice x1 cur.length x2, .slice x3 P.length x4] 27))) := HB.out.trans (hba.mono HB.out.size)
    replace D3 : Hid (DOwn (w1.alloc (.cells #[.slice x1 cur.length x2, .slice x3 P.length x4] 27)) w.heap.size x1 x2 x3 x4 cur P) := D3.out.below hba
    have B3 : Hid (Bx (w1.alloc (.cells #[.slice x1 cur.length x2, .slice x3 P.length x4] 27)) w1.heap.size (.slice x1 cur.length x2) (.slice x3 P.length x4)) := Bx.new w1 _ _ 27
    clear hba
    go_upto_region 4 with fail
    generalize (w1.alloc (.cells #[.slice x1 cur.length x2, .slice x3 P.length x4] 27)) = v1 at *
    generalize w1.heap.size = X3 at *
    have s1 : X3 + 1 ≤ v1.heap.size := B3.out.lt
    have DK : Hid (∀ W W' : World, DOwn W w.heap.size x1 x2 x3 x4 cur P → Below (X3 + 1) (W.alloc (.cells #[.int .i64 1] 3)) W' → DOwn W' w.heap.size x1 x2 x3 x4 cur P) := fun W W' h hb => ⟨own_block (h.s.alloc _) (fun k hk => hb.block k (by have := HU1.out k hk; omega)), own_block (h.p.alloc _) (fun k hk => hb.block k (by have := HU2.out k hk; omega))⟩
    have hba : Below v1.heap.size v1 (v1.alloc (.cells #[] 3)) := (belowRefl v1).alloc (Nat.le_refl _) _
    replace HB : Hid (Below w.heap.size w (v1.alloc (.cells #[] 3))) := HB.out.trans (hba.mono HB.out.size)
    replace D3 : Hid (DOwn (v1.alloc (.cells #[] 3)) w.heap.size x1 x2 x3 x4 cur P) := D3.out.below hba
    replace B3 : Hid (Bx (v1.alloc (.cells #[] 3)) X3 (.slice x1 cur.length x2) (.slice x3 P.length x4)) := B3.out.keep hba B3.out.lt
    have HO0 : Hid ((v1.alloc (.cells #[] 3)).ownsRow (X3 + 1) 3 1 (.slice (some ⟨v1.heap.size, 0, none⟩) 0 0) 0 (icz [])) := World.ownsRow_lit (base := X3 + 1) (e := 3) (size := 1) v1 #[] 0 s1 (by unfold maxLen; omega) rfl
    have HZ0 : Hid (X3 + 1 ≤ (v1.alloc (.cells #[] 3)).heap.size) := by show _ ≤ _; simp; omega
    clear hba
    go_wp2
    go_loopw [5, 6] (fun tv ti wr => ∃ (k G cp : Nat), k ≤ 60 ∧ ti = .int .i64 k ∧ tv = .slice (some ⟨G, 0, none⟩) k cp ∧ Hid (wr.ownsRow (X3 + 1) 3 1 (.slice (some ⟨G, 0, none⟩) k cp) k (icz (List.replicate k 1))) ∧ Hid (Below w.heap.size w wr) ∧ Hid (Bx wr X3 (.slice x1 cur.length x2) (.slice x3 P.length x4)) ∧ Hid (DOwn wr w.heap.size x1 x2 x3 x4 cur P) ∧ Hid (X3 + 1 ≤ wr.heap.size)) (fun _ ti _ => 60 - (intOf ti).toNat)
    case atStart => exact ⟨0, v1.heap.size, 0, by omega, rfl, rfl, HO0, HB, B3, D3, HZ0⟩
    case round =>
      clear HO0 HB B3 D3 HZ0 s1
      obtain ⟨k, G, cp, hk, rfl, rfl, HO, HB, B3, D3, HZ⟩ := hrel
      by_cases hlt : k < 60
      · have hlt' : (k : Int) < 60 := by omega
        go_wp2_with (at_builtin; refine wpAppH 30 3 1 8 (.int .i64 0) Try.underlying30 Try.info3 rfl (by decide) (by omega) (by rfl) _ _ (by rfl) (base := X3 + 1) (n := k) [.int .i64 1] (by rfl) (World.ownsRow.alloc HO.out _) (by rfl) (by exact heap_alloc_new wr _) rfl (by simp [Value.oneCell']) (by omega) (Nat.le_trans HZ.out (by simp)) ?_)
        intro g' cp' w4 hown4 hb4 hg4
        have HO4 : Hid (w4.ownsRow (X3 + 1) 3 1 (.slice (some ⟨g', 0, none⟩) (k + 1) cp') (k + 1) (icz (List.replicate (k + 1) 1))) := by rw [List.replicate_succ', icz_app]; exact hown4
        have HB4 : Hid (Below w.heap.size w w4) := (HB.out.alloc HB.out.size _).trans (hb4.mono (by have := X3lt.out; omega))
        have B4 : Hid (Bx w4 X3 (.slice x1 cur.length x2) (.slice x3 P.length x4)) := (B3.out.alloc _).keep hb4 (by omega)
        have D4 : Hid (DOwn w4 w.heap.size x1 x2 x3 x4 cur P) := DK.out _ _ D3.out hb4
        have HZ4 : Hid (X3 + 1 ≤ w4.heap.size) := Nat.le_trans HZ.out (Nat.le_trans (by simp) hb4.size)
        clear hown4 hb4 hg4
        go_wp2
        go_roundw
        case rel => exact ⟨k + 1, g', cp', by omega, by go_num, by go_num, HO4, HB4, B4, D4, HZ4⟩
        case measure => simp [intOf]; omega
      · have hlt' : ¬ (k : Int) < 60 := by omega
        obtain rfl : k = 60 := by omega
        have KR : Hid (KRow wr (some ⟨G, 0, none⟩) (List.replicate 60 1)) := own_krow2 (by simp) HO.out
        clear HO HZ hlt
        have g0 := B3.out.c0
        have g1 := B3.out.c1
        go_wp2_with fail
        refine (HAP.out _ _ _ _ _ _ D3.out).mono ?_
        rintro e w2 ⟨y1, y2, y3, y4, rfl, hd, hb⟩
        replace HB : Hid (Below w.heap.size w w2) := HB.out.trans (hb.mono HB.out.size)
        replace D3 : Hid (DOwn w2 w.heap.size x1 x2 x3 x4 cur P) := D3.out.below hb
        replace B3 : Hid (Bx w2 X3 (.slice x1 cur.length x2) (.slice x3 P.length x4)) := B3.out.keep hb B3.out.lt
        replace KR : Hid (KRow w2 (some ⟨G, 0, none⟩) (List.replicate 60 1)) := KR.out.below hb
        have D7 : Hid (DOwn w2 wr.heap.size y1 y2 y3 y4 NA P) := hd
        clear hd hb HAP
        clear g0 g1
        have hba : Below w2.heap.size w2 (w2.alloc (.cells #[.slice y1 NA.length y2, .slice y3 P.length y4] 27)) := (belowRefl w2).alloc (Nat.le_refl _) _
        replace HB : Hid (Below w.heap.size w (w2.alloc (.cells #[.slice y1 NA.length y2, .slice y3 P.length y4] 27))) := HB.out.trans (hba.mono HB.out.size)
        replace D3 : Hid (DOwn (w2.alloc (.cells #[.slice y1 NA.length y2, .slice y3 P.length y4] 27)) w.heap.size x1 x2 x3 x4 cur P) := D3.out.below hba
        replace B3 : Hid (Bx (w2.alloc (.cells #[.slice y1 NA.length y2, .slice y3 P.length y4] 27)) X3 (.slice x1 cur.length x2) (.slice x3 P.length x4)) := B3.out.keep hba B3.out.lt
        replace KR : Hid (KRow (w2.alloc (.cells #[.slice y1 NA.length y2, .slice y3 P.length y4] 27)) (some ⟨G, 0, none⟩) (List.replicate 60 1)) := KR.out.below hba
        replace D7 : Hid (DOwn (w2.alloc (.cells #[.slice y1 NA.length y2, .slice y3 P.length y4] 27)) wr.heap.size y1 y2 y3 y4 NA P) := D7.out.below hba
        have B7 : Hid (Bx (w2.alloc (.cells #[.slice y1 NA.length y2, .slice y3 P.length y4] 27)) w2.heap.size (.slice y1 NA.length y2) (.slice y3 P.length y4)) := Bx.new w2 _ _ 27
        clear hba
        go_upto_region 10 with fail
        generalize (w2.alloc (.cells #[.slice y1 NA.length y2, .slice y3 P.length y4] 27)) = v2 at *
        generalize w2.heap.size = X7 at *
        go_upto_region 11 with fail
        have hba : Below v2.heap.size v2 (v2.alloc (.cells #[.string t] 9)) := (belowRefl v2).alloc (Nat.le_refl _) _
        replace HB : Hid (Below w.heap.size w (v2.alloc (.cells #[.string t] 9))) := HB.out.trans (hba.mono HB.out.size)
        replace D3 : Hid (DOwn (v2.alloc (.cells #[.string t] 9)) w.heap.size x1 x2 x3 x4 cur P) := D3.out.below hba
        replace B3 : Hid (Bx (v2.alloc (.cells #[.string t] 9)) X3 (.slice x1 cur.length x2) (.slice x3 P.length x4)) := B3.out.keep hba B3.out.lt
        replace KR : Hid (KRow (v2.alloc (.cells #[.string t] 9)) (some ⟨G, 0, none⟩) (List.replicate 60 1)) := KR.out.below hba
        replace D7 : Hid (DOwn (v2.alloc (.cells #[.string t] 9)) wr.heap.size y1 y2 y3 y4 NA P) := D7.out.below hba
        replace B7 : Hid (Bx (v2.alloc (.cells #[.string t] 9)) X7 (.slice y1 NA.length y2) (.slice y3 P.length y4)) := B7.out.keep hba B7.out.lt
        have SL : Hid (SRow (v2.alloc (.cells #[.string t] 9)) (some ⟨v2.heap.size, 0, none⟩) [t]) := srow_one v2 t
        clear hba
        generalize (v2.alloc (.cells #[.string t] 9)) = v3 at *
        generalize v2.heap.size = LB at *
        have g0 := B3.out.c0
        have g1 := B3.out.c1
        go_wp2_with fail
        refine (HSW.out _ _ _ _ _ _ _ D3.out SL.out).mono ?_
        rintro e w4 ⟨n1, n2, n3, n4, rfl, hd, hb⟩
        replace HB : Hid (Below w.heap.size w w4) := HB.out.trans (hb.mono HB.out.size)
        replace D3 : Hid (DOwn w4 w.heap.size x1 x2 x3 x4 cur P) := D3.out.below hb
        replace B3 : Hid (Bx w4 X3 (.slice x1 cur.length x2) (.slice x3 P.length x4)) := B3.out.keep hb B3.out.lt
        replace KR : Hid (KRow w4 (some ⟨G, 0, none⟩) (List.replicate 60 1)) := KR.out.below hb
        replace D7 : Hid (DOwn w4 wr.heap.size y1 y2 y3 y4 NA P) := D7.out.below hb
        replace B7 : Hid (Bx w4 X7 (.slice y1 NA.length y2) (.slice y3 P.length y4)) := B7.out.keep hb B7.out.lt
        replace SL : Hid (SRow w4 (some ⟨LB, 0, none⟩) [t]) := SL.out.below hb
        have D10 : Hid (DOwn w4 v3.heap.size n1 n2 n3 n4 SW P) := hd
        clear hd hb HSW
        clear g0 g1
        have hba : Below w4.heap.size w4 (w4.alloc (.cells #[.slice n1 SW.length n2, .slice n3 P.length n4] 27)) := (belowRefl w4).alloc (Nat.le_refl _) _
        replace HB : Hid (Below w.heap.size w (w4.alloc (.cells #[.slice n1 SW.length n2, .slice n3 P.length n4] 27))) := HB.out.trans (hba.mono HB.out.size)
        replace D3 : Hid (DOwn (w4.alloc (.cells #[.slice n1 SW.length n2, .slice n3 P.length n4] 27)) w.heap.size x1 x2 x3 x4 cur P) := D3.out.below hba
        replace B3 : Hid (Bx (w4.alloc (.cells #[.slice n1 SW.length n2, .slice n3 P.length n4] 27)) X3 (.slice x1 cur.length x2) (.slice x3 P.length x4)) := B3.out.keep hba B3.out.lt
        replace KR : Hid (KRow (w4.alloc (.cells #[.slice n1 SW.length n2, .slice n3 P.length n4] 27)) (some ⟨G, 0, none⟩) (List.replicate 60 1)) := KR.out.below hba
        replace D7 : Hid (DOwn (w4.alloc (.cells #[.slice n1 SW.length n2, .slice n3 P.length n4] 27)) wr.heap.size y1 y2 y3 y4 NA P) := D7.out.below hba
        replace B7 : Hid (Bx (w4.alloc (.cells #[.slice n1 SW.length n2, .slice n3 P.length n4] 27)) X7 (.slice y1 NA.length y2) (.slice y3 P.length y4)) := B7.out.keep hba B7.out.lt
        replace SL : Hid (SRow (w4.alloc (.cells #[.slice n1 SW.length n2, .slice n3 P.length n4] 27)) (some ⟨LB, 0, none⟩) [t]) := SL.out.below hba
        replace D10 : Hid (DOwn (w4.alloc (.cells #[.slice n1 SW.length n2, .slice n3 P.length n4] 27)) v3.heap.size n1 n2 n3 n4 SW P) := D10.out.below hba
        have B10 : Hid (Bx (w4.alloc (.cells #[.slice n1 SW.length n2, .slice n3 P.length n4] 27)) w4.heap.size (.slice n1 SW.length n2) (.slice n3 P.length n4)) := Bx.new w4 _ _ 27
        clear hba
        go_upto_region 12 with fail
        generalize (w4.alloc (.cells #[.slice n1 SW.length n2, .slice n3 P.length n4] 27)) = v4 at *
        generalize w4.heap.size = X10 at *
        have g0 := B3.out.c0
        have g1 := B3.out.c1
        go_wp2_with fail
        refine (HCA.out _ _ _ _ _ _ _ D3.out.s.srow D3.out.p.prow KR.out).mono ?_
        rintro e w5 ⟨m1, m2, m3, m4, rfl, hd, hb⟩
        replace HB : Hid (Below w.heap.size w w5) := HB.out.trans (hb.mono HB.out.size)
        replace D3 : Hid (DOwn w5 w.heap.size x1 x2 x3 x4 cur P) := D3.out.below hb
        replace B3 : Hid (Bx w5 X3 (.slice x1 cur.length x2) (.slice x3 P.length x4)) := B3.out.keep hb B3.out.lt
        replace KR : Hid (KRow w5 (some ⟨G, 0, none⟩) (List.replicate 60 1)) := KR.out.below hb
        replace D7 : Hid (DOwn w5 wr.heap.size y1 y2 y3 y4 NA P) := D7.out.below hb
        replace B7 : Hid (Bx w5 X7 (.slice y1 NA.length y2) (.slice y3 P.length y4)) := B7.out.keep hb B7.out.lt
        replace SL : Hid (SRow w5 (some ⟨LB, 0, none⟩) [t]) := SL.out.below hb
        replace D10 : Hid (DOwn w5 v3.heap.size n1 n2 n3 n4 SW P) := D10.out.below hb
        replace B10 : Hid (Bx w5 X10 (.slice n1 SW.length n2) (.slice n3 P.length n4)) := B10.out.keep hb B10.out.lt
        have D12 : Hid (DOwn w5 v4.heap.size m1 m2 m3 m4 NA P) := hd
        clear hd hb HCA
        clear g0 g1
        have hba : Below w5.heap.size w5 (w5.alloc (.cells #[.slice m1 NA.length m2, .slice m3 P.length m4] 27)) := (belowRefl w5).alloc (Nat.le_refl _) _
        replace HB : Hid (Below w.heap.size w (w5.alloc (.cells #[.slice m1 NA.length m2, .slice m3 P.length m4] 27))) := HB.out.trans (hba.mono HB.out.size)
        replace D3 : Hid (DOwn (w5.alloc (.cells #[.slice m1 NA.length m2, .slice m3 P.length m4] 27)) w.heap.size x1 x2 x3 x4 cur P) := D3.out.below hba
        replace B3 : Hid (Bx (w5.alloc (.cells #[.slice m1 NA.length m2, .slice m3 P.length m4] 27)) X3 (.slice x1 cur.length x2) (.slice x3 P.length x4)) := B3.out.keep hba B3.out.lt
        replace KR : Hid (KRow (w5.alloc (.cells #[.slice m1 NA.length m2, .slice m3 P.length m4] 27)) (some ⟨G, 0, none⟩) (List.replicate 60 1)) := KR.out.below hba
        replace D7 : Hid (DOwn (w5.alloc (.cells #[.slice m1 NA.length m2, .slice m3 P.length m4] 27)) wr.heap.size y1 y2 y3 y4 NA P) := D7.out.below hba
        replace B7 : Hid (Bx (w5.alloc (.cells #[.slice m1 NA.length m2, .slice m3 P.length m4] 27)) X7 (.slice y1 NA.length y2) (.slice y3 P.length y4)) := B7.out.keep hba B7.out.lt
        replace SL : Hid (SRow (w5.alloc (.cells #[.slice m1 NA.length m2, .slice m3 P.length m4] 27)) (some ⟨LB, 0, none⟩) [t]) := SL.out.below hba
        replace D10 : Hid (DOwn (w5.alloc (.cells #[.slice m1 NA.length m2, .slice m3 P.length m4] 27)) v3.heap.size n1 n2 n3 n4 SW P) := D10.out.below hba
        replace B10 : Hid (Bx (w5.alloc (.cells #[.slice m1 NA.length m2, .slice m3 P.length m4] 27)) X10 (.slice n1 SW.length n2) (.slice n3 P.length n4)) := B10.out.keep hba B10.out.lt
        replace D12 : Hid (DOwn (w5.alloc (.cells #[.slice m1 NA.length m2, .slice m3 P.length m4] 27)) v4.heap.size m1 m2 m3 m4 NA P) := D12.out.below hba
        have B12 : Hid (Bx (w5.alloc (.cells #[.slice m1 NA.length m2, .slice m3 P.length m4] 27)) w5.heap.size (.slice m1 NA.length m2) (.slice m3 P.length m4)) := Bx.new w5 _ _ 27
        clear hba
        go_upto_region 13 with fail
        generalize (w5.alloc (.cells #[.slice m1 NA.length m2, .slice m3 P.length m4] 27)) = v5 at *
        generalize w5.heap.size = X12 at *
        have u0 : v5.cell? ⟨X3, 0, none⟩ = some (.slice x1 cur.length x2) := B3.out.c0
        have u1 : v5.cell? ⟨X3, 1, none⟩ = some (.slice x3 P.length x4) := B3.out.c1
        have hba : Below v5.heap.size v5 (v5.alloc (.cells #[] 3)) := (belowRefl v5).alloc (Nat.le_refl _) _
        replace HB : Hid (Below w.heap.size w (v5.alloc (.cells #[] 3))) := HB.out.trans (hba.mono HB.out.size)
        replace D3 : Hid (DOwn (v5.alloc (.cells #[] 3)) w.heap.size x1 x2 x3 x4 cur P) := D3.out.below hba
        replace B3 : Hid (Bx (v5.alloc (.cells #[] 3)) X3 (.slice x1 cur.length x2) (.slice x3 P.length x4)) := B3.out.keep hba B3.out.lt
        replace KR : Hid (KRow (v5.alloc (.cells #[] 3)) (some ⟨G, 0, none⟩) (List.replicate 60 1)) := KR.out.below hba
        replace D7 : Hid (DOwn (v5.alloc (.cells #[] 3)) wr.heap.size y1 y2 y3 y4 NA P) := D7.out.below hba
        replace B7 : Hid (Bx (v5.alloc (.cells #[] 3)) X7 (.slice y1 NA.length y2) (.slice y3 P.length y4)) := B7.out.keep hba B7.out.lt
        replace SL : Hid (SRow (v5.alloc (.cells #[] 3)) (some ⟨LB, 0, none⟩) [t]) := SL.out.below hba
        replace D10 : Hid (DOwn (v5.alloc (.cells #[] 3)) v3.heap.size n1 n2 n3 n4 SW P) := D10.out.below hba
        replace B10 : Hid (Bx (v5.alloc (.cells #[] 3)) X10 (.slice n1 SW.length n2) (.slice n3 P.length n4)) := B10.out.keep hba B10.out.lt
        replace D12 : Hid (DOwn (v5.alloc (.cells #[] 3)) v4.heap.size m1 m2 m3 m4 NA P) := D12.out.below hba
        replace B12 : Hid (Bx (v5.alloc (.cells #[] 3)) X12 (.slice m1 NA.length m2) (.slice m3 P.length m4)) := B12.out.keep hba B12.out.lt
        clear hba
        have g0 := B3.out.c0
        have g1 := B3.out.c1
        skip
        go_wp2_with fail
        generalize (v5.alloc (.cells #[] 3)) = v6e at *
        generalize v5.heap.size = NX13 at *
        refine (HCB.out _ _ _ _ _ _ _ D3.out.s.srow D3.out.p.prow).mono ?_
        rintro e w6 ⟨j1, j2, j3, j4, rfl, hd, hb⟩
        replace HB : Hid (Below w.heap.size w w6) := HB.out.trans (hb.mono HB.out.size)
        replace D3 : Hid (DOwn w6 w.heap.size x1 x2 x3 x4 cur P) := D3.out.below hb
        replace B3 : Hid (Bx w6 X3 (.slice x1 cur.length x2) (.slice x3 P.length x4)) := B3.out.keep hb B3.out.lt
        replace KR : Hid (KRow w6 (some ⟨G, 0, none⟩) (List.replicate 60 1)) := KR.out.below hb
        replace D7 : Hid (DOwn w6 wr.heap.size y1 y2 y3 y4 NA P) := D7.out.below hb
        replace B7 : Hid (Bx w6 X7 (.slice y1 NA.length y2) (.slice y3 P.length y4)) := B7.out.keep hb B7.out.lt
        replace SL : Hid (SRow w6 (some ⟨LB, 0, none⟩) [t]) := SL.out.below hb
        replace D10 : Hid (DOwn w6 v3.heap.size n1 n2 n3 n4 SW P) := D10.out.below hb
        replace B10 : Hid (Bx w6 X10 (.slice n1 SW.length n2) (.slice n3 P.length n4)) := B10.out.keep hb B10.out.lt
        replace D12 : Hid (DOwn w6 v4.heap.size m1 m2 m3 m4 NA P) := D12.out.below hb
        replace B12 : Hid (Bx w6 X12 (.slice m1 NA.length m2) (.slice m3 P.length m4)) := B12.out.keep hb B12.out.lt
        have D13 : Hid (DOwn w6 v6e.heap.size j1 j2 j3 j4 CB P) := hd
        clear hd hb HCB
        clear g0 g1
        have hba : Below w6.heap.size w6 (w6.alloc (.cells #[.slice j1 CB.length j2, .slice j3 P.length j4] 27)) := (belowRefl w6).alloc (Nat.le_refl _) _
        replace HB : Hid (Below w.heap.size w (w6.alloc (.cells #[.slice j1 CB.length j2, .slice j3 P.length j4] 27))) := HB.out.trans (hba.mono HB.out.size)
        replace D3 : Hid (DOwn (w6.alloc (.cells #[.slice j1 CB.length j2, .slice j3 P.length j4] 27)) w.heap.size x1 x2 x3 x4 cur P) := D3.out.below hba
        replace B3 : Hid (Bx (w6.alloc (.cells #[.slice j1 CB.length j2, .slice j3 P.length j4] 27)) X3 (.slice x1 cur.length x2) (.slice x3 P.length x4)) := B3.out.keep hba B3.out.lt
        replace KR : Hid (KRow (w6.alloc (.cells #[.slice j1 CB.length j2, .slice j3 P.length j4] 27)) (some ⟨G, 0, none⟩) (List.replicate 60 1)) := KR.out.below hba
        replace D7 : Hid (DOwn (w6.alloc (.cells #[.slice j1 CB.length j2, .slice j3 P.length j4] 27)) wr.heap.size y1 y2 y3 y4 NA P) := D7.out.below hba
        replace B7 : Hid (Bx (w6.alloc (.cells #[.slice j1 CB.length j2, .slice j3 P.length j4] 27)) X7 (.slice y1 NA.length y2) (.slice y3 P.length y4)) := B7.out.keep hba B7.out.lt
        replace SL : Hid (SRow (w6.alloc (.cells #[.slice j1 CB.length j2, .slice j3 P.length j4] 27)) (some ⟨LB, 0, none⟩) [t]) := SL.out.below hba
        replace D10 : Hid (DOwn (w6.alloc (.cells #[.slice j1 CB.length j2, .slice j3 P.length j4] 27)) v3.heap.size n1 n2 n3 n4 SW P) := D10.out.below hba
        replace B10 : Hid (Bx (w6.alloc (.cells #[.slice j1 CB.length j2, .slice j3 P.length j4] 27)) X10 (.slice n1 SW.length n2) (.slice n3 P.length n4)) := B10.out.keep hba B10.out.lt
        replace D12 : Hid (DOwn (w6.alloc (.cells #[.slice j1 CB.length j2, .slice j3 P.length j4] 27)) v4.heap.size m1 m2 m3 m4 NA P) := D12.out.below hba
        replace B12 : Hid (Bx (w6.alloc (.cells #[.slice j1 CB.length j2, .slice j3 P.length j4] 27)) X12 (.slice m1 NA.length m2) (.slice m3 P.length m4)) := B12.out.keep hba B12.out.lt
        replace D13 : Hid (DOwn (w6.alloc (.cells #[.slice j1 CB.length j2, .slice j3 P.length j4] 27)) v6e.heap.size j1 j2 j3 j4 CB P) := D13.out.below hba
        have B13 : Hid (Bx (w6.alloc (.cells #[.slice j1 CB.length j2, .slice j3 P.length j4] 27)) w6.heap.size (.slice j1 CB.length j2) (.slice j3 P.length j4)) := Bx.new w6 _ _ 27
        clear hba
        go_upto_region 14 with fail
        generalize (w6.alloc (.cells #[.slice j1 CB.length j2, .slice j3 P.length j4] 27)) = v6 at *
        generalize w6.heap.size = X13 at *
        clear u0 u1
        have g0 := B3.out.c0
        have g1 := B3.out.c1
        go_wp2_with fail
        refine (HSA.out _ _ _ _ _ _ _ _ D3.out.s.srow D3.out.p.prow SL.out KR.out).mono ?_
        rintro e w7 ⟨i1, i2, i3, i4, rfl, hd, hb⟩
        replace HB : Hid (Below w.heap.size w w7) := HB.out.trans (hb.mono HB.out.size)
        replace D3 : Hid (DOwn w7 w.heap.size x1 x2 x3 x4 cur P) := D3.out.below hb
        replace B3 : Hid (Bx w7 X3 (.slice x1 cur.length x2) (.slice x3 P.length x4)) := B3.out.keep hb B3.out.lt
        replace KR : Hid (KRow w7 (some ⟨G, 0, none⟩) (List.replicate 60 1)) := KR.out.below hb
        replace D7 : Hid (DOwn w7 wr.heap.size y1 y2 y3 y4 NA P) := D7.out.below hb
        replace B7 : Hid (Bx w7 X7 (.slice y1 NA.length y2) (.slice y3 P.length y4)) := B7.out.keep hb B7.out.lt
        replace SL : Hid (SRow w7 (some ⟨LB, 0, none⟩) [t]) := SL.out.below hb
        replace D10 : Hid (DOwn w7 v3.heap.size n1 n2 n3 n4 SW P) := D10.out.below hb
        replace B10 : Hid (Bx w7 X10 (.slice n1 SW.length n2) (.slice n3 P.length n4)) := B10.out.keep hb B10.out.lt
        replace D12 : Hid (DOwn w7 v4.heap.size m1 m2 m3 m4 NA P) := D12.out.below hb
        replace B12 : Hid (Bx w7 X12 (.slice m1 NA.length m2) (.slice m3 P.length m4)) := B12.out.keep hb B12.out.lt
        replace D13 : Hid (DOwn w7 v6e.heap.size j1 j2 j3 j4 CB P) := D13.out.below hb
        replace B13 : Hid (Bx w7 X13 (.slice j1 CB.length j2) (.slice j3 P.length j4)) := B13.out.keep hb B13.out.lt
        have D14 : Hid (DOwn w7 v6.heap.size i1 i2 i3 i4 SW P) := hd
        clear hd hb HSA
        clear g0 g1
        have hba : Below w7.heap.size w7 (w7.alloc (.cells #[.slice i1 SW.length i2, .slice i3 P.length i4] 27)) := (belowRefl w7).alloc (Nat.le_refl _) _
        replace HB : Hid (Below w.heap.size w (w7.alloc (.cells #[.slice i1 SW.length i2, .slice i3 P.length i4] 27))) := HB.out.trans (hba.mono HB.out.size)
        replace D3 : Hid (DOwn (w7.alloc (.cells #[.slice i1 SW.length i2, .slice i3 P.length i4] 27)) w.heap.size x1 x2 x3 x4 cur P) := D3.out.below hba
        replace B3 : Hid (Bx (w7.alloc (.cells #[.slice i1 SW.length i2, .slice i3 P.length i4] 27)) X3 (.slice x1 cur.length x2) (.slice x3 P.length x4)) := B3.out.keep hba B3.out.lt
        replace KR : Hid (KRow (w7.alloc (.cells #[.slice i1 SW.length i2, .slice i3 P.length i4] 27)) (some ⟨G, 0, none⟩) (List.replicate 60 1)) := KR.out.below hba
        replace D7 : Hid (DOwn (w7.alloc (.cells #[.slice i1 SW.length i2, .slice i3 P.length i4] 27)) wr.heap.size y1 y2 y3 y4 NA P) := D7.out.below hba
        replace B7 : Hid (Bx (w7.alloc (.cells #[.slice i1 SW.length i2, .slice i3 P.length i4] 27)) X7 (.slice y1 NA.length y2) (.slice y3 P.length y4)) := B7.out.keep hba B7.out.lt
        replace SL : Hid (SRow (w7.alloc (.cells #[.slice i1 SW.length i2, .slice i3 P.length i4] 27)) (some ⟨LB, 0, none⟩) [t]) := SL.out.below hba
        replace D10 : Hid (DOwn (w7.alloc (.cells #[.slice i1 SW.length i2, .slice i3 P.length i4] 27)) v3.heap.size n1 n2 n3 n4 SW P) := D10.out.below hba
        replace B10 : Hid (Bx (w7.alloc (.cells #[.slice i1 SW.length i2, .slice i3 P.length i4] 27)) X10 (.slice n1 SW.length n2) (.slice n3 P.length n4)) := B10.out.keep hba B10.out.lt
        replace D12 : Hid (DOwn (w7.alloc (.cells #[.slice i1 SW.length i2, .slice i3 P.length i4] 27)) v4.heap.size m1 m2 m3 m4 NA P) := D12.out.below hba
        replace B12 : Hid (Bx (w7.alloc (.cells #[.slice i1 SW.length i2, .slice i3 P.length i4] 27)) X12 (.slice m1 NA.length m2) (.slice m3 P.length m4)) := B12.out.keep hba B12.out.lt
        replace D13 : Hid (DOwn (w7.alloc (.cells #[.slice i1 SW.length i2, .slice i3 P.length i4] 27)) v6e.heap.size j1 j2 j3 j4 CB P) := D13.out.below hba
        replace B13 : Hid (Bx (w7.alloc (.cells #[.slice i1 SW.length i2, .slice i3 P.length i4] 27)) X13 (.slice j1 CB.length j2) (.slice j3 P.length j4)) := B13.out.keep hba B13.out.lt
        replace D14 : Hid (DOwn (w7.alloc (.cells #[.slice i1 SW.length i2, .slice i3 P.length i4] 27)) v6.heap.size i1 i2 i3 i4 SW P) := D14.out.below hba
        have B14 : Hid (Bx (w7.alloc (.cells #[.slice i1 SW.length i2, .slice i3 P.length i4] 27)) w7.heap.size (.slice i1 SW.length i2) (.slice i3 P.length i4)) := Bx.new w7 _ _ 27
        clear hba
        go_upto_region 15 with fail
        generalize (w7.alloc (.cells #[.slice i1 SW.length i2, .slice i3 P.length i4] 27)) = v7 at *
        generalize w7.heap.size = X14 at *
        have u0 : v7.cell? ⟨X3, 0, none⟩ = some (.slice x1 cur.length x2) := B3.out.c0
        have u1 : v7.cell? ⟨X3, 1, none⟩ = some (.slice x3 P.length x4) := B3.out.c1
        have hba : Below v7.heap.size v7 (v7.alloc (.cells #[] 3)) := (belowRefl v7).alloc (Nat.le_refl _) _
        replace HB : Hid (Below w.heap.size w (v7.alloc (.cells #[] 3))) := HB.out.trans (hba.mono HB.out.size)
        replace D3 : Hid (DOwn (v7.alloc (.cells #[] 3)) w.heap.size x1 x2 x3 x4 cur P) := D3.out.below hba
        replace B3 : Hid (Bx (v7.alloc (.cells #[] 3)) X3 (.slice x1 cur.length x2) (.slice x3 P.length x4)) := B3.out.keep hba B3.out.lt
        replace KR : Hid (KRow (v7.alloc (.cells #[] 3)) (some ⟨G, 0, none⟩) (List.replicate 60 1)) := KR.out.below hba
        replace D7 : Hid (DOwn (v7.alloc (.cells #[] 3)) wr.heap.size y1 y2 y3 y4 NA P) := D7.out.below hba
        replace B7 : Hid (Bx (v7.alloc (.cells #[] 3)) X7 (.slice y1 NA.length y2) (.slice y3 P.length y4)) := B7.out.keep hba B7.out.lt
        replace SL : Hid (SRow (v7.alloc (.cells #[] 3)) (some ⟨LB, 0, none⟩) [t]) := SL.out.below hba
        replace D10 : Hid (DOwn (v7.alloc (.cells #[] 3)) v3.heap.size n1 n2 n3 n4 SW P) := D10.out.below hba
        replace B10 : Hid (Bx (v7.alloc (.cells #[] 3)) X10 (.slice n1 SW.length n2) (.slice n3 P.length n4)) := B10.out.keep hba B10.out.lt
        replace D12 : Hid (DOwn (v7.alloc (.cells #[] 3)) v4.heap.size m1 m2 m3 m4 NA P) := D12.out.below hba
        replace B12 : Hid (Bx (v7.alloc (.cells #[] 3)) X12 (.slice m1 NA.length m2) (.slice m3 P.length m4)) := B12.out.keep hba B12.out.lt
        replace D13 : Hid (DOwn (v7.alloc (.cells #[] 3)) v6e.heap.size j1 j2 j3 j4 CB P) := D13.out.below hba
        replace B13 : Hid (Bx (v7.alloc (.cells #[] 3)) X13 (.slice j1 CB.length j2) (.slice j3 P.length j4)) := B13.out.keep hba B13.out.lt
        replace D14 : Hid (DOwn (v7.alloc (.cells #[] 3)) v6.heap.size i1 i2 i3 i4 SW P) := D14.out.below hba
        replace B14 : Hid (Bx (v7.alloc (.cells #[] 3)) X14 (.slice i1 SW.length i2) (.slice i3 P.length i4)) := B14.out.keep hba B14.out.lt
        clear hba
        have g0 := B3.out.c0
        have g1 := B3.out.c1
        skip
        go_wp2_with fail
        generalize (v7.alloc (.cells #[] 3)) = v8e at *
        generalize v7.heap.size = NX15 at *
        refine (HSB.out _ _ _ _ _ _ _ _ D3.out.s.srow D3.out.p.prow SL.out).mono ?_
        rintro e w8 ⟨h1, h2, h3, h4, rfl, hd, hb⟩
        replace HB : Hid (Below w.heap.size w w8) := HB.out.trans (hb.mono HB.out.size)
        replace D3 : Hid (DOwn w8 w.heap.size x1 x2 x3 x4 cur P) := D3.out.below hb
        replace B3 : Hid (Bx w8 X3 (.slice x1 cur.length x2) (.slice x3 P.length x4)) := B3.out.keep hb B3.out.lt
        replace KR : Hid (KRow w8 (some ⟨G, 0, none⟩) (List.replicate 60 1)) := KR.out.below hb
        replace D7 : Hid (DOwn w8 wr.heap.size y1 y2 y3 y4 NA P) := D7.out.below hb
        replace B7 : Hid (Bx w8 X7 (.slice y1 NA.length y2) (.slice y3 P.length y4)) := B7.out.keep hb B7.out.lt
        replace SL : Hid (SRow w8 (some ⟨LB, 0, none⟩) [t]) := SL.out.below hb
        replace D10 : Hid (DOwn w8 v3.heap.size n1 n2 n3 n4 SW P) := D10.out.below hb
        replace B10 : Hid (Bx w8 X10 (.slice n1 SW.length n2) (.slice n3 P.length n4)) := B10.out.keep hb B10.out.lt
        replace D12 : Hid (DOwn w8 v4.heap.size m1 m2 m3 m4 NA P) := D12.out.below hb
        replace B12 : Hid (Bx w8 X12 (.slice m1 NA.length m2) (.slice m3 P.length m4)) := B12.out.keep hb B12.out.lt
        replace D13 : Hid (DOwn w8 v6e.heap.size j1 j2 j3 j4 CB P) := D13.out.below hb
        replace B13 : Hid (Bx w8 X13 (.slice j1 CB.length j2) (.slice j3 P.length j4)) := B13.out.keep hb B13.out.lt
        replace D14 : Hid (DOwn w8 v6.heap.size i1 i2 i3 i4 SW P) := D14.out.below hb
        replace B14 : Hid (Bx w8 X14 (.slice i1 SW.length i2) (.slice i3 P.length i4)) := B14.out.keep hb B14.out.lt
        have D15 : Hid (DOwn w8 v8e.heap.size h1 h2 h3 h4 CE P) := hd
        clear hd hb HSB
        clear g0 g1
        have hba : Below w8.heap.size w8 (w8.alloc (.cells #[.slice h1 CE.length h2, .slice h3 P.length h4] 27)) := (belowRefl w8).alloc (Nat.le_refl _) _
        replace HB : Hid (Below w.heap.size w (w8.alloc (.cells #[.slice h1 CE.length h2, .slice h3 P.length h4] 27))) := HB.out.trans (hba.mono HB.out.size)
        replace D3 : Hid (DOwn (w8.alloc (.cells #[.slice h1 CE.length h2, .slice h3 P.length h4] 27)) w.heap.size x1 x2 x3 x4 cur P) := D3.out.below hba
        replace B3 : Hid (Bx (w8.alloc (.cells #[.slice h1 CE.length h2, .slice h3 P.length h4] 27)) X3 (.slice x1 cur.length x2) (.slice x3 P.length x4)) := B3.out.keep hba B3.out.lt
        replace KR : Hid (KRow (w8.alloc (.cells #[.slice h1 CE.length h2, .slice h3 P.length h4] 27)) (some ⟨G, 0, none⟩) (List.replicate 60 1)) := KR.out.below hba
        replace D7 : Hid (DOwn (w8.alloc (.cells #[.slice h1 CE.length h2, .slice h3 P.length h4] 27)) wr.heap.size y1 y2 y3 y4 NA P) := D7.out.below hba
        replace B7 : Hid (Bx (w8.alloc (.cells #[.slice h1 CE.length h2, .slice h3 P.length h4] 27)) X7 (.slice y1 NA.length y2) (.slice y3 P.length y4)) := B7.out.keep hba B7.out.lt
        replace SL : Hid (SRow (w8.alloc (.cells #[.slice h1 CE.length h2, .slice h3 P.length h4] 27)) (some ⟨LB, 0, none⟩) [t]) := SL.out.below hba
        replace D10 : Hid (DOwn (w8.alloc (.cells #[.slice h1 CE.length h2, .slice h3 P.length h4] 27)) v3.heap.size n1 n2 n3 n4 SW P) := D10.out.below hba
        replace B10 : Hid (Bx (w8.alloc (.cells #[.slice h1 CE.length h2, .slice h3 P.length h4] 27)) X10 (.slice n1 SW.length n2) (.slice n3 P.length n4)) := B10.out.keep hba B10.out.lt
        replace D12 : Hid (DOwn (w8.alloc (.cells #[.slice h1 CE.length h2, .slice h3 P.length h4] 27)) v4.heap.size m1 m2 m3 m4 NA P) := D12.out.below hba
        replace B12 : Hid (Bx (w8.alloc (.cells #[.slice h1 CE.length h2, .slice h3 P.length h4] 27)) X12 (.slice m1 NA.length m2) (.slice m3 P.length m4)) := B12.out.keep hba B12.out.lt
        replace D13 : Hid (DOwn (w8.alloc (.cells #[.slice h1 CE.length h2, .slice h3 P.length h4] 27)) v6e.heap.size j1 j2 j3 j4 CB P) := D13.out.below hba
        replace B13 : Hid (Bx (w8.alloc (.cells #[.slice h1 CE.length h2, .slice h3 P.length h4] 27)) X13 (.slice j1 CB.length j2) (.slice j3 P.length j4)) := B13.out.keep hba B13.out.lt
        replace D14 : Hid (DOwn (w8.alloc (.cells #[.slice h1 CE.length h2, .slice h3 P.length h4] 27)) v6.heap.size i1 i2 i3 i4 SW P) := D14.out.below hba
        replace B14 : Hid (Bx (w8.alloc (.cells #[.slice h1 CE.length h2, .slice h3 P.length h4] 27)) X14 (.slice i1 SW.length i2) (.slice i3 P.length i4)) := B14.out.keep hba B14.out.lt
        replace D15 : Hid (DOwn (w8.alloc (.cells #[.slice h1 CE.length h2, .slice h3 P.length h4] 27)) v8e.heap.size h1 h2 h3 h4 CE P) := D15.out.below hba
        have B15 : Hid (Bx (w8.alloc (.cells #[.slice h1 CE.length h2, .slice h3 P.length h4] 27)) w8.heap.size (.slice h1 CE.length h2) (.slice h3 P.length h4)) := Bx.new w8 _ _ 27
        clear hba
        go_upto_region 16 with fail
        generalize (w8.alloc (.cells #[.slice h1 CE.length h2, .slice h3 P.length h4] 27)) = v8 at *
        generalize w8.heap.size = X15 at *
        clear u0 u1
        have g0 := B12.out.c0
        have g1 := B12.out.c1
        have k0 := B7.out.c0
        have k1 := B7.out.c1
        go_wp2_with fail
        refine (HM1.out _ _ _ _ _ _ _ _ _ D12.out.s.srow D12.out.p.prow D7.out.s.srow D7.out.p.prow).mono ?_
        rintro e r0 ⟨rfl, hb⟩
        replace HB : Hid (Below w.heap.size w r0) := HB.out.trans (hb.mono HB.out.size)
        replace D3 : Hid (DOwn r0 w.heap.size x1 x2 x3 x4 cur P) := D3.out.below hb
        replace B3 : Hid (Bx r0 X3 (.slice x1 cur.length x2) (.slice x3 P.length x4)) := B3.out.keep hb B3.out.lt
        replace KR : Hid (KRow r0 (some ⟨G, 0, none⟩) (List.replicate 60 1)) := KR.out.below hb
        replace D7 : Hid (DOwn r0 wr.heap.size y1 y2 y3 y4 NA P) := D7.out.below hb
        replace B7 : Hid (Bx r0 X7 (.slice y1 NA.length y2) (.slice y3 P.length y4)) := B7.out.keep hb B7.out.lt
        replace SL : Hid (SRow r0 (some ⟨LB, 0, none⟩) [t]) := SL.out.below hb
        replace D10 : Hid (DOwn r0 v3.heap.size n1 n2 n3 n4 SW P) := D10.out.below hb
        replace B10 : Hid (Bx r0 X10 (.slice n1 SW.length n2) (.slice n3 P.length n4)) := B10.out.keep hb B10.out.lt
        replace D12 : Hid (DOwn r0 v4.heap.size m1 m2 m3 m4 NA P) := D12.out.below hb
        replace B12 : Hid (Bx r0 X12 (.slice m1 NA.length m2) (.slice m3 P.length m4)) := B12.out.keep hb B12.out.lt
        replace D13 : Hid (DOwn r0 v6e.heap.size j1 j2 j3 j4 CB P) := D13.out.below hb
        replace B13 : Hid (Bx r0 X13 (.slice j1 CB.length j2) (.slice j3 P.length j4)) := B13.out.keep hb B13.out.lt
        replace D14 : Hid (DOwn r0 v6.heap.size i1 i2 i3 i4 SW P) := D14.out.below hb
        replace B14 : Hid (Bx r0 X14 (.slice i1 SW.length i2) (.slice i3 P.length i4)) := B14.out.keep hb B14.out.lt
        replace D15 : Hid (DOwn r0 v8e.heap.size h1 h2 h3 h4 CE P) := D15.out.below hb
        replace B15 : Hid (Bx r0 X15 (.slice h1 CE.length h2) (.slice h3 P.length h4)) := B15.out.keep hb B15.out.lt
        clear hb
        clear g0 g1 k0 k1
        have g0 := B13.out.c0
        have g1 := B13.out.c1
        have k0 := B3.out.c0
        have k1 := B3.out.c1
        go_wp2_with fail
        refine (HM2.out _ _ _ _ _ _ _ _ _ D13.out.s.srow D13.out.p.prow D3.out.s.srow D3.out.p.prow).mono ?_
        rintro e r1 ⟨rfl, hb⟩
        replace HB : Hid (Below w.heap.size w r1) := HB.out.trans (hb.mono HB.out.size)
        replace D3 : Hid (DOwn r1 w.heap.size x1 x2 x3 x4 cur P) := D3.out.below hb
        replace B3 : Hid (Bx r1 X3 (.slice x1 cur.length x2) (.slice x3 P.length x4)) := B3.out.keep hb B3.out.lt
        replace KR : Hid (KRow r1 (some ⟨G, 0, none⟩) (List.replicate 60 1)) := KR.out.below hb
        replace D7 : Hid (DOwn r1 wr.heap.size y1 y2 y3 y4 NA P) := D7.out.below hb
        replace B7 : Hid (Bx r1 X7 (.slice y1 NA.length y2) (.slice y3 P.length y4)) := B7.out.keep hb B7.out.lt
        replace SL : Hid (SRow r1 (some ⟨LB, 0, none⟩) [t]) := SL.out.below hb
        replace D10 : Hid (DOwn r1 v3.heap.size n1 n2 n3 n4 SW P) := D10.out.below hb
        replace B10 : Hid (Bx r1 X10 (.slice n1 SW.length n2) (.slice n3 P.length n4)) := B10.out.keep hb B10.out.lt
        replace D12 : Hid (DOwn r1 v4.heap.size m1 m2 m3 m4 NA P) := D12.out.below hb
        replace B12 : Hid (Bx r1 X12 (.slice m1 NA.length m2) (.slice m3 P.length m4)) := B12.out.keep hb B12.out.lt
        replace D13 : Hid (DOwn r1 v6e.heap.size j1 j2 j3 j4 CB P) := D13.out.below hb
        replace B13 : Hid (Bx r1 X13 (.slice j1 CB.length j2) (.slice j3 P.length j4)) := B13.out.keep hb B13.out.lt
        replace D14 : Hid (DOwn r1 v6.heap.size i1 i2 i3 i4 SW P) := D14.out.below hb
        replace B14 : Hid (Bx r1 X14 (.slice i1 SW.length i2) (.slice i3 P.length i4)) := B14.out.keep hb B14.out.lt
        replace D15 : Hid (DOwn r1 v8e.heap.size h1 h2 h3 h4 CE P) := D15.out.below hb
        replace B15 : Hid (Bx r1 X15 (.slice h1 CE.length h2) (.slice h3 P.length h4)) := B15.out.keep hb B15.out.lt
        clear hb
        clear g0 g1 k0 k1
        have g0 := B14.out.c0
        have g1 := B14.out.c1
        have k0 := B10.out.c0
        have k1 := B10.out.c1
        go_wp2_with fail
        refine (HM3.out _ _ _ _ _ _ _ _ _ D14.out.s.srow D14.out.p.prow D10.out.s.srow D10.out.p.prow).mono ?_
        rintro e r2 ⟨rfl, hb⟩
        replace HB : Hid (Below w.heap.size w r2) := HB.out.trans (hb.mono HB.out.size)
        replace D3 : Hid (DOwn r2 w.heap.size x1 x2 x3 x4 cur P) := D3.out.below hb
        replace B3 : Hid (Bx r2 X3 (.slice x1 cur.length x2) (.slice x3 P.length x4)) := B3.out.keep hb B3.out.lt
        replace KR : Hid (KRow r2 (some ⟨G, 0, none⟩) (List.replicate 60 1)) := KR.out.below hb
        replace D7 : Hid (DOwn r2 wr.heap.size y1 y2 y3 y4 NA P) := D7.out.below hb
        replace B7 : Hid (Bx r2 X7 (.slice y1 NA.length y2) (.slice y3 P.length y4)) := B7.out.keep hb B7.out.lt
        replace SL : Hid (SRow r2 (some ⟨LB, 0, none⟩) [t]) := SL.out.below hb
        replace D10 : Hid (DOwn r2 v3.heap.size n1 n2 n3 n4 SW P) := D10.out.below hb
        replace B10 : Hid (Bx r2 X10 (.slice n1 SW.length n2) (.slice n3 P.length n4)) := B10.out.keep hb B10.out.lt
        replace D12 : Hid (DOwn r2 v4.heap.size m1 m2 m3 m4 NA P) := D12.out.below hb
        replace B12 : Hid (Bx r2 X12 (.slice m1 NA.length m2) (.slice m3 P.length m4)) := B12.out.keep hb B12.out.lt
        replace D13 : Hid (DOwn r2 v6e.heap.size j1 j2 j3 j4 CB P) := D13.out.below hb
        replace B13 : Hid (Bx r2 X13 (.slice j1 CB.length j2) (.slice j3 P.length j4)) := B13.out.keep hb B13.out.lt
        replace D14 : Hid (DOwn r2 v6.heap.size i1 i2 i3 i4 SW P) := D14.out.below hb
        replace B14 : Hid (Bx r2 X14 (.slice i1 SW.length i2) (.slice i3 P.length i4)) := B14.out.keep hb B14.out.lt
        replace D15 : Hid (DOwn r2 v8e.heap.size h1 h2 h3 h4 CE P) := D15.out.below hb
        replace B15 : Hid (Bx r2 X15 (.slice h1 CE.length h2) (.slice h3 P.length h4)) := B15.out.keep hb B15.out.lt
        clear hb
        clear g0 g1 k0 k1
        have g0 := B15.out.c0
        have g1 := B15.out.c1
        have k0 := B3.out.c0
        have k1 := B3.out.c1
        go_wp2_with fail
        refine (HM4.out _ _ _ _ _ _ _ _ _ D15.out.s.srow D15.out.p.prow D3.out.s.srow D3.out.p.prow).mono ?_
        rintro e r3 ⟨rfl, hb⟩
        replace HB : Hid (Below w.heap.size w r3) := HB.out.trans (hb.mono HB.out.size)
        replace D3 : Hid (DOwn r3 w.heap.size x1 x2 x3 x4 cur P) := D3.out.below hb
        replace B3 : Hid (Bx r3 X3 (.slice x1 cur.length x2) (.slice x3 P.length x4)) := B3.out.keep hb B3.out.lt
        replace KR : Hid (KRow r3 (some ⟨G, 0, none⟩) (List.replicate 60 1)) := KR.out.below hb
        replace D7 : Hid (DOwn r3 wr.heap.size y1 y2 y3 y4 NA P) := D7.out.below hb
        replace B7 : Hid (Bx r3 X7 (.slice y1 NA.length y2) (.slice y3 P.length y4)) := B7.out.keep hb B7.out.lt
        replace SL : Hid (SRow r3 (some ⟨LB, 0, none⟩) [t]) := SL.out.below hb
        replace D10 : Hid (DOwn r3 v3.heap.size n1 n2 n3 n4 SW P) := D10.out.below hb
        replace B10 : Hid (Bx r3 X10 (.slice n1 SW.length n2) (.slice n3 P.length n4)) := B10.out.keep hb B10.out.lt
        replace D12 : Hid (DOwn r3 v4.heap.size m1 m2 m3 m4 NA P) := D12.out.below hb
        replace B12 : Hid (Bx r3 X12 (.slice m1 NA.length m2) (.slice m3 P.length m4)) := B12.out.keep hb B12.out.lt
        replace D13 : Hid (DOwn r3 v6e.heap.size j1 j2 j3 j4 CB P) := D13.out.below hb
        replace B13 : Hid (Bx r3 X13 (.slice j1 CB.length j2) (.slice j3 P.length j4)) := B13.out.keep hb B13.out.lt
        replace D14 : Hid (DOwn r3 v6.heap.size i1 i2 i3 i4 SW P) := D14.out.below hb
        replace B14 : Hid (Bx r3 X14 (.slice i1 SW.length i2) (.slice i3 P.length i4)) := B14.out.keep hb B14.out.lt
        replace D15 : Hid (DOwn r3 v8e.heap.size h1 h2 h3 h4 CE P) := D15.out.below hb
        replace B15 : Hid (Bx r3 X15 (.slice h1 CE.length h2) (.slice h3 P.length h4)) := B15.out.keep hb B15.out.lt
        clear hb
        clear g0 g1 k0 k1
        have g0 := B13.out.c0
        have g1 := B13.out.c1
        go_wp2_with fail
        refine (HK1.out _ _ _ _ _ D13.out.s.srow D13.out.p.prow).mono ?_
        rintro e r4 ⟨rfl, hb⟩
        replace HB : Hid (Below w.heap.size w r4) := HB.out.trans (hb.mono HB.out.size)
        replace D3 : Hid (DOwn r4 w.heap.size x1 x2 x3 x4 cur P) := D3.out.below hb
        replace B3 : Hid (Bx r4 X3 (.slice x1 cur.length x2) (.slice x3 P.length x4)) := B3.out.keep hb B3.out.lt
        replace KR : Hid (KRow r4 (some ⟨G, 0, none⟩) (List.replicate 60 1)) := KR.out.below hb
        replace D7 : Hid (DOwn r4 wr.heap.size y1 y2 y3 y4 NA P) := D7.out.below hb
        replace B7 : Hid (Bx r4 X7 (.slice y1 NA.length y2) (.slice y3 P.length y4)) := B7.out.keep hb B7.out.lt
        replace SL : Hid (SRow r4 (some ⟨LB, 0, none⟩) [t]) := SL.out.below hb
        replace D10 : Hid (DOwn r4 v3.heap.size n1 n2 n3 n4 SW P) := D10.out.below hb
        replace B10 : Hid (Bx r4 X10 (.slice n1 SW.length n2) (.slice n3 P.length n4)) := B10.out.keep hb B10.out.lt
        replace D12 : Hid (DOwn r4 v4.heap.size m1 m2 m3 m4 NA P) := D12.out.below hb
        replace B12 : Hid (Bx r4 X12 (.slice m1 NA.length m2) (.slice m3 P.length m4)) := B12.out.keep hb B12.out.lt
        replace D13 : Hid (DOwn r4 v6e.heap.size j1 j2 j3 j4 CB P) := D13.out.below hb
        replace B13 : Hid (Bx r4 X13 (.slice j1 CB.length j2) (.slice j3 P.length j4)) := B13.out.keep hb B13.out.lt
        replace D14 : Hid (DOwn r4 v6.heap.size i1 i2 i3 i4 SW P) := D14.out.below hb
        replace B14 : Hid (Bx r4 X14 (.slice i1 SW.length i2) (.slice i3 P.length i4)) := B14.out.keep hb B14.out.lt
        replace D15 : Hid (DOwn r4 v8e.heap.size h1 h2 h3 h4 CE P) := D15.out.below hb
        replace B15 : Hid (Bx r4 X15 (.slice h1 CE.length h2) (.slice h3 P.length h4)) := B15.out.keep hb B15.out.lt
        clear hb
        clear g0 g1
        have g0 := B15.out.c0
        have g1 := B15.out.c1
        go_wp2_with fail
        refine (HK2.out _ _ _ _ _ D15.out.s.srow D15.out.p.prow).mono ?_
        rintro e r5 ⟨rfl, hb⟩
        replace HB : Hid (Below w.heap.size w r5) := HB.out.trans (hb.mono HB.out.size)
        replace D3 : Hid (DOwn r5 w.heap.size x1 x2 x3 x4 cur P) := D3.out.below hb
        replace B3 : Hid (Bx r5 X3 (.slice x1 cur.length x2) (.slice x3 P.length x4)) := B3.out.keep hb B3.out.lt
        replace KR : Hid (KRow r5 (some ⟨G, 0, none⟩) (List.replicate 60 1)) := KR.out.below hb
        replace D7 : Hid (DOwn r5 wr.heap.size y1 y2 y3 y4 NA P) := D7.out.below hb
        replace B7 : Hid (Bx r5 X7 (.slice y1 NA.length y2) (.slice y3 P.length y4)) := B7.out.keep hb B7.out.lt
        replace SL : Hid (SRow r5 (some ⟨LB, 0, none⟩) [t]) := SL.out.below hb
        replace D10 : Hid (DOwn r5 v3.heap.size n1 n2 n3 n4 SW P) := D10.out.below hb
        replace B10 : Hid (Bx r5 X10 (.slice n1 SW.length n2) (.slice n3 P.length n4)) := B10.out.keep hb B10.out.lt
        replace D12 : Hid (DOwn r5 v4.heap.size m1 m2 m3 m4 NA P) := D12.out.below hb
        replace B12 : Hid (Bx r5 X12 (.slice m1 NA.length m2) (.slice m3 P.length m4)) := B12.out.keep hb B12.out.lt
        replace D13 : Hid (DOwn r5 v6e.heap.size j1 j2 j3 j4 CB P) := D13.out.below hb
        replace B13 : Hid (Bx r5 X13 (.slice j1 CB.length j2) (.slice j3 P.length j4)) := B13.out.keep hb B13.out.lt
        replace D14 : Hid (DOwn r5 v6.heap.size i1 i2 i3 i4 SW P) := D14.out.below hb
        replace B14 : Hid (Bx r5 X14 (.slice i1 SW.length i2) (.slice i3 P.length i4)) := B14.out.keep hb B14.out.lt
        replace D15 : Hid (DOwn r5 v8e.heap.size h1 h2 h3 h4 CE P) := D15.out.below hb
        replace B15 : Hid (Bx r5 X15 (.slice h1 CE.length h2) (.slice h3 P.length h4)) := B15.out.keep hb B15.out.lt
        clear hb
        clear g0 g1
        go_wp2
        go_ret
        exact ⟨rfl, HB.out⟩
  · rw [decide_eq_true (by omega)] at HBG
    go_enter Try.func4, Try.ntmps4
    go_wp2_with fail
    refine (HBG.out _).mono ?_
    rintro e w ⟨rfl, rfl⟩
    go_wp2
    go_ret
    exact ⟨rfl, belowRefl w⟩
end Go.Proofs.Ytekjpoenbcnhdaa

/- The law FnLogs, walked. -/
import Derived.Test.YtnfkecefkkdedaaE3
namespace Go.Proofs.Ytnfkecefkkdedaa
open Go.RowKit
open DM
attribute [local go_sem ↓] Go.wp_at_zero Go.wp_at_succ

/-- two boxes and a cell that stay, while a region draws its order -/
abbrev RS3 (W0 : World) (b c G o : Nat) (x y z u v : Value) (W : World) : Prop := W.cell? ⟨b, 0, none⟩ = some x ∧ W.cell? ⟨b, 1, none⟩ = some y ∧ W.cell? ⟨c, 0, none⟩ = some z ∧ W.cell? ⟨c, 1, none⟩ = some u ∧ W.cell? ⟨G, o, none⟩ = some v ∧ Below W0.heap.size W0 W
theorem RS3.b {W0 : World} {b c G o : Nat} {x y z u v : Value} {W : World} (h : RS3 W0 b c G o x y z u v W) : Below W0.heap.size W0 W := h.2.2.2.2.2
theorem RS3.call {W0 : World} {b c G o : Nat} {x y z u v : Value} {W W' : World} (h : RS3 W0 b c G o x y z u v W) (hb : Below W.heap.size W W') (h1 : b < W0.heap.size) (h2 : c < W0.heap.size) (h3 : G < W0.heap.size) : RS3 W0 b c G o x y z u v W' := by
  have hz := h.b.size
  exact ⟨(hb.cell (p := ⟨b, 0, none⟩) (by show b < _; omega)).trans h.1, (hb.cell (p := ⟨b, 1, none⟩) (by show b < _; omega)).trans h.2.1, (hb.cell (p := ⟨c, 0, none⟩) (by show c < _; omega)).trans h.2.2.1, (hb.cell (p := ⟨c, 1, none⟩) (by show c < _; omega)).trans h.2.2.2.1, (hb.cell (p := ⟨G, o, none⟩) (by show G < _; omega)).trans h.2.2.2.2.1, h.b.trans (hb.mono hz)⟩
theorem SOwn.shape {w : World} {base : Nat} {v : Value} {l : List ByteArray} (h : SOwn w base v l) : ∃ va vc, v = .slice va l.length vc := by
  obtain ⟨ao, cap, e, _⟩ := h.row
  exact ⟨ao, cap, e⟩
theorem SOwn.last {w : World} {base : Nat} {va : Option Addr} {vc : Nat} {l : List ByteArray} {t : ByteArray} (h : SOwn w base (.slice va (l ++ [t]).length vc) (l ++ [t])) : ∃ G, va = some ⟨G, 0, none⟩ ∧ G < w.heap.size ∧ l.length + 1 ≤ vc ∧ w.cell? ⟨G, l.length, none⟩ = some (.string t) ∧ SRow w va l := by
  rcases h.2 with ⟨hv, h0⟩ | ⟨g, cap, cur, hv, hb, hg, hn, hm, hs, hx⟩
  · simp at h0
  · simp only [Value.slice.injEq] at hv
    obtain ⟨rfl, _, rfl⟩ := hv
    have hc : ∀ j (hj : j < (l ++ [t]).length), w.cell? ⟨g, j, none⟩ = some (.string (l ++ [t])[j]) := fun j hj => by
      rw [World.ownsRow.cellAt h j (by omega), scs, List.getElem?_map, List.getElem?_eq_getElem hj]
      rfl
    have hl : (l ++ [t]).length = l.length + 1 := by simp
    refine ⟨g, rfl, (World.ownsRow.lt h g rfl).2, by omega, ?_, fun _ => ⟨g, 0, rfl, (World.ownsRow.lt h g rfl).2, fun j hj => ?_⟩⟩
    · rw [hc l.length (by omega)]
      simp
    · rw [Nat.zero_add, hc j (by omega)]
      simp [List.getElem_append_left hj]

set_option maxRecDepth 100000 in
set_option maxHeartbeats 16000000 in
theorem law7 (len cap : Nat) (a : Option Addr) (w : World) (hl0 : len ≤ 9223372036854775807) (hr : CodeRow w a len) :
    Calls Try.prog 7 #[.slice a len cap] w fun e w' => e = .returned (.bool true) ∧ Below w.heap.size w w' := by
  have HBG : Hid (∀ W : World, Calls Try.prog 10 #[.slice a len cap] W fun e w' => e = .returned (.bool (decide ((1048576 : Int) < (len : Int)))) ∧ w' = W) := fun W => big10 len cap a W
  by_cases hl : len ≤ 1048576
  · rw [decide_eq_false (by omega)] at HBG
    have HDR : Hid (Calls Try.prog 31 #[.slice a len cap] w fun e w' => ∃ (cur : List ByteArray) (t : ByteArray) (b1 : Option Addr) (d1 : Nat) (b2 : Option Addr) (d2 : Nat), e = .returned (.tuple #[.agg #[.slice b1 cur.length d1, .slice b2 lgP.length d2], .string t]) ∧ DOwn w' w.heap.size b1 d1 b2 d2 cur lgP ∧ LogI 5 cur ∧ (0 < t.size ∧ t.size ≤ 90) ∧ Below w.heap.size w w') := sdraw31 len cap a hl w hr
    obtain ⟨P, hP⟩ : ∃ P, P = lgP := ⟨_, rfl⟩
    have HP0 : Hid (P = []) := hP
    rw [← hP] at HDR
    clear hP hr
    go_enter Try.func7, Try.ntmps7
    go_wp2_with fail
    refine (HBG.out _).mono ?_
    rintro e w ⟨rfl, rfl⟩
    go_wp2_with fail
    refine HDR.out.mono ?_
    rintro e w1 ⟨cur, t, x1, x2, x3, x4, rfl, hd1, hI, ht, hb1⟩
    have hP0 : P = [] := HP0.out
    -- what the log tells
    have hlog : logB cur P = true := by rw [hP0]; exact hI.1
    have hlp := logB_parts hlog
    have hA : isA (act cur P) = true := act_01 cur P
    have hO : isA (1 - act cur P) = true := oth_A cur P
    have hne : 1 - act cur P ≠ act cur P := by rcases isA_iff.1 hA with h | h <;> rw [h] <;> decide
    have hput := hI.put (by omega) (act_01 cur []) ht.1 ht.2
    have hrd := put_read hI.1 hput.1 (by omega)
    have hac := put_act hI.1 hput.1
    obtain ⟨l, E, hra, _, _⟩ := hI.2 _ (act_01 cur [])
    obtain ⟨lo, Eo, hro, _, _⟩ := hI.2 (1 - act cur []) (oth_A cur [])
    obtain ⟨NS, hNS⟩ : ∃ NS, NS = putS cur [] (act cur []) t := ⟨_, rfl⟩
    have hpr := prS_yes (t := t) hI.1 hput.1
    rw [← hNS] at hrd hac hput hpr
    rw [hra] at hrd
    have hcnt := cnt_len hput.2.1 (act_01 cur []) hrd.1
    have hro2 := hrd.2.1 (1 - act cur []) (oth_A cur []) (by rw [← hP0]; exact hne)
    rw [hro] at hro2
    have hBd : ∀ S, logB S P = true → S.length ≤ 1048576 ∧ P.length ≤ 1048576 ∧ (∀ s ∈ S, s.size ≤ 1048576) ∧ (∀ p ∈ P, p.2.size ≤ 1048576) ∧ ∀ b, (arT S P b).size ≤ 20000 := fun S h => by
      have hp := logB_parts h
      have ho := okB_iff.1 hp.1
      refine ⟨by omega, by have := ho.2.2.1; omega, fun s hs => by have := ho.2.2.2.1 s hs; omega, fun p hp => by have := (ho.2.2.2.2 p hp).2.2; omega, fun b => Nat.le_trans (arT_size ho b) (by omega)⟩
    have hBc := hBd cur hlog
    have hlogN : logB NS P = true := by rw [hP0]; exact hput.2.1
    have hBn := hBd NS hlogN
    obtain ⟨ac, hacE⟩ : ∃ ac, ac = act cur P := ⟨_, rfl⟩
    have HLTd : Hid (∀ (W : World) (x1 : Option Addr) (x2 : Nat) (x3 : Option Addr) (x4 : Nat), SRow W x1 cur → PRow W x3 P → Calls Try.prog 32 #[.agg #[.slice x1 cur.length x2, .slice x3 P.length x4]] W fun e w' => ∃ va vc, e = .returned (.slice va l.length vc) ∧ SOwn w' W.heap.size (.slice va l.length vc) l ∧ Below W.heap.size W w') := fun W x1 x2 x3 x4 h1 h2 => by
      refine (ilt32 cur P x1 x3 x2 x4 hBc.1 hBc.2.1 hBc.2.2.1 hBc.2.2.2.1 hBc.2.2.2.2 W h1 h2).mono ?_
      rintro e w' ⟨v, rfl, h3, h4⟩
      have e2 : oL (raO cur P (act cur P)) = l := by rw [hP0, hra]; rfl
      rw [e2] at h3
      obtain ⟨va, vc, rfl⟩ := h3.shape
      exact ⟨va, vc, rfl, h3, h4⟩
    have HLTe : Hid (∀ (W : World) (x1 : Option Addr) (x2 : Nat) (x3 : Option Addr) (x4 : Nat), SRow W x1 NS → PRow W x3 P → Calls Try.prog 32 #[.agg #[.slice x1 NS.length x2, .slice x3 P.length x4]] W fun e w' => ∃ va vc, e = .returned (.slice va (l ++ [t]).length vc) ∧ SOwn w' W.heap.size (.slice va (l ++ [t]).length vc) (l ++ [t]) ∧ Below W.heap.size W w') := fun W x1 x2 x3 x4 h1 h2 => by
      refine (ilt32 NS P x1 x3 x2 x4 hBn.1 hBn.2.1 hBn.2.2.1 hBn.2.2.2.1 hBn.2.2.2.2 W h1 h2).mono ?_
      rintro e w' ⟨v, rfl, h3, h4⟩
      have e2 : oL (raO NS P (act NS P)) = l ++ [t] := by rw [hP0, hac, hrd.1]; rfl
      rw [e2] at h3
      obtain ⟨va, vc, rfl⟩ := h3.shape
      exact ⟨va, vc, rfl, h3, h4⟩
    have HAP : Hid (∀ (W : World) (x1 : Option Addr) (x2 : Nat) (x3 : Option Addr) (x4 : Nat), SRow W x1 cur → PRow W x3 P → Calls Try.prog 33 #[.agg #[.slice x1 cur.length x2, .slice x3 P.length x4], .string t] W fun e w' => ∃ f1 f2 f3 f4, e = .returned (.tuple #[.agg #[.slice f1 NS.length f2, .slice f3 P.length f4], .bool true]) ∧ DOwn w' W.heap.size f1 f2 f3 f4 NS P ∧ Below W.heap.size W w') := fun W x1 x2 x3 x4 h1 h2 => by
      have h3 := iapp39 cur P t x1 x3 x2 x4 hBc.1 hBc.2.1 hBc.2.2.1 hBc.2.2.2.1 (by omega) W h1 h2
      rw [hP0] at h3 ⊢
      rw [hpr.1, hpr.2] at h3
      exact h3
    have HACd : Hid (∀ (W : World) (x1 : Option Addr) (x2 : Nat) (x3 : Option Addr) (x4 : Nat), SRow W x1 cur → PRow W x3 P → Calls Try.prog 34 #[.agg #[.slice x1 cur.length x2, .slice x3 P.length x4]] W fun e w' => e = .returned (.int .i64 ac) ∧ Below W.heap.size W w') := fun W x1 x2 x3 x4 h1 h2 => by
      rw [hacE]
      exact iac26 cur P x1 x3 x2 x4 (by omega) (by omega) (fun s h => Nat.le_trans (hBc.2.2.1 s h) (by omega)) (fun p h => Nat.le_trans (hBc.2.2.2.1 p h) (by omega)) W h1 h2
    have HACe : Hid (∀ (W : World) (x1 : Option Addr) (x2 : Nat) (x3 : Option Addr) (x4 : Nat), SRow W x1 NS → PRow W x3 P → Calls Try.prog 34 #[.agg #[.slice x1 NS.length x2, .slice x3 P.length x4]] W fun e w' => e = .returned (.int .i64 ac) ∧ Below W.heap.size W w') := fun W x1 x2 x3 x4 h1 h2 => by
      have e2 : ac = act NS P := by rw [hacE, hP0, hac]
      rw [e2]
      exact iac26 NS P x1 x3 x2 x4 (by omega) (by omega) (fun s h => Nat.le_trans (hBn.2.2.1 s h) (by omega)) (fun p h => Nat.le_trans (hBn.2.2.2.1 p h) (by omega)) W h1 h2
    have HRAd : Hid (∀ (W : World) (x1 : Option Addr) (x2 : Nat) (x3 : Option Addr) (x4 : Nat), SRow W x1 cur → PRow W x3 P → Calls Try.prog 35 #[.agg #[.slice x1 cur.length x2, .slice x3 P.length x4], .int .i64 (1 - ac)] W fun e w' => ∃ va vc, e = .returned (.tuple #[.slice va lo.length vc, .int .i64 (Eo : Nat), .bool true]) ∧ SOwn w' W.heap.size (.slice va lo.length vc) lo ∧ Below W.heap.size W w') := fun W x1 x2 x3 x4 h1 h2 => by
      refine (ira30 cur P (1 - ac) x1 x3 x2 x4 hBc.1 hBc.2.1 hBc.2.2.1 hBc.2.2.2.1 (hBc.2.2.2.2 _) W h1 h2).mono ?_
      rintro e w' ⟨v, rfl, h3, h4⟩
      have e2 : raO cur P (1 - ac) = some (lo, Eo) := by rw [hacE, hP0, hro]
      rw [e2] at h3 ⊢
      obtain ⟨va, vc, rfl⟩ := h3.shape
      exact ⟨va, vc, rfl, h3, h4⟩
    have HRAe : Hid (∀ (W : World) (x1 : Option Addr) (x2 : Nat) (x3 : Option Addr) (x4 : Nat), SRow W x1 NS → PRow W x3 P → Calls Try.prog 35 #[.agg #[.slice x1 NS.length x2, .slice x3 P.length x4], .int .i64 (1 - ac)] W fun e w' => ∃ va vc, e = .returned (.tuple #[.slice va lo.length vc, .int .i64 (Eo : Nat), .bool true]) ∧ SOwn w' W.heap.size (.slice va lo.length vc) lo ∧ Below W.heap.size W w') := fun W x1 x2 x3 x4 h1 h2 => by
      refine (ira30 NS P (1 - ac) x1 x3 x2 x4 hBn.1 hBn.2.1 hBn.2.2.1 hBn.2.2.2.1 (hBn.2.2.2.2 _) W h1 h2).mono ?_
      rintro e w' ⟨v, rfl, h3, h4⟩
      have e2 : raO NS P (1 - ac) = some (lo, Eo) := by rw [hacE, hP0, hro2]
      rw [e2] at h3 ⊢
      obtain ⟨va, vc, rfl⟩ := h3.shape
      exact ⟨va, vc, rfl, h3, h4⟩
    have HLOd : Hid (∀ (W : World) (x1 : Option Addr) (x2 : Nat) (x3 : Option Addr) (x4 : Nat), SRow W x1 cur → PRow W x3 P → Calls Try.prog 38 #[.agg #[.slice x1 cur.length x2, .slice x3 P.length x4]] W fun e w' => e = .returned (.bool true) ∧ Below W.heap.size W w') := fun W x1 x2 x3 x4 h1 h2 => by
      have h3 := ilok24 cur P x1 x3 x2 x4 hBc.1 hBc.2.1 hBc.2.2.1 hBc.2.2.2.1 W h1 h2
      rw [hlog] at h3
      exact h3
    have HLOe : Hid (∀ (W : World) (x1 : Option Addr) (x2 : Nat) (x3 : Option Addr) (x4 : Nat), SRow W x1 NS → PRow W x3 P → Calls Try.prog 38 #[.agg #[.slice x1 NS.length x2, .slice x3 P.length x4]] W fun e w' => e = .returned (.bool true) ∧ Below W.heap.size W w') := fun W x1 x2 x3 x4 h1 h2 => by
      have h3 := ilok24 NS P x1 x3 x2 x4 hBn.1 hBn.2.1 hBn.2.2.1 hBn.2.2.2.1 W h1 h2
      rw [hlogN] at h3
      exact h3
    have HCNe : Hid (∀ (W : World) (x1 : Option Addr) (x2 : Nat) (x3 : Option Addr) (x4 : Nat), SRow W x1 NS → PRow W x3 P → Calls Try.prog 39 #[.agg #[.slice x1 NS.length x2, .slice x3 P.length x4], .int .i64 ac] W fun e w' => e = .returned (.int .i64 ((l ++ [t]).length : Nat)) ∧ Below W.heap.size W w') := fun W x1 x2 x3 x4 h1 h2 => by
      have h3 := icn28 NS P ac x1 x3 x2 x4 (by omega) (by omega) (fun s h => Nat.le_trans (hBn.2.2.1 s h) (by omega)) (fun p h => Nat.le_trans (hBn.2.2.2.1 p h) (by omega)) W h1 h2
      have e2 : cnt NS P ac = ((l ++ [t]).length : Nat) := by rw [hacE, hP0, hcnt]; rfl
      rw [e2] at h3
      exact h3
    have hac01 : ac = 0 ∨ ac = 1 := by rw [hacE]; exact isA_iff.1 hA
    have hw1 : IntKind.i64.wrap (1 - ac) = 1 - ac := by rw [IntKind.wrap_i64]; omega
    have hll : l.length ≤ 1000 := by
      obtain ⟨l', E', h1, h2, _⟩ := hI.2 _ (act_01 cur [])
      rw [hra] at h1
      cases h1
      omega
    have hlol : lo.length ≤ 1000 := by
      obtain ⟨l', E', h1, h2, _⟩ := hI.2 (1 - act cur []) (oth_A cur [])
      rw [hro] at h1
      cases h1
      omega
    obtain ⟨M, hM⟩ : ∃ M, (l ++ [t]).length = M := ⟨_, rfl⟩
    have HM : Hid (M = l.length + 1) := by show _ = _; rw [← hM]; simp
    have hM1 : l.length < M := by have := HM.out; omega
    have hM2 : M ≤ 1001 := by have := HM.out; omega
    have hq1 : IntKind.i64.wrap ((l.length : Int) + 1) = (M : Int) := by rw [IntKind.wrap_i64]; have := HM.out; omega
    have HLT : Hid ((l ++ [t]).length = M) := hM
    clear hM
    clear hP0 hlog hlp hA hO hne hput hrd hac hra hro hNS hpr hcnt hro2 hBd hBc hlogN hBn hacE hac01 hI HDR HBG HP0
    have W1b : Hid (Below w.heap.size w (w1.alloc (.cells #[.slice x1 cur.length x2, .slice x3 P.length x4] 27))) := hb1.alloc hb1.size _
    have W1x : Hid (Bx (w1.alloc (.cells #[.slice x1 cur.length x2, .slice x3 P.length x4] 27)) w1.heap.size (.slice x1 cur.length x2) (.slice x3 P.length x4)) := Bx.new w1 _ _ 27
    have W1d : Hid (DOwn (w1.alloc (.cells #[.slice x1 cur.length x2, .slice x3 P.length x4] 27)) w.heap.size x1 x2 x3 x4 cur P) := hd1.below ((belowRefl w1).alloc (Nat.le_refl _) _)
    clear hd1 hb1
    have g0 := W1x.out.c0
    have g1 := W1x.out.c1
    go_wp2_with fail
    refine (HLTd.out _ _ _ _ _ W1d.out.s.srow W1d.out.p.prow).mono ?_
    rintro e w2 ⟨va, vc, rfl, ho2, hb2⟩
    have W2b : Hid (Below w.heap.size w w2) := W1b.out.trans (hb2.mono W1b.out.size)
    have W2x : Hid (Bx w2 w1.heap.size (.slice x1 cur.length x2) (.slice x3 P.length x4)) := W1x.out.keep hb2 W1x.out.lt
    have W2d : Hid (DOwn w2 w.heap.size x1 x2 x3 x4 cur P) := W1d.out.below hb2
    have W2l : Hid (SRow w2 va l) := ho2.srow
    clear ho2 hb2 g0 g1 W1b W1x W1d
    generalize w1.heap.size = X3 at *
    have g0 := W2x.out.c0
    have g1 := W2x.out.c1
    go_wp2_with fail
    refine (HAP.out _ _ _ _ _ W2d.out.s.srow W2d.out.p.prow).mono ?_
    rintro e w3 ⟨y1, y2, y3, y4, rfl, hd3, hb3⟩
    have W3b : Hid (Below w.heap.size w (w3.alloc (.cells #[.slice y1 NS.length y2, .slice y3 P.length y4] 27))) := (W2b.out.trans (hb3.mono W2b.out.size)).alloc (Nat.le_trans W2b.out.size hb3.size) _
    have b33 : Below w2.heap.size w2 (w3.alloc (.cells #[.slice y1 NS.length y2, .slice y3 P.length y4] 27)) := hb3.alloc hb3.size _
    have W3x : Hid (Bx (w3.alloc (.cells #[.slice y1 NS.length y2, .slice y3 P.length y4] 27)) X3 (.slice x1 cur.length x2) (.slice x3 P.length x4)) := W2x.out.keep b33 W2x.out.lt
    have W3y : Hid (Bx (w3.alloc (.cells #[.slice y1 NS.length y2, .slice y3 P.length y4] 27)) w3.heap.size (.slice y1 NS.length y2) (.slice y3 P.length y4)) := Bx.new w3 _ _ 27
    have W3d : Hid (DOwn (w3.alloc (.cells #[.slice y1 NS.length y2, .slice y3 P.length y4] 27)) w.heap.size x1 x2 x3 x4 cur P) := W2d.out.below b33
    have W3e : Hid (DOwn (w3.alloc (.cells #[.slice y1 NS.length y2, .slice y3 P.length y4] 27)) w2.heap.size y1 y2 y3 y4 NS P) := hd3.below ((belowRefl w3).alloc (Nat.le_refl _) _)
    have W3l : Hid (SRow (w3.alloc (.cells #[.slice y1 NS.length y2, .slice y3 P.length y4] 27)) va l) := W2l.out.below b33
    clear hd3 hb3 b33 g0 g1 W2b W2x W2d W2l
    have k0 := W3y.out.c0
    have k1 := W3y.out.c1
    go_wp2_with fail
    refine (HLTe.out _ _ _ _ _ W3e.out.s.srow W3e.out.p.prow).mono ?_
    rintro e w4 ⟨na, nc, rfl, ho4, hb4⟩
    have W4b : Hid (Below w.heap.size w w4) := W3b.out.trans (hb4.mono W3b.out.size)
    have W4x : Hid (Bx w4 X3 (.slice x1 cur.length x2) (.slice x3 P.length x4)) := W3x.out.keep hb4 W3x.out.lt
    have W4y : Hid (Bx w4 w3.heap.size (.slice y1 NS.length y2) (.slice y3 P.length y4)) := W3y.out.keep hb4 W3y.out.lt
    have W4d : Hid (DOwn w4 w.heap.size x1 x2 x3 x4 cur P) := W3d.out.below hb4
    have W4e : Hid (DOwn w4 w2.heap.size y1 y2 y3 y4 NS P) := W3e.out.below hb4
    have W4l : Hid (SRow w4 va l) := W3l.out.below hb4
    have hlast := ho4.last
    obtain ⟨G, rfl, hGl, hGc, hGt, hGr⟩ := hlast
    have W4t : Hid (w4.cell? ⟨G, l.length, none⟩ = some (.string t)) := hGt
    have W4n : Hid (SRow w4 (some ⟨G, 0, none⟩) l) := hGr
    rw [HLT.out]
    clear ho4 hb4 k0 k1 W3b W3x W3y W3d W3e W3l hGt hGr
    generalize w3.heap.size = X6 at *
    have g0 := W4x.out.c0
    have g1 := W4x.out.c1
    go_wp2_with fail
    refine (HACd.out _ _ _ _ _ W4d.out.s.srow W4d.out.p.prow).mono ?_
    rintro e w5 ⟨rfl, hb5⟩
    have W5b : Hid (Below w.heap.size w w5) := W4b.out.trans (hb5.mono W4b.out.size)
    have W5x : Hid (Bx w5 X3 (.slice x1 cur.length x2) (.slice x3 P.length x4)) := W4x.out.keep hb5 W4x.out.lt
    have W5y : Hid (Bx w5 X6 (.slice y1 NS.length y2) (.slice y3 P.length y4)) := W4y.out.keep hb5 W4y.out.lt
    have W5d : Hid (DOwn w5 w.heap.size x1 x2 x3 x4 cur P) := W4d.out.below hb5
    have W5e : Hid (DOwn w5 w2.heap.size y1 y2 y3 y4 NS P) := W4e.out.below hb5
    have W5l : Hid (SRow w5 va l) := W4l.out.below hb5
    have W5t : Hid (w5.cell? ⟨G, l.length, none⟩ = some (.string t)) := (hb5.cell (p := ⟨G, l.length, none⟩) hGl).trans W4t.out
    have W5n : Hid (SRow w5 (some ⟨G, 0, none⟩) l) := W4n.out.below hb5
    have hG5 : G < w5.heap.size := Nat.lt_of_lt_of_le hGl hb5.size
    clear hb5 g0 g1 W4b W4x W4y W4d W4e W4l W4t W4n hGl
    have g0 := W5x.out.c0
    have g1 := W5x.out.c1
    go_wp2_with fail
    refine (HRAd.out _ _ _ _ _ W5d.out.s.srow W5d.out.p.prow).mono ?_
    rintro e w6 ⟨oa, oc, rfl, ho6, hb6⟩
    have W6b : Hid (Below w.heap.size w w6) := W5b.out.trans (hb6.mono W5b.out.size)
    have W6x : Hid (Bx w6 X3 (.slice x1 cur.length x2) (.slice x3 P.length x4)) := W5x.out.keep hb6 W5x.out.lt
    have W6y : Hid (Bx w6 X6 (.slice y1 NS.length y2) (.slice y3 P.length y4)) := W5y.out.keep hb6 W5y.out.lt
    have W6d : Hid (DOwn w6 w.heap.size x1 x2 x3 x4 cur P) := W5d.out.below hb6
    have W6e : Hid (DOwn w6 w2.heap.size y1 y2 y3 y4 NS P) := W5e.out.below hb6
    have W6l : Hid (SRow w6 va l) := W5l.out.below hb6
    have W6t : Hid (w6.cell? ⟨G, l.length, none⟩ = some (.string t)) := (hb6.cell (p := ⟨G, l.length, none⟩) hG5).trans W5t.out
    have W6n : Hid (SRow w6 (some ⟨G, 0, none⟩) l) := W5n.out.below hb6
    have W6o : Hid (SRow w6 oa lo) := ho6.srow
    have hG6 : G < w6.heap.size := Nat.lt_of_lt_of_le hG5 hb6.size
    clear ho6 hb6 g0 g1 W5b W5x W5y W5d W5e W5l W5t W5n hG5
    have k0 := W6y.out.c0
    have k1 := W6y.out.c1
    go_wp2_with fail
    refine (HRAe.out _ _ _ _ _ W6e.out.s.srow W6e.out.p.prow).mono ?_
    rintro e w7 ⟨pa, pc, rfl, ho7, hb7⟩
    have W7b : Hid (Below w.heap.size w w7) := W6b.out.trans (hb7.mono W6b.out.size)
    have W7x : Hid (Bx w7 X3 (.slice x1 cur.length x2) (.slice x3 P.length x4)) := W6x.out.keep hb7 W6x.out.lt
    have W7y : Hid (Bx w7 X6 (.slice y1 NS.length y2) (.slice y3 P.length y4)) := W6y.out.keep hb7 W6y.out.lt
    have W7d : Hid (DOwn w7 w.heap.size x1 x2 x3 x4 cur P) := W6d.out.below hb7
    have W7e : Hid (DOwn w7 w2.heap.size y1 y2 y3 y4 NS P) := W6e.out.below hb7
    have W7l : Hid (SRow w7 va l) := W6l.out.below hb7
    have W7t : Hid (w7.cell? ⟨G, l.length, none⟩ = some (.string t)) := (hb7.cell (p := ⟨G, l.length, none⟩) hG6).trans W6t.out
    have W7n : Hid (SRow w7 (some ⟨G, 0, none⟩) l) := W6n.out.below hb7
    have W7o : Hid (SRow w7 oa lo) := W6o.out.below hb7
    have W7p : Hid (SRow w7 pa lo) := ho7.srow
    have hG7 : G < w7.heap.size := Nat.lt_of_lt_of_le hG6 hb7.size
    clear ho7 hb7 k0 k1 W6b W6x W6y W6d W6e W6l W6t W6n W6o hG6
    have g0 := W7x.out.c0
    have g1 := W7x.out.c1
    have k0 := W7y.out.c0
    have k1 := W7y.out.c1
    have kt := W7t.out
    have lx := W7x.out.lt
    have ly := W7y.out.lt
    have hl8 : l.length ≤ 100000000 := by omega
    have hlo8 : lo.length ≤ 100000000 := by omega
    have h0l : (0 : Int) ≤ (l.length : Int) := by omega
    have hlc : (l.length : Int) ≤ (nc : Int) := by omega
    have hlt1 : (l.length : Int) < (M : Int) := by omega
    have RS0 : Hid (RS3 w7 X3 X6 G l.length (.slice x1 cur.length x2) (.slice x3 P.length x4) (.slice y1 NS.length y2) (.slice y3 P.length y4) (.string t) w7.drew) := ⟨g0, g1, k0, k1, kt, (belowRefl w7).drew⟩
    have HSd : Hid (∀ W : World, Below w7.heap.size w7 W → SRow W x1 cur ∧ PRow W x3 P) := fun W h => ⟨W7d.out.s.srow.below h, W7d.out.p.prow.below h⟩
    have HSe : Hid (∀ W : World, Below w7.heap.size w7 W → SRow W y1 NS ∧ PRow W y3 P) := fun W h => ⟨W7e.out.s.srow.below h, W7e.out.p.prow.below h⟩
    rw [HLT.out] at HCNe
    have bS : ∀ {W : World}, (RS3 w7 X3 X6 G l.length (.slice x1 cur.length x2) (.slice x3 P.length x4) (.slice y1 NS.length y2) (.slice y3 P.length y4) (.string t) W) → Below w7.heap.size w7 W := fun h => h.b
    clear W7d W7e HLTd HLTe HAP HRAd HRAe HLT
    go_wp2
    first
    | go_region_held3 (fun w' => w'.cell? ⟨X3, 0, none⟩ = some (.slice x1 cur.length x2) ∧ w'.cell? ⟨X3, 1, none⟩ = some (.slice x3 P.length x4) ∧ w'.cell? ⟨X6, 0, none⟩ = some (.slice y1 NS.length y2) ∧ w'.cell? ⟨X6, 1, none⟩ = some (.slice y3 P.length y4) ∧ w'.cell? ⟨G, l.length, none⟩ = some (.string t) ∧ Below w7.heap.size w7 w')
        (first | exact t8.out | exact RS0.out)
        ((first
          | (go_at_call 38
             first
             | with_reducible refine (HLOd.out _ _ _ _ _ (HSd.out _ (bS (by assumption))).1 (HSd.out _ (bS (by assumption))).2).mono ?_
             | with_reducible refine (HLOe.out _ _ _ _ _ (HSe.out _ (bS (by assumption))).1 (HSe.out _ (bS (by assumption))).2).mono ?_
             rintro e w8 ⟨rfl, hb8⟩
             have t8 : Hid (RS3 w7 X3 X6 G l.length (.slice x1 cur.length x2) (.slice x3 P.length x4) (.slice y1 NS.length y2) (.slice y3 P.length y4) (.string t) w8) := RS3.call (by assumption) hb8 lx ly hG7)
          | (go_at_call 20
             first
             | with_reducible refine (same20 _ _ _ _ l hl8 _ (W7n.out.below (bS (by assumption))) (W7l.out.below (bS (by assumption)))).mono ?_
             | with_reducible refine (same20 _ _ _ _ lo hlo8 _ (W7o.out.below (bS (by assumption))) (W7p.out.below (bS (by assumption)))).mono ?_
             rintro e w8 ⟨rfl, hb8⟩
             have t8 : Hid (RS3 w7 X3 X6 G l.length (.slice x1 cur.length x2) (.slice x3 P.length x4) (.slice y1 NS.length y2) (.slice y3 P.length y4) (.string t) w8) := RS3.call (by assumption) hb8 lx ly hG7)
          | (go_at_call 34
             first
             | with_reducible refine (HACd.out _ _ _ _ _ (HSd.out _ (bS (by assumption))).1 (HSd.out _ (bS (by assumption))).2).mono ?_
             | with_reducible refine (HACe.out _ _ _ _ _ (HSe.out _ (bS (by assumption))).1 (HSe.out _ (bS (by assumption))).2).mono ?_
             rintro e w8 ⟨rfl, hb8⟩
             have t8 : Hid (RS3 w7 X3 X6 G l.length (.slice x1 cur.length x2) (.slice x3 P.length x4) (.slice y1 NS.length y2) (.slice y3 P.length y4) (.string t) w8) := RS3.call (by assumption) hb8 lx ly hG7)
          | (go_at_call 39
             refine (HCNe.out _ _ _ _ _ (HSe.out _ (bS (by assumption))).1 (HSe.out _ (bS (by assumption))).2).mono ?_
             rintro e w8 ⟨rfl, hb8⟩
             have t8 : Hid (RS3 w7 X3 X6 G l.length (.slice x1 cur.length x2) (.slice x3 P.length x4) (.slice y1 NS.length y2) (.slice y3 P.length y4) (.string t) w8) := RS3.call (by assumption) hb8 lx ly hG7)))
    | fail
    all_goals
      go_wp2
      go_ret
      exact ⟨rfl, W7b.out.trans ((RS3.b t8.out).mono W7b.out.size)⟩
  · rw [decide_eq_true (by omega)] at HBG
    go_enter Try.func7, Try.ntmps7
    go_wp2_with fail
    refine (HBG.out _).mono ?_
    rintro e w ⟨rfl, rfl⟩
    go_wp2
    go_ret
    exact ⟨rfl, belowRefl w⟩
end Go.Proofs.Ytnfkecefkkdedaa

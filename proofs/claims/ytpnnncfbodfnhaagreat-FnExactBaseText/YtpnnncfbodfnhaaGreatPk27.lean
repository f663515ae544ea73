/- What a textWriter writes: what stays; what impl.BaseText returns. -/
import Derived.Test.YtpnnncfbodfnhaaGreatPk26
import Derived.Test.YtpnnncfbodfnhaaGreatPk22
import Derived.Test.YtpnnncfbodfnhaaGreatPk24
namespace Go.Proofs.YtpnnncfbodfnhaaGreat
open Go.RowKit
open KM
open VM
attribute [local go_sem ↓] Go.wp_at_zero Go.wp_at_succ

/-- all rows of a base lie below B -/
structure BLow (B : Nat) (b : Bb) : Prop where
  v : ∀ b' off, b.va = some ⟨b', off, none⟩ → 0 < b.vs.length → b' < B
  p : ∀ b' off, b.pa = some ⟨b', off, none⟩ → 0 < b.ps.length → b' < B
  pe : ∀ x ∈ b.ps, TLow B x
  q : ∀ b' off, b.qa = some ⟨b', off, none⟩ → 0 < b.qs.length → b' < B
  qe : ∀ x ∈ b.qs, TLow B x
theorem BRows.allLow {w : World} {b : Bb} (h : BRows w b) : BLow w.heap.size b := ⟨low_of h.v, low_of h.p.row, fun x hx => ⟨low_of (h.p.each x hx).r, low_of (h.p.each x hx).w⟩, low_of h.q.row, fun x hx => ⟨low_of (h.q.each x hx).r, low_of (h.q.each x hx).w⟩⟩
theorem TRows.low {w w' : World} {B : Nat} {a : Option Addr} {xs : List Ta} (h : TRows w a xs) (hb : Below B w w') (h1 : ∀ b' off, a = some ⟨b', off, none⟩ → 0 < xs.length → b' < B) (h2 : ∀ x ∈ xs, TLow B x) : TRows w' a xs := ⟨grow_low h.row hb h1, fun x hx => (h.each x hx).low hb (h2 x hx)⟩
theorem BRows.low {w w' : World} {B : Nat} {b : Bb} (h : BRows w b) (hb : Below B w w') (hl : BLow B b) : BRows w' b := ⟨grow_low h.v hb hl.v, h.p.low hb hl.p hl.pe, h.q.low hb hl.q hl.qe⟩

set_option maxRecDepth 100000 in
set_option maxHeartbeats 2000000 in
theorem wbase (l0 : List UInt8) (n0 : l0.length ≤ 1000) (b : Bb) (B g : Nat) (hs : BSm b) (w : World) (hl : BLow B b) (h : Wtr w B g l0) (hp : BRows w b) :
    Calls Tryz.prog 43 #[.pointer (some ⟨g, 0, none⟩), .agg #[.slice b.va b.vs.length b.vc, .slice b.pa b.ps.length b.pc, .slice b.qa b.qs.length b.qc, .int .i64 b.cs, .int .i64 b.nx]] w fun e w' => e = .returned (.tuple #[]) ∧ Wtr w' B g (l0 ++ bsL b) ∧ Below B w w' ∧ Keep5 g w w' := by
  have HS : Hid (BSm b) := hs
  have HP : Hid (BRows w b) := hp
  have HL : Hid (BLow B b) := hl
  have CN : Hid (∀ (n : Int) l w, 0 ≤ n → n ≤ 9999 → l.length ≤ 900000000 → Wtr w B g l → Calls Tryz.prog 85 #[.pointer (some ⟨g, 0, none⟩), .int .i64 n] w fun e w' => e = .returned (.tuple #[]) ∧ Wtr w' B g (l ++ WM.varL n.toNat) ∧ Below B w w' ∧ Keep5 g w w') := fun n l w h0 h1 hl hw => by
    have k := wnum B g n.toNat l (by omega) hl w hw
    rw [Int.toNat_of_nonneg h0] at k
    exact k
  have hne : w.heap.size ≠ g := by rcases h.is with h | h <;> (have := h.lt; omega)
  have HW0 : Hid (Wtr (w.alloc (.cells #[.slice b.va b.vs.length b.vc, .slice b.pa b.ps.length b.pc, .slice b.qa b.qs.length b.qc, .int .i64 b.cs, .int .i64 b.nx] 41)) B g l0) := h.below ((belowRefl w).alloc (Nat.le_refl _) _)
  have HB0 : Hid (Below B w (w.alloc (.cells #[.slice b.va b.vs.length b.vc, .slice b.pa b.ps.length b.pc, .slice b.qa b.qs.length b.qc, .int .i64 b.cs, .int .i64 b.nx] 41))) := (Below.refl B w).alloc h.le _
  have HK0 : Hid (Keep5 g w (w.alloc (.cells #[.slice b.va b.vs.length b.vc, .slice b.pa b.ps.length b.pc, .slice b.qa b.qs.length b.qc, .int .i64 b.cs, .int .i64 b.nx] 41))) := Keep5.below ((belowRefl w).alloc (Nat.le_refl _) _)
  have HE0 : Hid ((w.alloc (.cells #[.slice b.va b.vs.length b.vc, .slice b.pa b.ps.length b.pc, .slice b.qa b.qs.length b.qc, .int .i64 b.cs, .int .i64 b.nx] 41)).heap[w.heap.size]? = some (.cells [.slice b.va b.vs.length b.vc, .slice b.pa b.ps.length b.pc, .slice b.qa b.qs.length b.qc, .int .i64 b.cs, .int .i64 b.nx].toArray 41 (0, 0))) := heapAllocNew w [.slice b.va b.vs.length b.vc, .slice b.pa b.ps.length b.pc, .slice b.qa b.qs.length b.qc, .int .i64 b.cs, .int .i64 b.nx] 41
  clear h hp hs hl
  have bn1 : (WM.varL b.cs.toNat).length ≤ 5 := var_len _ (by have := HS.out.c1; omega)
  have bn2 : (WM.varL b.nx.toNat).length ≤ 5 := var_len _ (by have := HS.out.n1; omega)
  have bn3 : (WM.varL b.vs.length ++ vrL b.vs).length ≤ 4000 := by rw [List.length_append]; have := var_len b.vs.length (by have := HS.out.vl; omega); have := vr_len b.vs HS.out.vs; have := HS.out.vl; omega
  have bn4 : (WM.varL b.ps.length ++ tsL b.ps).length ≤ 7000 := by rw [List.length_append]; have := var_len b.ps.length (by have := HS.out.pl; omega); have := ts_len b.ps (fun x hx => right_small (HS.out.ps x hx)); have := HS.out.pl; omega
  go_enter Tryz.func43, Tryz.ntmps43
  go_wp2_with fail
  refine (CN.out b.cs l0 _ HS.out.c0 HS.out.c1 (by omega) HW0.out).mono ?_
  rintro e v1 ⟨rfl, hw, hb, hk⟩
  obtain ⟨l1, hl⟩ : ∃ l, l = l0 ++ WM.varL b.cs.toNat := ⟨_, rfl⟩
  have HL1 : Hid (l1 = l0 ++ WM.varL b.cs.toNat) := hl
  have n1 : l1.length ≤ 1010 := by rw [hl, List.length_append]; omega
  rw [← hl] at hw
  have HW1 := hide hw
  have HB1 : Hid (Below B w v1) := HB0.out.trans hb
  have HK1 : Hid (Keep5 g w v1) := HK0.out.trans hk
  have HE1 : Hid (v1.heap[w.heap.size]? = some (.cells [.slice b.va b.vs.length b.vc, .slice b.pa b.ps.length b.pc, .slice b.qa b.qs.length b.qc, .int .i64 b.cs, .int .i64 b.nx].toArray 41 (0, 0))) := hk _ _ 41 (0, 0) hne (by decide) HE0.out
  clear hw hb hk hl HW0 HE0
  have x4 := (bx_heap HE1.out).c4
  go_wp2_with fail
  refine (CN.out b.nx l1 _ HS.out.n0 HS.out.n1 (by omega) HW1.out).mono ?_
  rintro e v2 ⟨rfl, hw, hb, hk⟩
  obtain ⟨l2, hl⟩ : ∃ l, l = l1 ++ WM.varL b.nx.toNat := ⟨_, rfl⟩
  have HL2 : Hid (l2 = l1 ++ WM.varL b.nx.toNat) := hl
  have n2 : l2.length ≤ 1020 := by rw [hl, List.length_append]; omega
  rw [← hl] at hw
  have HW2 := hide hw
  have HB2 : Hid (Below B w v2) := HB1.out.trans hb
  have HK2 : Hid (Keep5 g w v2) := HK1.out.trans hk
  have HE2 : Hid (v2.heap[w.heap.size]? = some (.cells [.slice b.va b.vs.length b.vc, .slice b.pa b.ps.length b.pc, .slice b.qa b.qs.length b.qc, .int .i64 b.cs, .int .i64 b.nx].toArray 41 (0, 0))) := hk _ _ 41 (0, 0) hne (by decide) HE1.out
  clear hw hb hk hl HW1 HE1 x4
  have x0 := (bx_heap HE2.out).c0
  go_wp2_with fail
  refine (wvers B g b.vs b.va b.vc l2 HS.out.vs (by have := HS.out.vl; omega) (by omega) _ HL.out.v HW2.out (grow_low HP.out.v HB2.out HL.out.v)).mono ?_
  rintro e v3 ⟨rfl, hw, hb, hk⟩
  obtain ⟨l3, hl⟩ : ∃ l, l = l2 ++ (WM.varL b.vs.length ++ vrL b.vs) := ⟨_, rfl⟩
  have HL3 : Hid (l3 = l2 ++ (WM.varL b.vs.length ++ vrL b.vs)) := hl
  have n3 : l3.length ≤ 5020 := by rw [hl, List.length_append]; omega
  rw [← hl] at hw
  have HW3 := hide hw
  have HB3 : Hid (Below B w v3) := HB2.out.trans hb
  have HK3 : Hid (Keep5 g w v3) := HK2.out.trans hk
  have HE3 : Hid (v3.heap[w.heap.size]? = some (.cells [.slice b.va b.vs.length b.vc, .slice b.pa b.ps.length b.pc, .slice b.qa b.qs.length b.qc, .int .i64 b.cs, .int .i64 b.nx].toArray 41 (0, 0))) := hk _ _ 41 (0, 0) hne (by decide) HE2.out
  clear hw hb hk hl HW2 HE2 x0
  have x1 := (bx_heap HE3.out).c1
  go_wp2_with fail
  refine (wtxs B g b.ps b.pa b.pc l3 (fun x hx => right_small (HS.out.ps x hx)) (by have := HS.out.pl; omega) (by omega) _ HL.out.p HL.out.pe HW3.out (HP.out.p.low HB3.out HL.out.p HL.out.pe)).mono ?_
  rintro e v4 ⟨rfl, hw, hb, hk⟩
  obtain ⟨l4, hl⟩ : ∃ l, l = l3 ++ (WM.varL b.ps.length ++ tsL b.ps) := ⟨_, rfl⟩
  have HL4 : Hid (l4 = l3 ++ (WM.varL b.ps.length ++ tsL b.ps)) := hl
  have n4 : l4.length ≤ 12020 := by rw [hl, List.length_append]; omega
  rw [← hl] at hw
  have HW4 := hide hw
  have HB4 : Hid (Below B w v4) := HB3.out.trans hb
  have HK4 : Hid (Keep5 g w v4) := HK3.out.trans hk
  have HE4 : Hid (v4.heap[w.heap.size]? = some (.cells [.slice b.va b.vs.length b.vc, .slice b.pa b.ps.length b.pc, .slice b.qa b.qs.length b.qc, .int .i64 b.cs, .int .i64 b.nx].toArray 41 (0, 0))) := hk _ _ 41 (0, 0) hne (by decide) HE3.out
  clear hw hb hk hl HW3 HE3 x1
  have x2 := (bx_heap HE4.out).c2
  go_wp2_with fail
  refine (wtxs B g b.qs b.qa b.qc l4 (fun x hx => right_small (HS.out.qs x hx)) (by have := HS.out.ql; omega) (by omega) _ HL.out.q HL.out.qe HW4.out (HP.out.q.low HB4.out HL.out.q HL.out.qe)).mono ?_
  rintro e v5 ⟨rfl, hw, hb, hk⟩
  obtain ⟨l5, hl⟩ : ∃ l, l = l4 ++ (WM.varL b.qs.length ++ tsL b.qs) := ⟨_, rfl⟩
  have HL5 : Hid (l5 = l4 ++ (WM.varL b.qs.length ++ tsL b.qs)) := hl
  rw [← hl] at hw
  have HW5 := hide hw
  have HB5 : Hid (Below B w v5) := HB4.out.trans hb
  have HK5 : Hid (Keep5 g w v5) := HK4.out.trans hk
  have HE5 : Hid (v5.heap[w.heap.size]? = some (.cells [.slice b.va b.vs.length b.vc, .slice b.pa b.ps.length b.pc, .slice b.qa b.qs.length b.qc, .int .i64 b.cs, .int .i64 b.nx].toArray 41 (0, 0))) := hk _ _ 41 (0, 0) hne (by decide) HE4.out
  clear hw hb hk hl HW4 HE4 x2
  have HT : Hid (l5 = l0 ++ bsL b) := by
    show _ = _
    rw [HL5.out, HL4.out, HL3.out, HL2.out, HL1.out]
    unfold bsL
    simp only [List.append_assoc]
  rw [HT.out] at HW5
  go_wp2
  go_end0
  exact ⟨rfl, HW5.out, HB5.out, HK5.out⟩

theorem bsL_ne (b : Bb) : bsL b ≠ [] := by
  unfold bsL
  intro h
  have h1 := (List.append_eq_nil_iff.1 h).1
  have h2 := WM.varL_pos b.cs.toNat
  rw [h1] at h2
  simp at h2
/-- the text, and whether there is one -/
def btxV (b : Bb) : Value := if sbB b = true then .tuple #[.string ⟨(bsL b).toArray⟩, .bool true] else .tuple #[.string ⟨#[]⟩, .bool false]
theorem ts_same {xs ys : List Ta} (h : txs ys = txs xs) : tsL ys = tsL xs := by
  have e : ∀ zs : List Ta, tsL zs = (txs zs).flatMap txL := fun zs => by unfold tsL txs; rw [List.flatMap_map]
  rw [e, e, h]
theorem btx_same {b c : Bb} (h : BSame b c) : btxV c = btxV b := by
  have e : bsL c = bsL b := by
    unfold bsL
    rw [h.cs, h.nx, h.v, h.pl, h.ql, ts_same h.p, ts_same h.q]
  unfold btxV
  rw [sb_same h, e]

set_option maxRecDepth 100000 in
set_option maxHeartbeats 2000000 in
theorem ibtext (b : Bb) (hf : BFit b) (hpa : b.pa = none → b.ps.length = 0 ∧ b.pc = 0) (hqa : b.qa = none → b.qs.length = 0 ∧ b.qc = 0) (w : World) (hp : BRows w b) :
    Calls Tryz.prog 15 #[.agg #[.slice b.va b.vs.length b.vc, .slice b.pa b.ps.length b.pc, .slice b.qa b.qs.length b.qc, .int .i64 b.cs, .int .i64 b.nx]] w fun e w' => e = .returned (btxV b) ∧ Below w.heap.size w w' := by
  have HP : Hid (BRows w b) := hp
  clear hp
  have BA0 : Hid (Bx (w.alloc (.cells #[.slice b.va b.vs.length b.vc, .slice b.pa b.ps.length b.pc, .slice b.qa b.qs.length b.qc, .int .i64 b.cs, .int .i64 b.nx] 41)) w.heap.size [.slice b.va b.vs.length b.vc, .slice b.pa b.ps.length b.pc, .slice b.qa b.qs.length b.qc, .int .i64 b.cs, .int .i64 b.nx]) := Bx.new w [.slice b.va b.vs.length b.vc, .slice b.pa b.ps.length b.pc, .slice b.qa b.qs.length b.qc, .int .i64 b.cs, .int .i64 b.nx] 41
  have HB0 : Hid (Below w.heap.size w (w.alloc (.cells #[.slice b.va b.vs.length b.vc, .slice b.pa b.ps.length b.pc, .slice b.qa b.qs.length b.qc, .int .i64 b.cs, .int .i64 b.nx] 41))) := (belowRefl w).alloc (Nat.le_refl _) _
  have C1 : Hid (∀ w, BRows w b → Calls Tryz.prog 42 #[.agg #[.slice b.va b.vs.length b.vc, .slice b.pa b.ps.length b.pc, .slice b.qa b.qs.length b.qc, .int .i64 b.cs, .int .i64 b.nx]] w fun e w' => e = .returned (.bool (sbB b)) ∧ Below w.heap.size w w') := fun w h => ib_sb b ▸ ibase7 b hf hpa hqa w h
  clear hf hpa hqa
  cases ht : sbB b
  · rw [ht] at C1
    have HV : Hid (btxV b = .tuple #[.string ⟨#[]⟩, .bool false]) := by show _ = _; unfold btxV; rw [ht]; rfl
    clear ht
    go_enter Tryz.func15, Tryz.ntmps15
    go_wp2_with fail
    refine (C1.out _ (HP.out.below HB0.out)).mono ?_
    rintro e w1 ⟨rfl, hb1⟩
    have HB1 : Hid (Below w.heap.size w w1) := HB0.out.trans (hb1.mono HB0.out.size)
    clear hb1
    go_wp2
    go_ret2
    exact ⟨by rw [HV.out]; rfl, HB1.out⟩
  · rw [ht] at C1
    have HV : Hid (btxV b = .tuple #[.string ⟨(bsL b).toArray⟩, .bool true]) := by show _ = _; unfold btxV; rw [ht]; rfl
    have HS : Hid (BSm b) := base_small ht
    clear ht
    go_enter Tryz.func15, Tryz.ntmps15
    go_wp2_with fail
    refine (C1.out _ (HP.out.below HB0.out)).mono ?_
    rintro e w1 ⟨rfl, hb1⟩
    have HB1 : Hid (Below w.heap.size w w1) := HB0.out.trans (hb1.mono HB0.out.size)
    have BA1 := hide (BA0.out.below hb1)
    clear hb1 BA0 HB0
    have NW : Hid (Wtr (w1.alloc (.cells #[.pointer none, .slice none 0 0] 87)) w1.heap.size w1.heap.size []) := Wtr.new w1
    have HB2 : Hid (Below w1.heap.size w1 (w1.alloc (.cells #[.pointer none, .slice none 0 0] 87))) := (belowRefl w1).alloc (Nat.le_refl _) _
    have BA2 := hide (BA1.out.below HB2.out)
    have LW : Hid (BLow w1.heap.size b) := (HP.out.below HB1.out).allLow
    have RW : Hid (BRows (w1.alloc (.cells #[.pointer none, .slice none 0 0] 87)) b) := (HP.out.below HB1.out).below HB2.out
    have x0 := BA2.out.c0
    have x1 := BA2.out.c1
    have x2 := BA2.out.c2
    have x3 := BA2.out.c3
    have x4 := BA2.out.c4
    go_wp2_with fail
    refine (wbase [] (by simp) b w1.heap.size w1.heap.size HS.out _ LW.out NW.out RW.out).mono ?_
    rintro e w3 ⟨rfl, hw3, hb3, -⟩
    rw [List.nil_append] at hw3
    have HW3 := hide hw3
    have HB3 : Hid (Below w1.heap.size w1 w3) := HB2.out.trans hb3
    have NE : Hid (bsL b ≠ []) := bsL_ne b
    clear hw3 hb3 x0 x1 x2 x3 x4 NW
    generalize bsL b = L at HW3 NE HV
    go_wp2_with fail
    refine (bstring _ _ L _ HW3.out.is NE.out).mono ?_
    rintro e w4 ⟨rfl, hb4⟩
    have HB4 : Hid (Below w.heap.size w w4) := HB1.out.trans ((HB3.out.trans hb4).mono HB1.out.size)
    clear hb4
    go_wp2
    go_ret2
    exact ⟨by rw [HV.out]; rfl, HB4.out⟩

end Go.Proofs.YtpnnncfbodfnhaaGreat

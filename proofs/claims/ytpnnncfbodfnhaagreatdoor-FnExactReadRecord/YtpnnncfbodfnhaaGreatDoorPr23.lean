/- What a textReader does: what stays. -/
import Derived.Test.YtpnnncfbodfnhaaGreatDoorPr21
import Derived.Test.YtpnnncfbodfnhaaGreatDoorPr13
import Derived.Test.YtpnnncfbodfnhaaGreatDoorPr22
import Derived.Test.YtpnnncfbodfnhaaGreatDoorPr08
import Derived.Test.YtpnnncfbodfnhaaGreatDoorPr19
import Derived.Defers
import Derived.Recover
import Derived.Laws.Pointers
namespace Go.Proofs.YtpnnncfbodfnhaaGreatDoor
open Go.RowKit
open KM
open VM
attribute [local go_sem ↓] Go.wp_at_zero Go.wp_at_succ

def ta0 (t : Tx) : Ta := ⟨t, none, 0, none, 0⟩
theorem txs_ta0 (l : List Tx) : txs (l.map ta0) = l := by
 unfold txs
 rw [List.map_map]
 exact List.map_id _
def bbOf (cs nx : Nat) (vs : List Vr) (ps qs : List Tx) : Bb := ⟨vs, ps.map ta0, qs.map ta0, cs, nx, none, 0, none, 0, none, 0⟩
def rBs (x : ByteArray) (p : Int) : Option (Bb × Nat) :=
 match rN x p with
 | none => none
 | some a1 =>
  match rN x (a1.2 : Int) with
  | none => none
  | some a2 =>
   match rVs x (a2.2 : Int) with
   | none => none
   | some a3 =>
    match rTs x (a3.2 : Int) with
    | none => none
    | some a4 =>
     match rTs x (a4.2 : Int) with
     | none => none
     | some a5 => if sbB (bbOf a1.1 a2.1 a3.1 a4.1 a5.1) = true then some (bbOf a1.1 a2.1 a3.1 a4.1 a5.1, a5.2) else none
theorem many_all {α : Type} {f : Int → Option (α × Nat)} {P : α → Prop} (hf : ∀ q a q', f q = some (a, q') → P a) {p : Nat} : ∀ {k l q}, many f p k = some (l, q) → ∀ a ∈ l, P a := by
 intro k
 induction k with
 | zero => intro l q h; cases h; intro a ha; cases ha
 | succ k ih =>
  intro l q h
  simp only [many] at h
  split at h
  ·cases h
  ·rename_i a ha
   have h1 := ih (l := a.1) (q := a.2) ha
   split at h
   ·cases h
   ·rename_i b hb
    have h2 := hf _ b.1 b.2 hb
    cases h
    intro c hc
    rcases List.mem_append.1 hc with hc | hc
    ·exact h1 c hc
    ·rw [List.mem_singleton.1 hc]; exact h2
theorem rVr_fit {x : ByteArray} (q : Int) (a : Vr) (q' : Nat) (h : rVr x q = some (a, q')) : a.1.size ≤ 1048576 ∧ a.2.1.size ≤ 1048576 := by
 unfold rVr at h
 split at h
 ·cases h
 ·rename_i u hu
  have b1 := rS_bd hu
  split at h
  ·cases h
  ·rename_i v hv
   have b2 := rS_bd hv
   split at h
   ·cases h
   ·split at h
    ·cases h
    ·cases h
     exact ⟨by show u.1.size ≤ _; omega, by show v.1.size ≤ _; omega⟩
theorem rTx_right {x : ByteArray} (q : Int) (a : Tx) (q' : Nat) (h : rTx x q = some (a, q')) : txnB a = true := by
 unfold rTx at h
 iterate 8
  split at h
  ·cases h
 split at h
 ·rename_i ht
  cases h
  exact ht
 ·cases h
theorem small_fit {t : Tx} (h : Small t) : TFit t := ⟨Nat.le_trans h.rl (by omega), fun r hr => by have := h.rs r hr; omega, Nat.le_trans h.wl (by omega), fun r hr => by have := h.ws r hr; omega, Nat.le_trans h.nm (by omega)⟩
theorem rVs_fit {x : ByteArray} {p : Int} {l : List Vr} {q : Nat} (h : rVs x p = some (l, q)) : l.length ≤ x.size ∧ VFit l := by
 unfold rVs at h
 split at h
 ·cases h
 ·rename_i r hr
  have hb := rN_bd hr
  have h1 := many_len hb.2.2.1 rVr_bd h
  exact ⟨by omega, many_all rVr_fit h⟩
theorem rTs_fit {x : ByteArray} {p : Int} {l : List Tx} {q : Nat} (h : rTs x p = some (l, q)) : l.length ≤ x.size ∧ ∀ t ∈ l, txnB t = true := by
 unfold rTs at h
 split at h
 ·cases h
 ·rename_i r hr
  have hb := rN_bd hr
  have h1 := many_len hb.2.2.1 rTx_bd h
  exact ⟨by omega, many_all rTx_right h⟩

set_option maxRecDepth 100000 in
set_option maxHeartbeats 4000000 in
theorem ibs (x : ByteArray) (g : Nat) (p : Int) (hs : x.size ≤ 1048576) (w : World) (hd : Rd w g x p) :
  Calls Tryz.prog 80 #[.pointer (some ⟨g, 0, none⟩)] w fun e w' => w.grownBy w' (some g) ∧ ((e = .panicked PAN ∧ rBs x p = none) ∨ ∃ s q c, rBs x p = some (s, q) ∧ q ≤ x.size ∧ e = .returned (.agg #[.slice c.va c.vs.length c.vc, .slice c.pa c.ps.length c.pc, .slice c.qa c.qs.length c.qc, .int .i64 c.cs, .int .i64 c.nx]) ∧ BSame s c ∧ BLie w' w.heap.size w'.heap.size c ∧ Rd w' g x (q : Int)) := by
 have hgl := hd.lt
 have HD0 : Hid (Rd (w.alloc (.cells #[.slice none 0 0, .slice none 0 0, .slice none 0 0, .int .i64 0, .int .i64 0] 42)) g x p) := hd.alloc _
 have BR0 : Hid (Bx (w.alloc (.cells #[.slice none 0 0, .slice none 0 0, .slice none 0 0, .int .i64 0, .int .i64 0] 42)) w.heap.size [.slice none 0 0, .slice none 0 0, .slice none 0 0, .int .i64 0, .int .i64 0]) := Bx.new w [.slice none 0 0, .slice none 0 0, .slice none 0 0, .int .i64 0, .int .i64 0] 42
 have HG0 : Hid (w.grownBy (w.alloc (.cells #[.slice none 0 0, .slice none 0 0, .slice none 0 0, .int .i64 0, .int .i64 0] 42)) (some g)) := grown_below _ ((belowRefl w).alloc (Nat.le_refl _) _)
 have hgz : w.heap.size ≠ g := by omega
 clear hd
 go_enter Tryz.func80, Tryz.ntmps80
 go_wp2_with fail
 generalize hWW : (w.alloc (.cells #[.slice none 0 0, .slice none 0 0, .slice none 0 0, .int .i64 0, .int .i64 0] 42)) = W0 at HD0 BR0 HG0 ⊢
 have SZ : Hid (W0.heap.size = w.heap.size + 1) := by show _ = _; rw [← hWW]; exact World.size_alloc _ _
 clear hWW
 have K0 : Hid (w.heap.size + 1 ≤ W0.heap.size) := by show _ ≤ _; rw [SZ.out]; exact Nat.le_refl _
 clear SZ
 cases h1 : rN x p with
 | none =>
  refine (inum_no x g _ hs h1 _ HD0.out).mono ?_
  rintro e w1 ⟨rfl, hg⟩
  have HX : Hid (rBs x p = none) := by show _ = _; simp only [rBs, h1]
  have HGx := hide (grown_trans HG0.out hg)
  clear hg h1
  go_wp2
  exact ⟨rfl, HGx.out, Or.inl ⟨rfl, HX.out⟩⟩
 | some r1 =>
  obtain ⟨n1, q1⟩ := r1
  refine (inum_yes x g _ hs n1 q1 h1 _ HD0.out).mono ?_
  rintro e w1 ⟨rfl, hd, hg⟩
  have H1 := hide h1
  have HD1 := hide hd
  have BR1 := hide (BR0.out.grown hg hgz)
  have HG1 := hide (grown_trans HG0.out hg)
  have K1 : Hid (w.heap.size + 1 ≤ w1.heap.size) := Nat.le_trans K0.out hg.size
  clear hd hg h1 HD0 BR0 HG0
  go_wp2_with fail
  cases h2 : rN x (q1 : Int) with
  | none =>
   refine (inum_no x g _ hs h2 _ HD1.out).mono ?_
   rintro e w2 ⟨rfl, hg⟩
   have HX : Hid (rBs x p = none) := by show _ = _; simp only [rBs, H1.out, h2]
   have HGx := hide (grown_trans HG1.out hg)
   clear hg h2
   go_wp2
   exact ⟨rfl, HGx.out, Or.inl ⟨rfl, HX.out⟩⟩
  | some r2 =>
   obtain ⟨n2, q2⟩ := r2
   refine (inum_yes x g _ hs n2 q2 h2 _ HD1.out).mono ?_
   rintro e w2 ⟨rfl, hd, hg⟩
   have H2 := hide h2
   have HD2 := hide hd
   have BR2 := hide (BR1.out.grown hg hgz)
   have HG2 := hide (grown_trans HG1.out hg)
   have K2 : Hid (w.heap.size + 1 ≤ w2.heap.size) := Nat.le_trans K1.out hg.size
   clear hd hg h2 HD1 BR1 HG1
   go_wp2_with fail
   refine (ivs x g _ hs _ HD2.out).mono ?_
   rintro e w3 ⟨hg, ⟨rfl, h3⟩ | ⟨l3, q3, va, vc, h3, hq3, rfl, ho, hd⟩⟩
   ·have HX : Hid (rBs x p = none) := by show _ = _; simp only [rBs, H1.out, H2.out, h3]
    have HGx := hide (grown_trans HG2.out hg)
    clear hg h3
    go_wp2
    exact ⟨rfl, HGx.out, Or.inl ⟨rfl, HX.out⟩⟩
   ·clear hq3
    have H3 := hide h3
    have HD3 := hide hd
    have BR3 := hide (BR2.out.grown hg hgz)
    have HG3 := hide (grown_trans HG2.out hg)
    have K3 : Hid (w.heap.size + 1 ≤ w3.heap.size) := Nat.le_trans K2.out hg.size
    have Z23 : Hid (w2.heap.size ≤ w3.heap.size) := hg.size
    have OV3 := hide (Lies.of ho)
    clear ho
    clear hd hg h3 HD2 BR2 HG2
    go_wp2_with fail
    refine (its x g _ hs _ HD3.out).mono ?_
    rintro e w4 ⟨hg, ⟨rfl, h4⟩ | ⟨l4, q4, h4, hq4, ys4, pa, pc, rfl, hy, ho, hd⟩⟩
    ·have HX : Hid (rBs x p = none) := by show _ = _; simp only [rBs, H1.out, H2.out, H3.out, h4]
     have HGx := hide (grown_trans HG3.out hg)
     clear hg h4
     go_wp2
     exact ⟨rfl, HGx.out, Or.inl ⟨rfl, HX.out⟩⟩
    ·clear hq4
     have H4 := hide h4
     have HD4 := hide hd
     have BR4 := hide (BR3.out.grown hg hgz)
     have HG4 := hide (grown_trans HG3.out hg)
     have K4 : Hid (w.heap.size + 1 ≤ w4.heap.size) := Nat.le_trans K3.out hg.size
     have Z34 : Hid (w3.heap.size ≤ w4.heap.size) := hg.size
     have OV4 := hide (OV3.out.zn (grown_zn hg) (Or.inr (by have := K2.out; omega)))
     have LP4 := hide ho
     have Y4 := hide hy
     clear ho hy OV3
     clear hd hg h4 HD3 BR3 HG3
     go_wp2_with fail
     refine (its x g _ hs _ HD4.out).mono ?_
     rintro e w5 ⟨hg, ⟨rfl, h5⟩ | ⟨l5, q5, h5, hq5, ys5, qa, qc, rfl, hy, ho, hd⟩⟩
     ·have HX : Hid (rBs x p = none) := by show _ = _; simp only [rBs, H1.out, H2.out, H3.out, H4.out, h5]
      have HGx := hide (grown_trans HG4.out hg)
      clear hg h5
      go_wp2
      exact ⟨rfl, HGx.out, Or.inl ⟨rfl, HX.out⟩⟩
     ·have H5 := hide h5
      have HD5 := hide hd
      have BR5 := hide (BR4.out.grown hg hgz)
      have HG5 := hide (grown_trans HG4.out hg)
      have K5 : Hid (w.heap.size + 1 ≤ w5.heap.size) := Nat.le_trans K4.out hg.size
      have Z45 : Hid (w4.heap.size ≤ w5.heap.size) := hg.size
      have OV5 := hide (OV4.out.zn (grown_zn hg) (Or.inr (by have := K2.out; omega)))
      have LP5 := hide (LP4.out.zn (grown_zn hg) (Or.inr (by have := K3.out; omega)))
      have LQ5 := hide ho
      have Y5 := hide hy
      have HQ := hide hq5
      clear ho hy OV4 LP4 hq5
      clear hd hg h5 HD4 BR4 HG4
      obtain ⟨c, hc⟩ : ∃ c : Bb, c = ⟨l3, ys4, ys5, (n1 : Int), (n2 : Int), va, vc, pa, pc, qa, qc⟩ := ⟨_, rfl⟩
      have L : Hid (BLie w5 w2.heap.size w5.heap.size c) := by rw [hc]; exact ⟨w3.heap.size, w4.heap.size, Z23.out, Z34.out, Z45.out, OV5.out, LP5.out, LQ5.out⟩
      have SM : Hid (BSame (bbOf n1 n2 l3 l4 l5) c) := by rw [hc]; exact ⟨rfl, by rw [show (bbOf n1 n2 l3 l4 l5).ps = l4.map ta0 from rfl, txs_ta0]; exact Y4.out, by rw [show (bbOf n1 n2 l3 l4 l5).qs = l5.map ta0 from rfl, txs_ta0]; exact Y5.out, rfl, rfl⟩
      have FT : Hid (BFit c) := by
       have h3 := rVs_fit H3.out
       have h4 := rTs_fit H4.out
       have h5 := rTs_fit H5.out
       rw [hc]
       refine ⟨by show l3.length ≤ _; omega, h3.2, ?_, ?_⟩
       ·show LFit (txs ys4)
        rw [Y4.out]
        exact ⟨by omega, fun t ht => small_fit (right_small (h4.2 t ht))⟩
       ·show LFit (txs ys5)
        rw [Y5.out]
        exact ⟨by omega, fun t ht => small_fit (right_small (h5.2 t ht))⟩
      have HT : Hid (rBs x p = if sbB (bbOf n1 n2 l3 l4 l5) = true then some (bbOf n1 n2 l3 l4 l5, q5) else none) := by show _ = _; simp only [rBs, H1.out, H2.out, H3.out, H4.out, H5.out]
      have hsb : sbB (bbOf n1 n2 l3 l4 l5) = sbB c := (sb_same SM.out).symm
      rw [hsb] at HT
      clear hsb
      have e0 : .slice va l3.length vc = Value.slice c.va c.vs.length c.vc := by rw [hc]
      have e1 : .slice pa ys4.length pc = Value.slice c.pa c.ps.length c.pc := by rw [hc]
      have e2 : .slice qa ys5.length qc = Value.slice c.qa c.qs.length c.qc := by rw [hc]
      have e3 : (n1 : Int) = c.cs := by rw [hc]
      have e4 : (n2 : Int) = c.nx := by rw [hc]
      rw [e0, e1, e2, e3, e4]
      generalize bbOf n1 n2 l3 l4 l5 = s at *
      clear e0 e1 e2 e3 e4 hc H1 H2 H3 H4 H5 OV5 LP5 LQ5 Y4 Y5
      have NO := hide L.out.nones
      have hb9 : Below w5.heap.size w5 (w5.alloc (.cells #[.slice c.va c.vs.length c.vc, .slice c.pa c.ps.length c.pc, .slice c.qa c.qs.length c.qc, .int .i64 c.cs, .int .i64 c.nx] 42)) := (belowRefl w5).alloc (Nat.le_refl _) _
      have L9 : Hid (BLie (w5.alloc (.cells #[.slice c.va c.vs.length c.vc, .slice c.pa c.ps.length c.pc, .slice c.qa c.qs.length c.qc, .int .i64 c.cs, .int .i64 c.nx] 42)) w2.heap.size w5.heap.size c) := L.out.below hb9
      have HD9 : Hid (Rd (w5.alloc (.cells #[.slice c.va c.vs.length c.vc, .slice c.pa c.ps.length c.pc, .slice c.qa c.qs.length c.qc, .int .i64 c.cs, .int .i64 c.nx] 42)) g x (q5 : Int)) := HD5.out.below hb9
      have BR9 : Hid (Bx (w5.alloc (.cells #[.slice c.va c.vs.length c.vc, .slice c.pa c.ps.length c.pc, .slice c.qa c.qs.length c.qc, .int .i64 c.cs, .int .i64 c.nx] 42)) w.heap.size [.slice none 0 0, .slice none 0 0, .slice none 0 0, .int .i64 0, .int .i64 0]) := BR5.out.below hb9
      have HG9 : Hid (w.grownBy (w5.alloc (.cells #[.slice c.va c.vs.length c.vc, .slice c.pa c.ps.length c.pc, .slice c.qa c.qs.length c.qc, .int .i64 c.cs, .int .i64 c.nx] 42)) (some g)) := grown_trans HG5.out (grown_below _ hb9)
      have BT9 : Hid (Bx (w5.alloc (.cells #[.slice c.va c.vs.length c.vc, .slice c.pa c.ps.length c.pc, .slice c.qa c.qs.length c.qc, .int .i64 c.cs, .int .i64 c.nx] 42)) w5.heap.size [.slice c.va c.vs.length c.vc, .slice c.pa c.ps.length c.pc, .slice c.qa c.qs.length c.qc, .int .i64 c.cs, .int .i64 c.nx]) := Bx.new w5 [.slice c.va c.vs.length c.vc, .slice c.pa c.ps.length c.pc, .slice c.qa c.qs.length c.qc, .int .i64 c.cs, .int .i64 c.nx] 42
      have S9 : Hid (w5.heap.size ≤ (w5.alloc (.cells #[.slice c.va c.vs.length c.vc, .slice c.pa c.ps.length c.pc, .slice c.qa c.qs.length c.qc, .int .i64 c.cs, .int .i64 c.nx] 42)).heap.size) := hb9.size
      have S25 : Hid (w.heap.size + 1 ≤ w2.heap.size) := K2.out
      have S55 : Hid (w.heap.size + 1 ≤ w5.heap.size) := K5.out
      clear hb9 HD5 BR5 HG5 L
      have C1 : Hid (∀ W, BRows W c → Calls Tryz.prog 114 #[.agg #[.slice c.va c.vs.length c.vc, .slice c.pa c.ps.length c.pc, .slice c.qa c.qs.length c.qc, .int .i64 c.cs, .int .i64 c.nx]] W fun e w' => e = .returned (.bool (sbB c)) ∧ Below W.heap.size W w') := fun W h => ib_sb c ▸ ibase7 c FT.out NO.out.1 NO.out.2 W h
      go_wp2_with fail
      refine (C1.out _ L9.out.rows).mono ?_
      rintro e wA ⟨rfl, hb⟩
      have LA := hide (L9.out.below hb)
      have HDA := hide (HD9.out.below hb)
      have BRA := hide (BR9.out.below hb)
      have HGA := hide (grown_trans HG9.out (grown_below (some g) hb))
      have BTA := hide (BT9.out.below hb)
      have SA : Hid (w5.heap.size ≤ wA.heap.size) := Nat.le_trans S9.out hb.size
      clear hb L9 HD9 BR9 HG9 BT9 S9 C1
      cases htb : sbB c
      ·have HX : Hid (rBs x p = none) := by show _ = _; rw [HT.out, htb]; rfl
       clear htb
       go_wp2
       exact ⟨rfl, HGA.out, Or.inl ⟨rfl, HX.out⟩⟩
      have HX : Hid (rBs x p = some (s, q5)) := by show _ = _; rw [HT.out, htb]; rfl
      clear htb HT
      have o0 := BTA.out.c0
      have q0_ := BRA.out.c0
      have fq0 := BRA.out.fz 0
      have o1 := BTA.out.c1
      have q1_ := BRA.out.c1
      have fq1 := BRA.out.fz 1
      have o2 := BTA.out.c2
      have q2_ := BRA.out.c2
      have fq2 := BRA.out.fz 2
      have o3 := BTA.out.c3
      have q3_ := BRA.out.c3
      have fq3 := BRA.out.fz 3
      have o4 := BTA.out.c4
      have q4_ := BRA.out.c4
      have fq4 := BRA.out.fz 4
      go_wp2
      refine bodyPost_ret (v := .agg #[.slice c.va c.vs.length c.vc, .slice c.pa c.ps.length c.pc, .slice c.qa c.qs.length c.qc, .int .i64 c.cs, .int .i64 c.nx]) (by simp [results, Tryz.results80, go_sem, q0_, q1_, q2_, q3_, q4_]) rfl ⟨?_, Or.inr ⟨s, q5, c, HX.out, HQ.out, rfl, SM.out, ?_, ?_⟩⟩
      ·exact grown_belowB HGA.out ((((((Below.refl _ _).setCell (p := ⟨w.heap.size, 0, none⟩) (Nat.le_refl _) _).setCell (p := ⟨w.heap.size, 1, none⟩) (Nat.le_refl _) _).setCell (p := ⟨w.heap.size, 2, none⟩) (Nat.le_refl _) _).setCell (p := ⟨w.heap.size, 3, none⟩) (Nat.le_refl _) _).setCell (p := ⟨w.heap.size, 4, none⟩) (Nat.le_refl _) _) (Nat.le_refl _)
      ·exact ((((((LA.out).set (a := ⟨w.heap.size, 0, none⟩) (by have := S25.out; show w.heap.size < _; omega) _).set (a := ⟨w.heap.size, 1, none⟩) (by have := S25.out; show w.heap.size < _; omega) _).set (a := ⟨w.heap.size, 2, none⟩) (by have := S25.out; show w.heap.size < _; omega) _).set (a := ⟨w.heap.size, 3, none⟩) (by have := S25.out; show w.heap.size < _; omega) _).set (a := ⟨w.heap.size, 4, none⟩) (by have := S25.out; show w.heap.size < _; omega) _).mono (by have := S25.out; omega) (by simp [World.setCell]; exact SA.out)
      ·exact ((((HDA.out.setO (p := ⟨w.heap.size, 0, none⟩) hgz _).setO (p := ⟨w.heap.size, 1, none⟩) hgz _).setO (p := ⟨w.heap.size, 2, none⟩) hgz _).setO (p := ⟨w.heap.size, 3, none⟩) hgz _).setO (p := ⟨w.heap.size, 4, none⟩) hgz _

end Go.Proofs.YtpnnncfbodfnhaaGreatDoor

namespace Go.Proofs.YtpnnncfbodfnhaaGreatDoor
open Go.RowKit
open KM
open VM
attribute [local go_sem ↓] Go.wp_at_zero Go.wp_at_succ

theorem ta_yes (w : World) : (Instr.typeAssert (.iface 140 (.agg #[])) 20 140 true).run Tryz.prog w = .ok (.tuple #[.agg #[], .bool true]) w := by kernel_rfl
theorem ta_no (w : World) : (Instr.typeAssert .nilIface 20 140 true).run Tryz.prog w = .ok (.tuple #[.agg #[], .bool false]) w := by kernel_rfl
set_option maxRecDepth 100000 in
set_option maxHeartbeats 2000000 in
theorem catch_pan (c : Nat) (z : Bool) (w : World) (hc : w.cell? ⟨c, 0, none⟩ = some (.bool z)) (hz : w.frozen? ⟨c, 0, none⟩ = false) (hlt : c < w.heap.size) :
  CallsD Tryz.prog 75 #[.pointer (some ⟨c, 0, none⟩)] (.panicking PAN) w fun e u' w' =>
   e = .returned (.tuple #[]) ∧ u' = .panicking [{ v := .iface 140 (.agg #[]), recovered := true }] ∧ w' = (w.setCell ⟨c, 0, none⟩ (.bool false)).alloc (.cells #[] 140) := by
 refine callsD_of_wpS Tryz.func75 rfl fun c₀ cs hu => ?_
 unfold PAN at hu
 apply wpS_seq
 apply wpS_region
 simp [wpOpsS, go_sem, recoverD, hu, Tryz.ntmps75, Exit.thenS]
 refine wpS_of_wp ?_
 change Code.wp _ _ _ { tmps := #[.pointer (some ⟨c, 0, none⟩), .iface 140 (.agg #[]), undef, undef, .iface 140 (.agg #[]), undef, undef, undef, undef, undef, undef, undef, undef, undef, undef, undef, undef, undef, undef], defers := [] } w
 have ty := ta_yes
 have tn := ta_no
 go_wp2
 exact ⟨rfl, _, rfl, _, by simp [results, Tryz.results75], rfl, rfl, rfl⟩

set_option maxRecDepth 100000 in
set_option maxHeartbeats 2000000 in
theorem catch_idle (c : Nat) (z : Bool) (w : World) (hc : w.cell? ⟨c, 0, none⟩ = some (.bool z)) (hz : w.frozen? ⟨c, 0, none⟩ = false) (hlt : c < w.heap.size) :
  CallsD Tryz.prog 75 #[.pointer (some ⟨c, 0, none⟩)] .returning w fun e u' w' => e = .returned (.tuple #[]) ∧ u' = .returning ∧ w' = (w.setCell ⟨c, 0, none⟩ (.bool true)).alloc (.cells #[] 140) := by
 refine callsD_of_wpS Tryz.func75 rfl fun c₀ cs hu => ?_
 apply wpS_seq
 apply wpS_region
 simp [wpOpsS, go_sem, recoverD, hu, Tryz.ntmps75, Exit.thenS]
 refine wpS_of_wp ?_
 change Code.wp _ _ _ { tmps := #[.pointer (some ⟨c, 0, none⟩), .nilIface, undef, undef, .nilIface, undef, undef, undef, undef, undef, undef, undef, undef, undef, undef, undef, undef, undef, undef], defers := [] } w
 have ty := ta_yes
 have tn := ta_no
 go_wp2
 refine ⟨rfl, .returning, by rw [← hu], _, by simp [results, Tryz.results75], rfl, rfl, rfl⟩

end Go.Proofs.YtpnnncfbodfnhaaGreatDoor

namespace Go.Proofs.YtpnnncfbodfnhaaGreatDoor
open Go.RowKit
open KM
open VM
attribute [local go_sem ↓] Go.wp_at_zero Go.wp_at_succ

def zT : Tx := ⟨0, 0, 0, 0, [], [], false, ⟨#[]⟩⟩
def ansT : Option (Tx × Nat) → Tx × Nat × Bool
 | none => (zT, 0, false)
 | some r => (r.1, r.2, true)
theorem zlie (w : World) (lo hi : Nat) (h : lo ≤ hi) : TLie w lo hi zT none 0 none 0 := ⟨hi, h, Nat.le_refl _, ⟨World.ownsRow_nil _ _ _ _, fun g hg => by cases hg⟩, ⟨World.ownsRow_nil _ _ _ _, fun g hg => by cases hg⟩⟩
theorem below_ca {w1 : World} {c : Nat} (hc : c ≤ w1.heap.size) (v : Value) : Below c w1 ((w1.setCell ⟨c, 0, none⟩ v).alloc (.cells #[] 140)) := ((Below.refl c w1).setCell (Nat.le_refl _) v).alloc (by simpa [World.setCell] using hc) _
theorem kn_new {bs : List Nat} {w w1 w2 w3 : World} (h0 : Below w.heap.size w w1) (h1 : Kn bs w1 w2) (h2 : Below w.heap.size w2 w3) : Kn bs w w3 :=
 ⟨h2.os.trans (h1.os.trans h0.os), h2.tape.trans (h1.tape.trans h0.tape), h2.output.trans (h1.output.trans h0.output), Nat.le_trans h0.size (Nat.le_trans h1.size h2.size), fun j hj hn => (h2.block j hj).trans ((h1.block j (Nat.lt_of_lt_of_le hj h0.size) hn).trans (h0.block j hj))⟩

end Go.Proofs.YtpnnncfbodfnhaaGreatDoor

namespace Go.Proofs.YtpnnncfbodfnhaaGreatDoor
open Go.RowKit
open KM
open VM
attribute [local go_sem ↓] Go.wp_at_zero Go.wp_at_succ

def zB : Bb := ⟨[], [], [], 0, 0, none, 0, none, 0, none, 0⟩
def ansB : Option (Bb × Nat) → Bb × Nat × Bool
 | none => (zB, 0, false)
 | some r => (r.1, r.2, true)
theorem zBlie (w : World) (lo hi : Nat) (h : lo ≤ hi) : BLie w lo hi zB := ⟨hi, hi, h, Nat.le_refl _, Nat.le_refl _, ⟨World.ownsRow_nil _ _ _ _, fun g hg => by cases hg⟩, ⟨⟨World.ownsRow_nil _ _ _ _, fun g hg => by cases hg⟩, (show hi ≤ hi from Nat.le_refl _)⟩, ⟨⟨World.ownsRow_nil _ _ _ _, fun g hg => by cases hg⟩, (show hi ≤ hi from Nat.le_refl _)⟩⟩

end Go.Proofs.YtpnnncfbodfnhaaGreatDoor

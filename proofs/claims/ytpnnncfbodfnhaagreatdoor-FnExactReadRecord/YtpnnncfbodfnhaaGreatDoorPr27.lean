/- What spec.ReadBase returns. -/
import Derived.Test.YtpnnncfbodfnhaaGreatDoorPr01
import Derived.Test.YtpnnncfbodfnhaaGreatDoorPr26
import Derived.Test.YtpnnncfbodfnhaaGreatDoorPr23
import Derived.Test.YtpnnncfbodfnhaaGreatDoorPr14
import Derived.Test.YtpnnncfbodfnhaaGreatDoorPr17
import Derived.Deep.RegionHeld3
import Derived.Deep.Cut
import Derived.Deep.CutRange
namespace Go.Proofs.YtpnnncfbodfnhaaGreatDoor
open Go.RowKit
open KM
open VM
attribute [local go_sem ↓] Go.wp_at_zero Go.wp_at_succ

def VsQ (x : ByteArray) (p : Int) (b : Bool) (l : List Vr) (p' : Int) (b' : Bool) : Prop :=
 (b' = true ∧ (b = true ∨ rVs x p = none)) ∨ (b' = false ∧ b = false ∧ ∃ q : Nat, p' = (q : Int) ∧ (rVs x p = some (l, q) ∨ (120 < l.length ∧ ∀ l2 q2, rVs x p = some (l2, q2) → 120 < l2.length)))
theorem vsq_end {x : ByteArray} {p p1 pp : Int} {b b1 bb : Bool} {n k : Nat} {l : List Vr} (h1 : Stp (rN x p) 0 n p p1 b b1) (hm : MI (rVr x) b1 p1 k l pp bb) (hk : k ≤ n) (hl : l.length = k) (he : ¬ (k < n ∧ k < 130 ∧ bb = false)) : VsQ x p b l pp bb := by
 rcases hm with ⟨rfl, hb⟩ | ⟨rfl, rfl, q, rfl, hq⟩
 ·refine Or.inl ⟨rfl, ?_⟩
  rcases h1 with ⟨rfl, _⟩ | ⟨_, hn, _⟩ | ⟨_, rfl, q1, hn, rfl⟩
  ·exact Or.inl rfl
  ·right; unfold rVs; rw [hn]
  ·right
   rcases hb with hb | hb
   ·cases hb
   ·unfold rVs
    rw [hn]
    exact many_none (by simpa using hb) hk
 ·rcases h1 with ⟨_, e, _⟩ | ⟨_, _, e, _⟩ | ⟨rfl, _, q1, hn, rfl⟩
  ·cases e
  ·cases e
  ·refine Or.inr ⟨rfl, rfl, q, rfl, ?_⟩
   have e : rVs x p = many (rVr x) q1 n := by unfold rVs; rw [hn]
   have hq' : many (rVr x) q1 k = some (l, q) := by simpa using hq
   by_cases hkn : k = n
   ·left; rw [e, ← hkn]; exact hq'
   ·right
    have hM : ¬ k < 130 := fun h => he ⟨by omega, h, rfl⟩
    refine ⟨by omega, fun l2 q2 h2 => ?_⟩
    rw [e] at h2
    have hbn := rN_bd hn
    have := many_len hbn.2.2.1 rVr_bd h2
    omega
theorem MI.vr {x : ByteArray} {b0 : Bool} {p0 : Int} {k : Nat} {l : List Vr} {p p1 p2 p3 p4 : Int} {b1 b2 b3 b4 : Bool} {s1 s2 : ByteArray} {f : Bool} {n : Nat} (h : MI (rVr x) b0 p0 k l p false) (h1 : Stp (rS x p) ⟨#[]⟩ s1 p p1 false b1) (h2 : Stp (rS x p1) ⟨#[]⟩ s2 p1 p2 b1 b2) (h3 : Stp (rF x p2) false f p2 p3 b2 b3) (h4 : Stp (rN x p3) 0 n p3 p4 b3 b4) : MI (rVr x) b0 p0 (k + 1) (l ++ [(s1, s2, f, (n : Int))]) p4 b4 := by
 rcases h with ⟨e, _⟩ | ⟨_, e0, q, rfl, hm⟩
 ·cases e
 have B4 : b3 = true → b4 = true := fun e => by subst e; exact h4.bad
 have B3 : b2 = true → b4 = true := fun e => B4 (by subst e; exact h3.bad)
 have B2 : b1 = true → b4 = true := fun e => B3 (by subst e; exact h2.bad)
 rcases h1.good with ⟨e1, n1⟩ | ⟨rfl, q1, n1, rfl⟩
 ·exact Or.inl ⟨B2 e1, Or.inr (many_no hm (by unfold rVr; rw [n1]))⟩
 rcases h2.good with ⟨e2, n2⟩ | ⟨rfl, q2, n2, rfl⟩
 ·exact Or.inl ⟨B3 e2, Or.inr (many_no hm (by unfold rVr; rw [n1]; dsimp only; rw [n2]))⟩
 rcases h3.good with ⟨e3, n3⟩ | ⟨rfl, q3, n3, rfl⟩
 ·exact Or.inl ⟨B4 e3, Or.inr (many_no hm (by unfold rVr; rw [n1]; dsimp only; rw [n2]; dsimp only; rw [n3]))⟩
 rcases h4.good with ⟨e4, n4⟩ | ⟨rfl, q4, n4, rfl⟩
 ·exact Or.inl ⟨e4, Or.inr (many_no hm (by unfold rVr; rw [n1]; dsimp only; rw [n2]; dsimp only; rw [n3]; dsimp only; rw [n4]))⟩
 exact Or.inr ⟨rfl, e0, q4, rfl, many_yes hm (by unfold rVr; rw [n1]; dsimp only; rw [n2]; dsimp only; rw [n3]; dsimp only; rw [n4])⟩
theorem sb_len {b : Bb} (h : sbB b = true) : b.vs.length ≤ 120 ∧ b.ps.length ≤ 12 ∧ b.qs.length ≤ 3 := ⟨(base_small h).vl, (base_small h).pl, (base_small h).ql⟩
theorem bends {x : ByteArray} {p p1 p2 p3 p4 p5 : Int} {b1 b2 b3 b4 b5 : Bool} {n1 n2 : Nat} {l3 : List Vr} {l4 l5 : List Tx} (h1 : Stp (rN x p) 0 n1 p p1 false b1) (h2 : Stp (rN x p1) 0 n2 p1 p2 b1 b2) (h3 : VsQ x p2 b2 l3 p3 b3) (h4 : TsQ x p3 b3 12 l4 p4 b4) (h5 : TsQ x p4 b4 3 l5 p5 b5) :
  (b5 = true → rBs x p = none) ∧ (b5 = false → (sbB (bbOf n1 n2 l3 l4 l5) = false → rBs x p = none) ∧ (sbB (bbOf n1 n2 l3 l4 l5) = true → ∃ q : Nat, p5 = (q : Int) ∧ rBs x p = some (bbOf n1 n2 l3 l4 l5, q))) := by
 have B5 : b4 = true → b5 = true := fun e => by
  rcases h5 with ⟨h, _⟩ | ⟨_, h, _⟩
  ·exact h
  ·rw [e] at h; cases h
 have B4 : b3 = true → b5 = true := fun e => B5 (by
  rcases h4 with ⟨h, _⟩ | ⟨_, h, _⟩
  ·exact h
  ·rw [e] at h; cases h)
 have B3 : b2 = true → b5 = true := fun e => B4 (by
  rcases h3 with ⟨h, _⟩ | ⟨_, h, _⟩
  ·exact h
  ·rw [e] at h; cases h)
 have B2 : b1 = true → b5 = true := fun e => B3 (by subst e; exact h2.bad)
 have key : rBs x p = none → (sbB (bbOf n1 n2 l3 l4 l5) = true → b5 = false → False) → (b5 = true → rBs x p = none) ∧ (b5 = false → (sbB (bbOf n1 n2 l3 l4 l5) = false → rBs x p = none) ∧ (sbB (bbOf n1 n2 l3 l4 l5) = true → ∃ q : Nat, p5 = (q : Int) ∧ rBs x p = some (bbOf n1 n2 l3 l4 l5, q))) :=
  fun hn hf => ⟨fun _ => hn, fun hb => ⟨fun _ => hn, fun ht => (hf ht hb).elim⟩⟩
 have no : ∀ {c : Bool}, c = true → c = false → False := fun h1 h2 => by rw [h1] at h2; cases h2
 rcases h1.good with ⟨e1, m1⟩ | ⟨rfl, q1, m1, rfl⟩
 ·exact key (by simp only [rBs, m1]) (fun _ => no (B2 e1))
 rcases h2.good with ⟨e2, m2⟩ | ⟨rfl, q2, m2, rfl⟩
 ·exact key (by simp only [rBs, m1, m2]) (fun _ => no (B3 e2))
 rcases h3 with ⟨e3, h⟩ | ⟨rfl, _, q3, rfl, m3⟩
 ·rcases h with h | m3
  ·cases h
  ·exact key (by simp only [rBs, m1, m2, m3]) (fun _ => no (B4 e3))
 rcases m3 with m3 | ⟨g3, m3⟩
 rotate_left
 ·refine key ?_ (fun ht => ?_)
  ·cases hv : rVs x (q2 : Int) with
   | none => simp only [rBs, m1, m2, hv]
   | some r3 =>
    have hl := m3 r3.1 r3.2 hv
    cases ht : rTs x (r3.2 : Int) with
    | none => simp only [rBs, m1, m2, hv, ht]
    | some r4 =>
     cases hu : rTs x (r4.2 : Int) with
     | none => simp only [rBs, m1, m2, hv, ht, hu]
     | some r5 =>
      simp only [rBs, m1, m2, hv, ht, hu]
      rw [if_neg]
      intro h
      have := (sb_len h).1
      have e : (bbOf n1 n2 r3.1 r4.1 r5.1).vs.length = r3.1.length := rfl
      omega
  ·have := (sb_len ht).1
   have e : (bbOf n1 n2 l3 l4 l5).vs.length = l3.length := rfl
   omega
 rcases h4 with ⟨e4, h⟩ | ⟨rfl, _, q4, rfl, m4⟩
 ·rcases h with h | m4
  ·cases h
  ·exact key (by simp only [rBs, m1, m2, m3, m4]) (fun _ => no (B5 e4))
 rcases m4 with m4 | ⟨g4, m4⟩
 rotate_left
 ·refine key ?_ (fun ht => ?_)
  ·cases ht : rTs x (q3 : Int) with
   | none => simp only [rBs, m1, m2, m3, ht]
   | some r4 =>
    have hl := m4 r4.1 r4.2 ht
    cases hu : rTs x (r4.2 : Int) with
    | none => simp only [rBs, m1, m2, m3, ht, hu]
    | some r5 =>
     simp only [rBs, m1, m2, m3, ht, hu]
     rw [if_neg]
     intro h
     have := (sb_len h).2.1
     have e : (bbOf n1 n2 l3 r4.1 r5.1).ps.length = r4.1.length := List.length_map _
     omega
  ·have := (sb_len ht).2.1
   have e : (bbOf n1 n2 l3 l4 l5).ps.length = l4.length := List.length_map _
   omega
 rcases h5 with ⟨e5, h⟩ | ⟨rfl, _, q5, rfl, m5⟩
 ·rcases h with h | m5
  ·cases h
  ·exact key (by simp only [rBs, m1, m2, m3, m4, m5]) (fun _ => no e5)
 rcases m5 with m5 | ⟨g5, m5⟩
 ·have e : rBs x p = if sbB (bbOf n1 n2 l3 l4 l5) = true then some (bbOf n1 n2 l3 l4 l5, q5) else none := by simp only [rBs, m1, m2, m3, m4, m5]
  refine ⟨fun h => (by cases h), fun _ => ⟨fun hf => (by rw [e, if_neg (by rw [hf]; simp)]), fun ht => ⟨q5, rfl, (by rw [e, if_pos ht])⟩⟩⟩
 ·refine key ?_ (fun ht => ?_)
  ·cases hu : rTs x (q4 : Int) with
   | none => simp only [rBs, m1, m2, m3, m4, hu]
   | some r5 =>
    have hl := m5 r5.1 r5.2 hu
    simp only [rBs, m1, m2, m3, m4, hu]
    rw [if_neg]
    intro h
    have := (sb_len h).2.2
    have e : (bbOf n1 n2 l3 l4 r5.1).qs.length = r5.1.length := List.length_map _
    omega
  ·have := (sb_len ht).2.2
   have e : (bbOf n1 n2 l3 l4 l5).qs.length = l5.length := List.length_map _
   omega

set_option maxRecDepth 100000 in
set_option maxHeartbeats 8000000 in
theorem srb (x : ByteArray) (p : Int) (hs : x.size ≤ 1048576) (s : Bb) (q : Nat) (bo : Bool) (ha : ansB (rBs x p) = (s, q, bo)) (w : World) :
  Calls Tryz.prog 33 #[.string x, .int .i64 p] w fun e w' => ∃ c, e = .returned (.tuple #[.agg #[.slice c.va c.vs.length c.vc, .slice c.pa c.ps.length c.pc, .slice c.qa c.qs.length c.qc, .int .i64 c.cs, .int .i64 c.nx], .int .i64 (q : Int), .bool bo]) ∧ BSame s c ∧ BLie w' w.heap.size w'.heap.size c ∧ Below w.heap.size w w' := by
 have HA : Hid (ansB (rBs x p) = (s, q, bo)) := ha
 clear ha
 have BR : Hid (Bx ((w.alloc (.cells #[.slice none 0 0, .slice none 0 0, .slice none 0 0, .int .i64 0, .int .i64 0] 42)).alloc (.cells #[.string x, .int .i64 p, .bool false] 80)) w.heap.size [.slice none 0 0, .slice none 0 0, .slice none 0 0, .int .i64 0, .int .i64 0]) := (Bx.new w [.slice none 0 0, .slice none 0 0, .slice none 0 0, .int .i64 0, .int .i64 0] 42).alloc _
 have CR : Hid (Cr ((w.alloc (.cells #[.slice none 0 0, .slice none 0 0, .slice none 0 0, .int .i64 0, .int .i64 0] 42)).alloc (.cells #[.string x, .int .i64 p, .bool false] 80)) (w.heap.size + 1) x p false) := by
  have h := Bx.new (w.alloc (.cells #[.slice none 0 0, .slice none 0 0, .slice none 0 0, .int .i64 0, .int .i64 0] 42)) [.string x, .int .i64 p, .bool false] 80
  rw [World.size_alloc] at h
  exact h
 have HB : Hid (Below w.heap.size w ((w.alloc (.cells #[.slice none 0 0, .slice none 0 0, .slice none 0 0, .int .i64 0, .int .i64 0] 42)).alloc (.cells #[.string x, .int .i64 p, .bool false] 80))) := ((belowRefl w).alloc (Nat.le_refl _) _).alloc (by simp) _
 have C12 : Hid (∀ (p : Int) (b : Bool) (W : World), Cr W (w.heap.size + 1) x p b → Calls Tryz.prog 73 #[.pointer (some ⟨w.heap.size + 1, 0, none⟩), .int .i64 12] W fun e w' => ∃ (ys : List Ta) (a1 : Option Addr) (c1 : Nat), e = .returned (.slice a1 ys.length c1) ∧ TsR x p b 12 (w.heap.size + 1) ys a1 c1 W w') := fun p b W h => sts 12 (by omega) x (w.heap.size + 1) p b hs W h
 have C3 : Hid (∀ (p : Int) (b : Bool) (W : World), Cr W (w.heap.size + 1) x p b → Calls Tryz.prog 73 #[.pointer (some ⟨w.heap.size + 1, 0, none⟩), .int .i64 3] W fun e w' => ∃ (ys : List Ta) (a1 : Option Addr) (c1 : Nat), e = .returned (.slice a1 ys.length c1) ∧ TsR x p b 3 (w.heap.size + 1) ys a1 c1 W w') := fun p b W h => sts 3 (by omega) x (w.heap.size + 1) p b hs W h
 go_enter Tryz.func33, Tryz.ntmps33
 go_wp2_with fail
 generalize ((w.alloc (.cells #[.slice none 0 0, .slice none 0 0, .slice none 0 0, .int .i64 0, .int .i64 0] 42)).alloc (.cells #[.string x, .int .i64 p, .bool false] 80)) = v0 at *
 refine (svar x (w.heap.size + 1) p false hs _ CR.out).mono ?_
 rintro e v1 ⟨n1, p1, b1, rfl, hn1, h1, hc, hg⟩
 replace BR := hide (BR.out.grown hg (by omega))
 replace HB := hide (HB.out.grown hg HB.out.size (fun j hj => by cases hj; omega))
 replace CR : Hid (Cr v1 (w.heap.size + 1) x p1 b1) := hc
 clear hc hg
 have H1 := hide h1
 clear h1
 have hN : w.heap.size + 1 < v1.heap.size := CR.out.lt
 go_wp2_with fail
 have hba : Below v1.heap.size v1 (v1.alloc (.cells #[.slice none 0 0, .slice none 0 0, .slice none 0 0, .int .i64 (n1 : Int), .int .i64 0] 42)) := (belowRefl v1).alloc (Nat.le_refl _) _
 replace BR := hide (BR.out.below hba)
 replace CR := hide (CR.out.below hba)
 replace HB := hide (HB.out.trans (hba.mono HB.out.size))
 have BX : Hid (Bx (v1.alloc (.cells #[.slice none 0 0, .slice none 0 0, .slice none 0 0, .int .i64 (n1 : Int), .int .i64 0] 42)) v1.heap.size [.slice none 0 0, .slice none 0 0, .slice none 0 0, .int .i64 (n1 : Int), .int .i64 0]) := Bx.new v1 [.slice none 0 0, .slice none 0 0, .slice none 0 0, .int .i64 (n1 : Int), .int .i64 0] 42
 clear hba
 have SZ : Hid (v1.heap.size + 1 ≤ (v1.alloc (.cells #[.slice none 0 0, .slice none 0 0, .slice none 0 0, .int .i64 (n1 : Int), .int .i64 0] 42)).heap.size) := by show _ ≤ _; rw [World.size_alloc]; exact Nat.le_refl _
 generalize (v1.alloc (.cells #[.slice none 0 0, .slice none 0 0, .slice none 0 0, .int .i64 (n1 : Int), .int .i64 0] 42)) = v2 at *
 refine (svar x (w.heap.size + 1) p1 b1 hs _ CR.out).mono ?_
 rintro e v3 ⟨n2, p2, b2, rfl, hn2, h2, hc, hg⟩
 replace BR := hide (BR.out.grown hg (by omega))
 replace HB := hide (HB.out.grown hg HB.out.size (fun j hj => by cases hj; omega))
 replace BX := hide (BX.out.grown hg (by omega))
 replace SZ := hide (Nat.le_trans SZ.out hg.size)
 replace CR : Hid (Cr v3 (w.heap.size + 1) x p2 b2) := hc
 clear hc hg
 have H2 := hide h2
 clear h2
 have cz := BX.out.c4
 have fz := BX.out.fz 4
 go_wp2_with fail
 clear cz fz
 replace BR : Hid (Bx (v3.setCell ⟨v1.heap.size, 4, none⟩ (.int .i64 (n2 : Int))) w.heap.size [.slice none 0 0, .slice none 0 0, .slice none 0 0, .int .i64 0, .int .i64 0]) := BR.out.setO (p := ⟨v1.heap.size, 4, none⟩) (by show v1.heap.size ≠ w.heap.size; omega) _
 replace CR : Hid (Bx (v3.setCell ⟨v1.heap.size, 4, none⟩ (.int .i64 (n2 : Int))) (w.heap.size + 1) [.string x, .int .i64 p2, .bool b2]) := CR.out.setO (p := ⟨v1.heap.size, 4, none⟩) (by show v1.heap.size ≠ (w.heap.size + 1); omega) _
 replace HB : Hid (Below w.heap.size w (v3.setCell ⟨v1.heap.size, 4, none⟩ (.int .i64 (n2 : Int)))) := HB.out.setCell (p := ⟨v1.heap.size, 4, none⟩) (by show w.heap.size ≤ v1.heap.size; omega) _
 replace BX : Hid (Bx (v3.setCell ⟨v1.heap.size, 4, none⟩ (.int .i64 (n2 : Int))) v1.heap.size [.slice none 0 0, .slice none 0 0, .slice none 0 0, .int .i64 (n1 : Int), .int .i64 (n2 : Int)]) := BX.out.set 4 _
 replace SZ : Hid (v1.heap.size + 1 ≤ (v3.setCell ⟨v1.heap.size, 4, none⟩ (.int .i64 (n2 : Int))).heap.size) := by show _ ≤ _; simpa [World.setCell] using SZ.out
 have hyv4 : v3.heap.size ≤ (v3.setCell ⟨v1.heap.size, 4, none⟩ (.int .i64 (n2 : Int))).heap.size := by simp [World.setCell]
 generalize (v3.setCell ⟨v1.heap.size, 4, none⟩ (.int .i64 (n2 : Int))) = v4 at *
 refine (svar x (w.heap.size + 1) p2 b2 hs _ CR.out).mono ?_
 rintro e v5 ⟨n3, p3, b3, rfl, hn3, h3, hc, hg⟩
 replace BR := hide (BR.out.grown hg (by omega))
 replace HB := hide (HB.out.grown hg HB.out.size (fun j hj => by cases hj; omega))
 replace BX := hide (BX.out.grown hg (by omega))
 replace SZ := hide (Nat.le_trans SZ.out hg.size)
 replace CR : Hid (Cr v5 (w.heap.size + 1) x p3 b3) := hc
 clear hc hg
 have H3 := hide h3
 clear h3
 go_wp2
 go_loopw [10] (fun t wr => ∃ (k : Nat) (l : List Vr) (va : Option Addr) (vc : Nat) (pp : Int) (bb : Bool), k ≤ n3 ∧ k ≤ 130 ∧ t = .int .i64 k ∧ Hid (l.length = k) ∧ Hid (VFit l) ∧ Hid (MI (rVr x) b3 p3 k l pp bb) ∧ Hid (Bx wr w.heap.size [.slice none 0 0, .slice none 0 0, .slice none 0 0, .int .i64 0, .int .i64 0]) ∧ Hid (Cr wr (w.heap.size + 1) x pp bb) ∧ Hid (Bx wr v1.heap.size [.slice va l.length vc, .slice none 0 0, .slice none 0 0, .int .i64 (n1 : Int), .int .i64 (n2 : Int)]) ∧ Hid (Below w.heap.size w wr) ∧ Hid (v1.heap.size + 1 ≤ wr.heap.size) ∧ Hid (GOwn encV 106 wr (v1.heap.size + 1) (.slice va l.length vc) l)) (fun t _ => n3 - (intOf t).toNat)
 case atStart => exact ⟨0, [], none, 0, p3, b3, Nat.zero_le _, Nat.zero_le _, rfl, rfl, (fun x hx => by cases hx), MI.start (H3.out.nonneg), BR, CR, BX, HB, SZ, World.ownsRow_nil _ _ _ _⟩
 case round =>
  clear BR BX CR HB SZ
  obtain ⟨k, l, va, vc, pp, bb, hk, hk2, rfl, HLen, HFit, HM, BR, CR, BX, HB, SZ, GO⟩ := hrel
  go_upto_region 6 with fail
  go_cut [37] from 24 to 57 (fun c wx => ∃ cn : Bool, c = .bool cn ∧ (cn = true ↔ (k < n3 ∧ k < 130 ∧ bb = false)) ∧ wr = wx)
  case first =>
   by_cases h1 : k < n3
   ·have h1' : (k : Int) < (n3 : Int) := by omega
    have h1d : decide (k < n3) = true := decide_eq_true h1
    by_cases h2 : k < 130
    ·have h2' : (k : Int) < 130 := by omega
     have h2d : decide (k < 130) = true := decide_eq_true h2
     have x2 := CR.out.c2
     cases bb
     ·go_wp2
      go_meet
      exact ⟨true, rfl, by simp [h1, h2], rfl⟩
     ·go_wp2
      go_meet
      exact ⟨false, rfl, by simp, rfl⟩
    ·have h2' : ¬ (k : Int) < 130 := by omega
     have h2d : decide (k < 130) = false := decide_eq_false h2
     have h2e : decide ((k : Int) < 130) = false := decide_eq_false h2'
     go_wp2
     go_meet
     exact ⟨false, rfl, by simp [h2], rfl⟩
   ·have h1' : ¬ (k : Int) < (n3 : Int) := by omega
    have h1d : decide (k < n3) = false := decide_eq_false h1
    have h1e : decide ((k : Int) < (n3 : Int)) = false := decide_eq_false h1'
    go_wp2
    go_meet
    exact ⟨false, rfl, by simp [h1], rfl⟩
  case rest =>
  obtain ⟨cn, rfl, hcn, rfl⟩ := hcut
  have HCN := hide hcn
  clear hcn
  cases cn
  ·obtain ⟨wx, rfl⟩ : ∃ z, z = wr := ⟨_, rfl⟩
   have HV : Hid (VsQ x p2 b2 l pp bb) := vsq_end H3.out HM.out hk HLen.out (fun h => by have := HCN.out.2 h; cases this)
   have hlen : l.length ≤ 130 := by rw [HLen.out]; exact hk2
   clear HCN HM HLen
   have LV := hide (Lies.of GO.out)
   clear GO
   have hSX := SZ.out
   go_wp2_with fail
   refine (C12.out pp bb _ CR.out).mono ?_
   rintro e y1 ⟨ys4, pa, pc, rfl, p4, b4, hq4, hn4, hr4, hl4, hc, hg⟩
   have hz4 : wx.heap.size ≤ y1.heap.size := hg.size
   replace BR := hide (BR.out.grown hg (by omega))
   replace BX := hide (BX.out.grown hg (by omega))
   replace HB := hide (HB.out.grown hg HB.out.size (fun j hj => by cases hj; omega))
   replace SZ := hide (Nat.le_trans SZ.out hg.size)
   replace LV := hide (LV.out.zn (grown_zn hg) (Or.inr (by omega)))
   replace CR : Hid (Cr y1 (w.heap.size + 1) x p4 b4) := hc
   have L4 : Hid (LLie y1 wx.heap.size y1.heap.size (.slice pa ys4.length pc) ys4) := hl4
   have HQ4 := hide hq4
   have HR4 := hide hr4
   have HT4 := hide hn4
   clear hn4 hc hg hl4 hq4 hr4
   have cz := BX.out.c1
   have fz := BX.out.fz 1
   go_upto_region 14 with fail
   clear cz fz
   replace BR : Hid (Bx (y1.setCell ⟨v1.heap.size, 1, none⟩ (.slice pa ys4.length pc)) w.heap.size [.slice none 0 0, .slice none 0 0, .slice none 0 0, .int .i64 0, .int .i64 0]) := BR.out.setO (p := ⟨v1.heap.size, 1, none⟩) (by show v1.heap.size ≠ w.heap.size; omega) _
   replace CR : Hid (Bx (y1.setCell ⟨v1.heap.size, 1, none⟩ (.slice pa ys4.length pc)) (w.heap.size + 1) [.string x, .int .i64 p4, .bool b4]) := CR.out.setO (p := ⟨v1.heap.size, 1, none⟩) (by show v1.heap.size ≠ (w.heap.size + 1); omega) _
   replace BX : Hid (Bx (y1.setCell ⟨v1.heap.size, 1, none⟩ (.slice pa ys4.length pc)) v1.heap.size [.slice va l.length vc, .slice pa ys4.length pc, .slice none 0 0, .int .i64 (n1 : Int), .int .i64 (n2 : Int)]) := BX.out.set 1 _
   replace HB : Hid (Below w.heap.size w (y1.setCell ⟨v1.heap.size, 1, none⟩ (.slice pa ys4.length pc))) := HB.out.setCell (p := ⟨v1.heap.size, 1, none⟩) (by show w.heap.size ≤ v1.heap.size; omega) _
   replace SZ : Hid (v1.heap.size + 1 ≤ (y1.setCell ⟨v1.heap.size, 1, none⟩ (.slice pa ys4.length pc)).heap.size) := by show _ ≤ _; simpa [World.setCell] using SZ.out
   replace LV : Hid (Lies encV 106 (y1.setCell ⟨v1.heap.size, 1, none⟩ (.slice pa ys4.length pc)) (v1.heap.size + 1) wx.heap.size (.slice va l.length vc) l) := LV.out.set (a := ⟨v1.heap.size, 1, none⟩) (by show v1.heap.size < _; omega) _
   replace L4 : Hid (LLie (y1.setCell ⟨v1.heap.size, 1, none⟩ (.slice pa ys4.length pc)) wx.heap.size y1.heap.size (.slice pa ys4.length pc) ys4) := L4.out.set (a := ⟨v1.heap.size, 1, none⟩) (by show v1.heap.size < _; omega) _
   have hyy2 : y1.heap.size ≤ (y1.setCell ⟨v1.heap.size, 1, none⟩ (.slice pa ys4.length pc)).heap.size := by simp [World.setCell]
   generalize (y1.setCell ⟨v1.heap.size, 1, none⟩ (.slice pa ys4.length pc)) = y2 at *
   go_wp2_with fail
   refine (C3.out p4 b4 _ CR.out).mono ?_
   rintro e y3 ⟨ys5, qa, qc, rfl, p5, b5, hq5, hn5, hr5, hl5, hc, hg⟩
   have hz5 : y2.heap.size ≤ y3.heap.size := hg.size
   replace BR := hide (BR.out.grown hg (by omega))
   replace BX := hide (BX.out.grown hg (by omega))
   replace HB := hide (HB.out.grown hg HB.out.size (fun j hj => by cases hj; omega))
   replace SZ := hide (Nat.le_trans SZ.out hg.size)
   replace LV := hide (LV.out.zn (grown_zn hg) (Or.inr (by omega)))
   replace L4 := hide (L4.out.zn (grown_zn hg) (Or.inr (by omega)))
   replace CR : Hid (Cr y3 (w.heap.size + 1) x p5 b5) := hc
   have L5 : Hid (LLie y3 y2.heap.size y3.heap.size (.slice qa ys5.length qc) ys5) := hl5
   have HQ5 := hide hq5
   have HR5 := hide hr5
   have HT5 := hide hn5
   clear hn5 hc hg hl5 hq5 hr5
   have cz := BX.out.c2
   have fz := BX.out.fz 2
   go_upto_region 15 with fail
   clear cz fz
   replace BR : Hid (Bx (y3.setCell ⟨v1.heap.size, 2, none⟩ (.slice qa ys5.length qc)) w.heap.size [.slice none 0 0, .slice none 0 0, .slice none 0 0, .int .i64 0, .int .i64 0]) := BR.out.setO (p := ⟨v1.heap.size, 2, none⟩) (by show v1.heap.size ≠ w.heap.size; omega) _
   replace CR : Hid (Bx (y3.setCell ⟨v1.heap.size, 2, none⟩ (.slice qa ys5.length qc)) (w.heap.size + 1) [.string x, .int .i64 p5, .bool b5]) := CR.out.setO (p := ⟨v1.heap.size, 2, none⟩) (by show v1.heap.size ≠ (w.heap.size + 1); omega) _
   replace BX : Hid (Bx (y3.setCell ⟨v1.heap.size, 2, none⟩ (.slice qa ys5.length qc)) v1.heap.size [.slice va l.length vc, .slice pa ys4.length pc, .slice qa ys5.length qc, .int .i64 (n1 : Int), .int .i64 (n2 : Int)]) := BX.out.set 2 _
   replace HB : Hid (Below w.heap.size w (y3.setCell ⟨v1.heap.size, 2, none⟩ (.slice qa ys5.length qc))) := HB.out.setCell (p := ⟨v1.heap.size, 2, none⟩) (by show w.heap.size ≤ v1.heap.size; omega) _
   replace SZ : Hid (v1.heap.size + 1 ≤ (y3.setCell ⟨v1.heap.size, 2, none⟩ (.slice qa ys5.length qc)).heap.size) := by show _ ≤ _; simpa [World.setCell] using SZ.out
   replace LV : Hid (Lies encV 106 (y3.setCell ⟨v1.heap.size, 2, none⟩ (.slice qa ys5.length qc)) (v1.heap.size + 1) wx.heap.size (.slice va l.length vc) l) := LV.out.set (a := ⟨v1.heap.size, 2, none⟩) (by show v1.heap.size < _; omega) _
   replace L4 : Hid (LLie (y3.setCell ⟨v1.heap.size, 2, none⟩ (.slice qa ys5.length qc)) wx.heap.size y1.heap.size (.slice pa ys4.length pc) ys4) := L4.out.set (a := ⟨v1.heap.size, 2, none⟩) (by show v1.heap.size < _; omega) _
   replace L5 : Hid (LLie (y3.setCell ⟨v1.heap.size, 2, none⟩ (.slice qa ys5.length qc)) y2.heap.size y3.heap.size (.slice qa ys5.length qc) ys5) := L5.out.set (a := ⟨v1.heap.size, 2, none⟩) (by show v1.heap.size < _; omega) _
   have hyy4 : y3.heap.size ≤ (y3.setCell ⟨v1.heap.size, 2, none⟩ (.slice qa ys5.length qc)).heap.size := by simp [World.setCell]
   generalize (y3.setCell ⟨v1.heap.size, 2, none⟩ (.slice qa ys5.length qc)) = y4 at *
   have HEnd := hide (bends H1.out H2.out HV.out HQ4.out HQ5.out)
   obtain ⟨c, hcc⟩ : ∃ c : Bb, c = ⟨l, ys4, ys5, (n1 : Int), (n2 : Int), va, vc, pa, pc, qa, qc⟩ := ⟨_, rfl⟩
   have SM : Hid (BSame (bbOf n1 n2 l (txs ys4) (txs ys5)) c) := by rw [hcc]; exact ⟨rfl, by rw [show (bbOf n1 n2 l (txs ys4) (txs ys5)).ps = (txs ys4).map ta0 from rfl, txs_ta0], by rw [show (bbOf n1 n2 l (txs ys4) (txs ys5)).qs = (txs ys5).map ta0 from rfl, txs_ta0], rfl, rfl⟩
   have FT : Hid (BFit c) := by
    rw [hcc]
    exact ⟨by show l.length ≤ _; omega, HFit.out, ⟨(by have := HT4.out; show (txs ys4).length ≤ _; omega), fun t ht => small_fit (right_small (HR4.out t ht))⟩, ⟨(by have := HT5.out; show (txs ys5).length ≤ _; omega), fun t ht => small_fit (right_small (HR5.out t ht))⟩⟩
   have LC : Hid (BLie y4 (v1.heap.size + 1) y3.heap.size c) := by
    rw [hcc]
    exact ⟨wx.heap.size, y1.heap.size, hSX, hz4, by omega, LV.out, L4.out, L5.out.mono (by omega) (Nat.le_refl _)⟩
   rw [show bbOf n1 n2 l (txs ys4) (txs ys5) = bbOf n1 n2 l (txs ys4) (txs ys5) from rfl] at HEnd
   have hsb : sbB (bbOf n1 n2 l (txs ys4) (txs ys5)) = sbB c := (sb_same SM.out).symm
   rw [hsb] at HEnd
   clear hsb
   have e0 : Value.slice va l.length vc = .slice c.va c.vs.length c.vc := by rw [hcc]
   have e1 : Value.slice pa ys4.length pc = .slice c.pa c.ps.length c.pc := by rw [hcc]
   have e2 : Value.slice qa ys5.length qc = .slice c.qa c.qs.length c.qc := by rw [hcc]
   have e3 : (n1 : Int) = c.cs := by rw [hcc]
   have e4 : (n2 : Int) = c.nx := by rw [hcc]
   rw [e0, e1, e2, e3, e4] at BX
   clear e0 e1 e2 e3 e4 hcc LV L4 L5 HV HQ4 HQ5 HR4 HR5 H1 H2 H3
   generalize bbOf n1 n2 l (txs ys4) (txs ys5) = s5 at *
   have c2 := CR.out.c2
   cases b5
   rotate_left
   ·have hx : rBs x p = none := HEnd.out.1 rfl
    have h := HA.out
    rw [hx] at h
    cases h
    clear hx
    have q0_ := BR.out.c0
    have fq0 := BR.out.fz 0
    have q1_ := BR.out.c1
    have fq1 := BR.out.fz 1
    have q2_ := BR.out.c2
    have fq2 := BR.out.fz 2
    have q3_ := BR.out.c3
    have fq3 := BR.out.fz 3
    have q4_ := BR.out.c4
    have fq4 := BR.out.fz 4
    go_wp2
    have HBF : Below w.heap.size w (((((y4.setCell ⟨w.heap.size, 0, none⟩ (.slice none 0 0)).setCell ⟨w.heap.size, 1, none⟩ (.slice none 0 0)).setCell ⟨w.heap.size, 2, none⟩ (.slice none 0 0)).setCell ⟨w.heap.size, 3, none⟩ (.int .i64 0)).setCell ⟨w.heap.size, 4, none⟩ (.int .i64 0)) := ((((HB.out.setCell (p := ⟨w.heap.size, 0, none⟩) (Nat.le_refl _) _).setCell (p := ⟨w.heap.size, 1, none⟩) (Nat.le_refl _) _).setCell (p := ⟨w.heap.size, 2, none⟩) (Nat.le_refl _) _).setCell (p := ⟨w.heap.size, 3, none⟩) (Nat.le_refl _) _).setCell (p := ⟨w.heap.size, 4, none⟩) (Nat.le_refl _) _
    refine bodyPost_ret (v := .tuple #[.agg #[.slice none 0 0, .slice none 0 0, .slice none 0 0, .int .i64 0, .int .i64 0], .int .i64 0, .bool false]) (by simp [results, Tryz.results33, go_sem, q0_, q1_, q2_, q3_, q4_]) rfl ⟨zB, rfl, ⟨rfl, rfl, rfl, rfl, rfl⟩, zBlie _ _ _ HBF.size, HBF⟩
   have C1 : Hid (∀ W, BRows W c → Calls Tryz.prog 51 #[.agg #[.slice c.va c.vs.length c.vc, .slice c.pa c.ps.length c.pc, .slice c.qa c.qs.length c.qc, .int .i64 c.cs, .int .i64 c.nx]] W fun e w' => e = .returned (.bool (sbB c)) ∧ Below W.heap.size W w') := fun W h => sbase5 c FT.out W h
   have bx0 := BX.out.c0
   have bx1 := BX.out.c1
   have bx2 := BX.out.c2
   have bx3 := BX.out.c3
   have bx4 := BX.out.c4
   go_wp2_with fail
   refine (C1.out _ LC.out.rows).mono ?_
   rintro e y5 ⟨rfl, hb⟩
   have hz55 : y4.heap.size ≤ y5.heap.size := hb.size
   replace LC := hide (LC.out.below hb)
   replace BR := hide (BR.out.below hb)
   replace CR := hide (CR.out.below hb)
   replace BX := hide (BX.out.below hb)
   replace HB := hide (HB.out.trans (hb.mono HB.out.size))
   replace SZ := hide (Nat.le_trans SZ.out hb.size)
   clear hb c2 bx0 bx1 bx2 bx3 bx4
   cases htb : sbB c
   ·have hx : rBs x p = none := (HEnd.out.2 (by first | rfl | trivial)).1 htb
    have h := HA.out
    rw [hx] at h
    cases h
    clear hx htb
    have q0_ := BR.out.c0
    have fq0 := BR.out.fz 0
    have q1_ := BR.out.c1
    have fq1 := BR.out.fz 1
    have q2_ := BR.out.c2
    have fq2 := BR.out.fz 2
    have q3_ := BR.out.c3
    have fq3 := BR.out.fz 3
    have q4_ := BR.out.c4
    have fq4 := BR.out.fz 4
    go_wp2
    have HBF : Below w.heap.size w (((((y5.setCell ⟨w.heap.size, 0, none⟩ (.slice none 0 0)).setCell ⟨w.heap.size, 1, none⟩ (.slice none 0 0)).setCell ⟨w.heap.size, 2, none⟩ (.slice none 0 0)).setCell ⟨w.heap.size, 3, none⟩ (.int .i64 0)).setCell ⟨w.heap.size, 4, none⟩ (.int .i64 0)) := ((((HB.out.setCell (p := ⟨w.heap.size, 0, none⟩) (Nat.le_refl _) _).setCell (p := ⟨w.heap.size, 1, none⟩) (Nat.le_refl _) _).setCell (p := ⟨w.heap.size, 2, none⟩) (Nat.le_refl _) _).setCell (p := ⟨w.heap.size, 3, none⟩) (Nat.le_refl _) _).setCell (p := ⟨w.heap.size, 4, none⟩) (Nat.le_refl _) _
    refine bodyPost_ret (v := .tuple #[.agg #[.slice none 0 0, .slice none 0 0, .slice none 0 0, .int .i64 0, .int .i64 0], .int .i64 0, .bool false]) (by simp [results, Tryz.results33, go_sem, q0_, q1_, q2_, q3_, q4_]) rfl ⟨zB, rfl, ⟨rfl, rfl, rfl, rfl, rfl⟩, zBlie _ _ _ HBF.size, HBF⟩
   ·obtain ⟨q5, rfl, hx⟩ := (HEnd.out.2 (by first | rfl | trivial)).2 htb
    have h := HA.out
    rw [hx] at h
    obtain ⟨rfl, rfl, rfl⟩ : s = s5 ∧ q = q5 ∧ bo = true := by cases h; exact ⟨rfl, rfl, rfl⟩
    clear h hx htb
    go_wp2
    refine wp_region_held_drew (S := fun w' => w'.cell? ⟨v1.heap.size, 0, none⟩ = some (.slice c.va c.vs.length c.vc) ∧ w'.cell? ⟨v1.heap.size, 1, none⟩ = some (.slice c.pa c.ps.length c.pc) ∧ w'.cell? ⟨v1.heap.size, 2, none⟩ = some (.slice c.qa c.qs.length c.qc) ∧ w'.cell? ⟨v1.heap.size, 3, none⟩ = some (.int .i64 c.cs) ∧ w'.cell? ⟨v1.heap.size, 4, none⟩ = some (.int .i64 c.nx) ∧ w'.cell? ⟨w.heap.size + 1, 1, none⟩ = some (.int .i64 (q : Int))) (by kernel_rfl) ⟨BX.out.c0, BX.out.c1, BX.out.c2, BX.out.c3, BX.out.c4, CR.out.c1⟩ (fun hHeld => ?_)
    (refine ti 0 ?_; simp only [Act.put, tA, tB, tD, tE, tF])
    (refine ti 1 ?_; simp only [Act.put, tA, tB, tC, tD, tE, tF])
    (refine ti 2 ?_; simp only [Act.put, tA, tB, tC, tD, tE, tF])
    (refine ti 3 ?_; simp only [Act.put, tA, tB, tC, tD, tE, tF])
    (refine ti 4 ?_; simp only [Act.put, tA, tB, tC, tD, tE, tF])
    have B2 := hide (BR.out.drew)
    have O2 := hide (BX.out.drew)
    have G2 := hide (CR.out.drew)
    have HB2 := hide (HB.out.drew)
    have hz56 : y3.heap.size ≤ y5.drew.heap.size := by show _ ≤ y5.heap.size; omega
    have HL2 := hide (LC.out.below (belowRefl y5).drew)
    clear hHeld BR BX CR HB LC
    generalize y5.drew = wd at *
    have q0_ := B2.out.c0
    have fq0 := B2.out.fz 0
    have q1_ := B2.out.c1
    have fq1 := B2.out.fz 1
    have q2_ := B2.out.c2
    have fq2 := B2.out.fz 2
    have q3_ := B2.out.c3
    have fq3 := B2.out.fz 3
    have q4_ := B2.out.c4
    have fq4 := B2.out.fz 4
    refine wpAnyH_ready (rs := [5]) (by kernel_rfl) (by simp) ?_
    refine AllReadyH.cons rfl (fun K hK => ?_) AllReadyH.nil
    go_simp
    have O3 : Bx (((((wd.setCell ⟨w.heap.size, 0, none⟩ (.slice c.va c.vs.length c.vc)).setCell ⟨w.heap.size, 1, none⟩ (.slice c.pa c.ps.length c.pc)).setCell ⟨w.heap.size, 2, none⟩ (.slice c.qa c.qs.length c.qc)).setCell ⟨w.heap.size, 3, none⟩ (.int .i64 c.cs)).setCell ⟨w.heap.size, 4, none⟩ (.int .i64 c.nx)) v1.heap.size [.slice c.va c.vs.length c.vc, .slice c.pa c.ps.length c.pc, .slice c.qa c.qs.length c.qc, .int .i64 c.cs, .int .i64 c.nx] := ((((O2.out.setO (p := ⟨w.heap.size, 0, none⟩) (by show w.heap.size ≠ _; omega) _).setO (p := ⟨w.heap.size, 1, none⟩) (by show w.heap.size ≠ _; omega) _).setO (p := ⟨w.heap.size, 2, none⟩) (by show w.heap.size ≠ _; omega) _).setO (p := ⟨w.heap.size, 3, none⟩) (by show w.heap.size ≠ _; omega) _).setO (p := ⟨w.heap.size, 4, none⟩) (by show w.heap.size ≠ _; omega) _
    have G3 : Cr (((((wd.setCell ⟨w.heap.size, 0, none⟩ (.slice c.va c.vs.length c.vc)).setCell ⟨w.heap.size, 1, none⟩ (.slice c.pa c.ps.length c.pc)).setCell ⟨w.heap.size, 2, none⟩ (.slice c.qa c.qs.length c.qc)).setCell ⟨w.heap.size, 3, none⟩ (.int .i64 c.cs)).setCell ⟨w.heap.size, 4, none⟩ (.int .i64 c.nx)) (w.heap.size + 1) x (q : Int) false := ((((G2.out.setO (p := ⟨w.heap.size, 0, none⟩) (by show w.heap.size ≠ _; omega) _).setO (p := ⟨w.heap.size, 1, none⟩) (by show w.heap.size ≠ _; omega) _).setO (p := ⟨w.heap.size, 2, none⟩) (by show w.heap.size ≠ _; omega) _).setO (p := ⟨w.heap.size, 3, none⟩) (by show w.heap.size ≠ _; omega) _).setO (p := ⟨w.heap.size, 4, none⟩) (by show w.heap.size ≠ _; omega) _
    refine hK.out _ _ ⟨O3.c0, O3.c1, O3.c2, O3.c3, O3.c4, G3.c1⟩ (fun hHeld2 => ?_)
    clear hK K
    (refine ti 6 ?_; simp only [Act.put, tA, tB, tC, tD, tE, tF])
    (refine ti 7 ?_; simp only [Act.put, tA, tB, tC, tD, tE, tF])
    refine wpAnyH_done (by kernel_rfl) ?_ _
    have BF : Hid (Bx (((((wd.setCell ⟨w.heap.size, 0, none⟩ (.slice c.va c.vs.length c.vc)).setCell ⟨w.heap.size, 1, none⟩ (.slice c.pa c.ps.length c.pc)).setCell ⟨w.heap.size, 2, none⟩ (.slice c.qa c.qs.length c.qc)).setCell ⟨w.heap.size, 3, none⟩ (.int .i64 c.cs)).setCell ⟨w.heap.size, 4, none⟩ (.int .i64 c.nx)) w.heap.size [.slice c.va c.vs.length c.vc, .slice c.pa c.ps.length c.pc, .slice c.qa c.qs.length c.qc, .int .i64 c.cs, .int .i64 c.nx]) := ((((B2.out.set 0 _).set 1 _).set 2 _).set 3 _).set 4 _
    have HBF : Hid (Below w.heap.size w (((((wd.setCell ⟨w.heap.size, 0, none⟩ (.slice c.va c.vs.length c.vc)).setCell ⟨w.heap.size, 1, none⟩ (.slice c.pa c.ps.length c.pc)).setCell ⟨w.heap.size, 2, none⟩ (.slice c.qa c.qs.length c.qc)).setCell ⟨w.heap.size, 3, none⟩ (.int .i64 c.cs)).setCell ⟨w.heap.size, 4, none⟩ (.int .i64 c.nx))) := ((((HB2.out.setCell (p := ⟨w.heap.size, 0, none⟩) (Nat.le_refl _) _).setCell (p := ⟨w.heap.size, 1, none⟩) (Nat.le_refl _) _).setCell (p := ⟨w.heap.size, 2, none⟩) (Nat.le_refl _) _).setCell (p := ⟨w.heap.size, 3, none⟩) (Nat.le_refl _) _).setCell (p := ⟨w.heap.size, 4, none⟩) (Nat.le_refl _) _
    have LF : Hid (BLie (((((wd.setCell ⟨w.heap.size, 0, none⟩ (.slice c.va c.vs.length c.vc)).setCell ⟨w.heap.size, 1, none⟩ (.slice c.pa c.ps.length c.pc)).setCell ⟨w.heap.size, 2, none⟩ (.slice c.qa c.qs.length c.qc)).setCell ⟨w.heap.size, 3, none⟩ (.int .i64 c.cs)).setCell ⟨w.heap.size, 4, none⟩ (.int .i64 c.nx)) w.heap.size (((((wd.setCell ⟨w.heap.size, 0, none⟩ (.slice c.va c.vs.length c.vc)).setCell ⟨w.heap.size, 1, none⟩ (.slice c.pa c.ps.length c.pc)).setCell ⟨w.heap.size, 2, none⟩ (.slice c.qa c.qs.length c.qc)).setCell ⟨w.heap.size, 3, none⟩ (.int .i64 c.cs)).setCell ⟨w.heap.size, 4, none⟩ (.int .i64 c.nx)).heap.size c) := (((((HL2.out.set (a := ⟨w.heap.size, 0, none⟩) (by show w.heap.size < _; omega) _).set (a := ⟨w.heap.size, 1, none⟩) (by show w.heap.size < _; omega) _).set (a := ⟨w.heap.size, 2, none⟩) (by show w.heap.size < _; omega) _).set (a := ⟨w.heap.size, 3, none⟩) (by show w.heap.size < _; omega) _).set (a := ⟨w.heap.size, 4, none⟩) (by show w.heap.size < _; omega) _).mono (by omega) (by simp [World.setCell]; exact hz56)
    clear q0_ fq0 q1_ fq1 q2_ fq2 q3_ fq3 q4_ fq4
    have q0_ := BF.out.c0
    have q1_ := BF.out.c1
    have q2_ := BF.out.c2
    have q3_ := BF.out.c3
    have q4_ := BF.out.c4
    go_wp2
    refine bodyPost_ret (v := .tuple #[.agg #[.slice c.va c.vs.length c.vc, .slice c.pa c.ps.length c.pc, .slice c.qa c.qs.length c.qc, .int .i64 c.cs, .int .i64 c.nx], .int .i64 (q : Int), .bool true]) (by simp [results, Tryz.results33, go_sem, q0_, q1_, q2_, q3_, q4_]) rfl ⟨c, rfl, SM.out, LF.out, HBF.out⟩
  ·obtain ⟨h1, h2, rfl⟩ := HCN.out.1 rfl
   clear HCN
   have hll : l.length ≤ 100000000 := by have := HLen.out; omega
   go_wp2_with fail
   refine (sshrt x (w.heap.size + 1) pp false hs _ CR.out).mono ?_
   rintro e y1 ⟨s1, qq1, cc1, rfl, hz1, hs1, hc, hg⟩
   replace BR := hide (BR.out.grown hg (by omega))
   replace BX := hide (BX.out.grown hg (by omega))
   replace HB := hide (HB.out.grown hg HB.out.size (fun j hj => by cases hj; omega))
   replace SZ := hide (Nat.le_trans SZ.out hg.size)
   replace GO := hide (GO.out.keptG hg (by omega))
   replace CR : Hid (Cr y1 (w.heap.size + 1) x qq1 cc1) := hc
   clear hc hg
   have K1 := hide hs1
   clear hs1
   go_wp2_with fail
   have EOW : Hid (∀ g, (Value.slice va l.length vc).ownBlock = some g → g < y1.heap.size) := fun g hg => (World.ownsRow.lt GO.out g hg).2
   have hE0 : v1.heap.size + 1 ≤ y1.heap.size := SZ.out
   have hba : Below y1.heap.size y1 (y1.alloc (.cells #[.string s1, .string ⟨#[]⟩, .bool false, .int .i64 0] 106)) := (belowRefl y1).alloc (Nat.le_refl _) _
   replace BR := hide (BR.out.below hba)
   replace CR := hide (CR.out.below hba)
   replace BX := hide (BX.out.below hba)
   replace HB := hide (HB.out.trans (hba.mono HB.out.size))
   replace SZ := hide (Nat.le_trans SZ.out hba.size)
   replace GO := hide (GO.out.below hba)
   have BE : Hid (Bx (y1.alloc (.cells #[.string s1, .string ⟨#[]⟩, .bool false, .int .i64 0] 106)) y1.heap.size [.string s1, .string ⟨#[]⟩, .bool false, .int .i64 0]) := Bx.new y1 [.string s1, .string ⟨#[]⟩, .bool false, .int .i64 0] 106
   clear hba
   generalize (y1.alloc (.cells #[.string s1, .string ⟨#[]⟩, .bool false, .int .i64 0] 106)) = y2 at *
   refine (sshrt x (w.heap.size + 1) qq1 cc1 hs _ CR.out).mono ?_
   rintro e y3 ⟨s2, qq2, cc2, rfl, hz2, hs2, hc, hg⟩
   replace BR := hide (BR.out.grown hg (by omega))
   replace BX := hide (BX.out.grown hg (by omega))
   replace HB := hide (HB.out.grown hg HB.out.size (fun j hj => by cases hj; omega))
   replace SZ := hide (Nat.le_trans SZ.out hg.size)
   replace GO := hide (GO.out.keptG hg (by omega))
   replace BE := hide (BE.out.grown hg (by omega))
   replace CR : Hid (Cr y3 (w.heap.size + 1) x qq2 cc2) := hc
   clear hc hg
   have K2 := hide hs2
   clear hs2
   have cz := BE.out.c1
   have fz := BE.out.fz 1
   go_wp2_with fail
   clear cz fz
   replace BR : Hid (Bx (y3.setCell ⟨y1.heap.size, 1, none⟩ (.string s2)) w.heap.size [.slice none 0 0, .slice none 0 0, .slice none 0 0, .int .i64 0, .int .i64 0]) := BR.out.setO (p := ⟨y1.heap.size, 1, none⟩) (by show y1.heap.size ≠ w.heap.size; omega) _
   replace CR : Hid (Bx (y3.setCell ⟨y1.heap.size, 1, none⟩ (.string s2)) (w.heap.size + 1) [.string x, .int .i64 qq2, .bool cc2]) := CR.out.setO (p := ⟨y1.heap.size, 1, none⟩) (by show y1.heap.size ≠ (w.heap.size + 1); omega) _
   replace BX : Hid (Bx (y3.setCell ⟨y1.heap.size, 1, none⟩ (.string s2)) v1.heap.size [.slice va l.length vc, .slice none 0 0, .slice none 0 0, .int .i64 (n1 : Int), .int .i64 (n2 : Int)]) := BX.out.setO (p := ⟨y1.heap.size, 1, none⟩) (by show y1.heap.size ≠ v1.heap.size; omega) _
   replace HB : Hid (Below w.heap.size w (y3.setCell ⟨y1.heap.size, 1, none⟩ (.string s2))) := HB.out.setCell (p := ⟨y1.heap.size, 1, none⟩) (by show w.heap.size ≤ y1.heap.size; omega) _
   replace SZ : Hid (v1.heap.size + 1 ≤ (y3.setCell ⟨y1.heap.size, 1, none⟩ (.string s2)).heap.size) := by show _ ≤ _; simpa [World.setCell] using SZ.out
   replace GO : Hid (GOwn encV 106 (y3.setCell ⟨y1.heap.size, 1, none⟩ (.string s2)) (v1.heap.size + 1) (.slice va l.length vc) l) := own_set GO.out (a := ⟨y1.heap.size, 1, none⟩) (fun g hg => (by have := EOW.out g hg; have := (World.ownsRow.lt GO.out g hg).1; show y1.heap.size ≠ g; omega)) _
   replace BE : Hid (Bx (y3.setCell ⟨y1.heap.size, 1, none⟩ (.string s2)) y1.heap.size [.string s1, .string s2, .bool false, .int .i64 0]) := BE.out.set 1 _
   have hyy4 : y3.heap.size ≤ (y3.setCell ⟨y1.heap.size, 1, none⟩ (.string s2)).heap.size := by simp [World.setCell]
   generalize (y3.setCell ⟨y1.heap.size, 1, none⟩ (.string s2)) = y4 at *
   refine (sbit7 x (w.heap.size + 1) qq2 cc2 hs (K2.out.nonneg) _ CR.out).mono ?_
   rintro e y5 ⟨f3, qq3, cc3, rfl, hs3, hc, hg⟩
   replace BR := hide (BR.out.grown hg (by omega))
   replace BX := hide (BX.out.grown hg (by omega))
   replace HB := hide (HB.out.grown hg HB.out.size (fun j hj => by cases hj; omega))
   replace SZ := hide (Nat.le_trans SZ.out hg.size)
   replace GO := hide (GO.out.keptG hg (by omega))
   replace BE := hide (BE.out.grown hg (by omega))
   replace CR : Hid (Cr y5 (w.heap.size + 1) x qq3 cc3) := hc
   clear hc hg
   have K3 := hide hs3
   clear hs3
   have cz := BE.out.c2
   have fz := BE.out.fz 2
   go_wp2_with fail
   clear cz fz
   replace BR : Hid (Bx (y5.setCell ⟨y1.heap.size, 2, none⟩ (.bool f3)) w.heap.size [.slice none 0 0, .slice none 0 0, .slice none 0 0, .int .i64 0, .int .i64 0]) := BR.out.setO (p := ⟨y1.heap.size, 2, none⟩) (by show y1.heap.size ≠ w.heap.size; omega) _
   replace CR : Hid (Bx (y5.setCell ⟨y1.heap.size, 2, none⟩ (.bool f3)) (w.heap.size + 1) [.string x, .int .i64 qq3, .bool cc3]) := CR.out.setO (p := ⟨y1.heap.size, 2, none⟩) (by show y1.heap.size ≠ (w.heap.size + 1); omega) _
   replace BX : Hid (Bx (y5.setCell ⟨y1.heap.size, 2, none⟩ (.bool f3)) v1.heap.size [.slice va l.length vc, .slice none 0 0, .slice none 0 0, .int .i64 (n1 : Int), .int .i64 (n2 : Int)]) := BX.out.setO (p := ⟨y1.heap.size, 2, none⟩) (by show y1.heap.size ≠ v1.heap.size; omega) _
   replace HB : Hid (Below w.heap.size w (y5.setCell ⟨y1.heap.size, 2, none⟩ (.bool f3))) := HB.out.setCell (p := ⟨y1.heap.size, 2, none⟩) (by show w.heap.size ≤ y1.heap.size; omega) _
   replace SZ : Hid (v1.heap.size + 1 ≤ (y5.setCell ⟨y1.heap.size, 2, none⟩ (.bool f3)).heap.size) := by show _ ≤ _; simpa [World.setCell] using SZ.out
   replace GO : Hid (GOwn encV 106 (y5.setCell ⟨y1.heap.size, 2, none⟩ (.bool f3)) (v1.heap.size + 1) (.slice va l.length vc) l) := own_set GO.out (a := ⟨y1.heap.size, 2, none⟩) (fun g hg => (by have := EOW.out g hg; have := (World.ownsRow.lt GO.out g hg).1; show y1.heap.size ≠ g; omega)) _
   replace BE : Hid (Bx (y5.setCell ⟨y1.heap.size, 2, none⟩ (.bool f3)) y1.heap.size [.string s1, .string s2, .bool f3, .int .i64 0]) := BE.out.set 2 _
   have hyy6 : y5.heap.size ≤ (y5.setCell ⟨y1.heap.size, 2, none⟩ (.bool f3)).heap.size := by simp [World.setCell]
   generalize (y5.setCell ⟨y1.heap.size, 2, none⟩ (.bool f3)) = y6 at *
   refine (svar x (w.heap.size + 1) qq3 cc3 hs _ CR.out).mono ?_
   rintro e y7 ⟨n4, qq4, cc4, rfl, hz4, hs4, hc, hg⟩
   replace BR := hide (BR.out.grown hg (by omega))
   replace BX := hide (BX.out.grown hg (by omega))
   replace HB := hide (HB.out.grown hg HB.out.size (fun j hj => by cases hj; omega))
   replace SZ := hide (Nat.le_trans SZ.out hg.size)
   replace GO := hide (GO.out.keptG hg (by omega))
   replace BE := hide (BE.out.grown hg (by omega))
   replace CR : Hid (Cr y7 (w.heap.size + 1) x qq4 cc4) := hc
   clear hc hg
   have K4 := hide hs4
   clear hs4
   have HMn := hide (HM.out.vr K1.out K2.out K3.out K4.out)
   have HFn : Hid (VFit (l ++ [(s1, s2, f3, (n4 : Int))])) := fun y hy => by
    rcases List.mem_append.1 hy with h | h
    ·exact HFit.out y h
    ·rw [List.mem_singleton.1 h]; exact ⟨Nat.le_trans hz1 (by omega), Nat.le_trans hz2 (by omega)⟩
   have HLn : Hid ((l ++ [(s1, s2, f3, (n4 : Int))]).length = k + 1) := by show _ = _; rw [List.length_append, HLen.out]; rfl
   have cz := BE.out.c3
   have fz := BE.out.fz 3
   go_upto_region 12 with fail
   clear cz fz
   replace BR : Hid (Bx (y7.setCell ⟨y1.heap.size, 3, none⟩ (.int .i64 (n4 : Int))) w.heap.size [.slice none 0 0, .slice none 0 0, .slice none 0 0, .int .i64 0, .int .i64 0]) := BR.out.setO (p := ⟨y1.heap.size, 3, none⟩) (by show y1.heap.size ≠ w.heap.size; omega) _
   replace CR : Hid (Bx (y7.setCell ⟨y1.heap.size, 3, none⟩ (.int .i64 (n4 : Int))) (w.heap.size + 1) [.string x, .int .i64 qq4, .bool cc4]) := CR.out.setO (p := ⟨y1.heap.size, 3, none⟩) (by show y1.heap.size ≠ (w.heap.size + 1); omega) _
   replace BX : Hid (Bx (y7.setCell ⟨y1.heap.size, 3, none⟩ (.int .i64 (n4 : Int))) v1.heap.size [.slice va l.length vc, .slice none 0 0, .slice none 0 0, .int .i64 (n1 : Int), .int .i64 (n2 : Int)]) := BX.out.setO (p := ⟨y1.heap.size, 3, none⟩) (by show y1.heap.size ≠ v1.heap.size; omega) _
   replace HB : Hid (Below w.heap.size w (y7.setCell ⟨y1.heap.size, 3, none⟩ (.int .i64 (n4 : Int)))) := HB.out.setCell (p := ⟨y1.heap.size, 3, none⟩) (by show w.heap.size ≤ y1.heap.size; omega) _
   replace SZ : Hid (v1.heap.size + 1 ≤ (y7.setCell ⟨y1.heap.size, 3, none⟩ (.int .i64 (n4 : Int))).heap.size) := by show _ ≤ _; simpa [World.setCell] using SZ.out
   replace GO : Hid (GOwn encV 106 (y7.setCell ⟨y1.heap.size, 3, none⟩ (.int .i64 (n4 : Int))) (v1.heap.size + 1) (.slice va l.length vc) l) := own_set GO.out (a := ⟨y1.heap.size, 3, none⟩) (fun g hg => (by have := EOW.out g hg; have := (World.ownsRow.lt GO.out g hg).1; show y1.heap.size ≠ g; omega)) _
   replace BE : Hid (Bx (y7.setCell ⟨y1.heap.size, 3, none⟩ (.int .i64 (n4 : Int))) y1.heap.size [.string s1, .string s2, .bool f3, .int .i64 (n4 : Int)]) := BE.out.set 3 _
   have hyy8 : y7.heap.size ≤ (y7.setCell ⟨y1.heap.size, 3, none⟩ (.int .i64 (n4 : Int))).heap.size := by simp [World.setCell]
   generalize (y7.setCell ⟨y1.heap.size, 3, none⟩ (.int .i64 (n4 : Int))) = y8 at *
   have ce0 := BE.out.c0
   have ce1 := BE.out.c1
   have ce2 := BE.out.c2
   have ce3 := BE.out.c3
   have cx := BX.out.c0
   go_wp2_with (at_builtin; refine wpAppV rfl _ _ rfl (s1, s2, f3, (n4 : Int)) rfl GO.out rfl hll SZ.out ?_)
   clear cx ce0 ce1 ce2 ce3
   intro v' y9 ho hb'
   obtain ⟨pan, pcn, rfl, _⟩ := ho.row
   have ho' := ho
   clear ho GO
   obtain ⟨ln, hln⟩ : ∃ ln, ln = l ++ [(s1, s2, f3, (n4 : Int))] := ⟨_, rfl⟩
   rw [← hln] at ho' HMn HFn HLn ⊢
   clear hln BE
   replace BR := hide (BR.out.lowB hb' (by omega))
   replace CR := hide (CR.out.lowB hb' (by omega))
   replace BX := hide (BX.out.lowB hb' (by omega))
   replace HB := hide (HB.out.trans (hb'.mono (by omega)))
   replace SZ := hide (Nat.le_trans SZ.out hb'.size)
   have GO : Hid (GOwn encV 106 y9 (v1.heap.size + 1) (.slice pan ln.length pcn) ln) := ho'
   clear ho' hb'
   replace EOW : Hid (∀ g, (Value.slice pan ln.length pcn).ownBlock = some g → g < y9.heap.size) := fun g hg => (World.ownsRow.lt GO.out g hg).2
   have cx := BX.out.c0
   have fx := BX.out.fz 0
   go_wp2
   clear cx fx
   replace BR : Hid (Bx (y9.setCell ⟨v1.heap.size, 0, none⟩ (.slice pan ln.length pcn)) w.heap.size [.slice none 0 0, .slice none 0 0, .slice none 0 0, .int .i64 0, .int .i64 0]) := BR.out.setO (p := ⟨v1.heap.size, 0, none⟩) (by show v1.heap.size ≠ w.heap.size; omega) _
   replace CR : Hid (Bx (y9.setCell ⟨v1.heap.size, 0, none⟩ (.slice pan ln.length pcn)) (w.heap.size + 1) [.string x, .int .i64 qq4, .bool cc4]) := CR.out.setO (p := ⟨v1.heap.size, 0, none⟩) (by show v1.heap.size ≠ (w.heap.size + 1); omega) _
   replace BX : Hid (Bx (y9.setCell ⟨v1.heap.size, 0, none⟩ (.slice pan ln.length pcn)) v1.heap.size [.slice pan ln.length pcn, .slice none 0 0, .slice none 0 0, .int .i64 (n1 : Int), .int .i64 (n2 : Int)]) := BX.out.set 0 _
   replace HB : Hid (Below w.heap.size w (y9.setCell ⟨v1.heap.size, 0, none⟩ (.slice pan ln.length pcn))) := HB.out.setCell (p := ⟨v1.heap.size, 0, none⟩) (by show w.heap.size ≤ v1.heap.size; omega) _
   replace SZ : Hid (v1.heap.size + 1 ≤ (y9.setCell ⟨v1.heap.size, 0, none⟩ (.slice pan ln.length pcn)).heap.size) := by show _ ≤ _; simpa [World.setCell] using SZ.out
   replace GO : Hid (GOwn encV 106 (y9.setCell ⟨v1.heap.size, 0, none⟩ (.slice pan ln.length pcn)) (v1.heap.size + 1) (.slice pan ln.length pcn) ln) := own_set GO.out (a := ⟨v1.heap.size, 0, none⟩) (fun g hg => (by have := EOW.out g hg; have := (World.ownsRow.lt GO.out g hg).1; show v1.heap.size ≠ g; omega)) _
   go_roundw
   case rel => exact ⟨k + 1, ln, pan, pcn, qq4, cc4, by omega, by omega, by go_num, HLn, HFn, HMn, BR, CR, BX, HB, SZ, GO⟩
   case measure => simp [intOf]; omega

end Go.Proofs.YtpnnncfbodfnhaaGreatDoor

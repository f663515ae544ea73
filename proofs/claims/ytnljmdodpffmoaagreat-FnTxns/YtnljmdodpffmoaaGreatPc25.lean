/- What a textReader does: ranges and writes. -/
import Derived.Test.YtnljmdodpffmoaaGreatPc24
import Derived.Test.YtnljmdodpffmoaaGreatPc05
import Derived.Test.YtnljmdodpffmoaaGreatPc04
namespace Go.Proofs.YtnljmdodpffmoaaGreat
open Go.RowKit
open KM
attribute [local go_sem ↓] Go.wp_at_zero Go.wp_at_succ

theorem GOwn.keptG {α : Type} {E : Enc α} {e : TypeId} {base g : Nat} {v : Value} {l : List α} {w w' : World} (h : GOwn E e w base v l) (d : w.grownBy w' (some g)) (hlt : g < base) : GOwn E e w' base v l :=
 World.ownsRow.kept h d (by
  cases e : v.ownBlock with
  | none => exact Or.inl rfl
  | some k => right; intro e2; have := (World.ownsRow.lt h k e).1; have := Option.some.inj e2; omega)
theorem Rd.belowB {w w' : World} {g B : Nat} {x : ByteArray} {p : Int} (h : Rd w g x p) (hb : Below B w w') (hg : g < B) : Rd w' g x p :=
 ⟨Nat.lt_of_lt_of_le h.lt hb.size, fun j hj => (hb.cell (p := ⟨g, j, none⟩) hg).trans (h.at' j hj), fun j => (hb.frozen (p := ⟨g, j, none⟩) hg).trans (h.fz j)⟩
def rRg (x : ByteArray) (p : Int) : Option (Rg × Nat) :=
 match rS x p with
 | none => none
 | some a => match rS x (a.2 : Int) with
  | none => none
  | some b => some ((a.1, b.1), b.2)
def rWt (x : ByteArray) (p : Int) : Option (Wt × Nat) :=
 match rS x p with
 | none => none
 | some a => match rS x (a.2 : Int) with
  | none => none
  | some b => match rF x (b.2 : Int) with
   | none => none
   | some c => some ((a.1, b.1, c.1), c.2)
def many {α : Type} (f : Int → Option (α × Nat)) (p : Nat) : Nat → Option (List α × Nat)
 | 0 => some ([], p)
 | k + 1 => match many f p k with
  | none => none
  | some a => match f (a.2 : Int) with
   | none => none
   | some b => some (a.1 ++ [b.1], b.2)
theorem many_none {α : Type} {f : Int → Option (α × Nat)} {p k : Nat} (h : many f p k = none) : ∀ {n}, k ≤ n → many f p n = none := by
 intro n hn
 induction n with
 | zero => rw [Nat.le_zero.1 hn] at h; exact h
 | succ n ih =>
  by_cases e : k = n + 1
  ·rw [← e]; exact h
  ·simp only [many, ih (by omega)]
theorem many_no {α : Type} {f : Int → Option (α × Nat)} {p k q : Nat} {l : List α} (h : many f p k = some (l, q)) (hf : f (q : Int) = none) : many f p (k + 1) = none := by
 simp only [many, h, hf]
theorem many_yes {α : Type} {f : Int → Option (α × Nat)} {p k q q' : Nat} {l : List α} {a : α} (h : many f p k = some (l, q)) (hf : f (q : Int) = some (a, q')) : many f p (k + 1) = some (l ++ [a], q') := by
 simp only [many, h, hf]
theorem many_len {α : Type} {f : Int → Option (α × Nat)} {p N : Nat} (hp : p ≤ N) (hf : ∀ q a q', f q = some (a, q') → q < (q' : Int) ∧ q' ≤ N) : ∀ {k l q}, many f p k = some (l, q) → l.length = k ∧ k ≤ q ∧ q ≤ N := by
 intro k
 induction k with
 | zero => intro l q h; cases h; exact ⟨rfl, Nat.zero_le _, hp⟩
 | succ k ih =>
  intro l q h
  simp only [many] at h
  split at h
  ·cases h
  ·rename_i a ha
   obtain ⟨h1, h2, h3⟩ := ih (l := a.1) (q := a.2) ha
   split at h
   ·cases h
   ·rename_i b hb
    have := hf _ b.1 b.2 hb
    cases h
    refine ⟨by rw [List.length_append, h1]; rfl, by omega, this.2⟩
theorem rRg_bd {x : ByteArray} (q : Int) (a : Rg) (q' : Nat) (h : rRg x q = some (a, q')) : q < (q' : Int) ∧ q' ≤ x.size := by
 unfold rRg at h
 split at h
 ·cases h
 ·rename_i u hu
  have b1 := rS_bd hu
  split at h
  ·cases h
  ·rename_i v hv
   have b2 := rS_bd hv
   cases h
   exact ⟨by omega, b2.2.2.1⟩
theorem rWt_bd {x : ByteArray} (q : Int) (a : Wt) (q' : Nat) (h : rWt x q = some (a, q')) : q < (q' : Int) ∧ q' ≤ x.size := by
 unfold rWt at h
 split at h
 ·cases h
 ·rename_i u hu
  have b1 := rS_bd hu
  split at h
  ·cases h
  ·rename_i v hv
   have b2 := rS_bd hv
   split at h
   ·cases h
   ·rename_i c hc
    have b3 := rF_bd hc
    cases h
    exact ⟨by omega, b3.2.1⟩
def rRs (x : ByteArray) (p : Int) : Option (List Rg × Nat) :=
 match rN x p with
 | none => none
 | some r => many (rRg x) r.2 r.1
def rWs (x : ByteArray) (p : Int) : Option (List Wt × Nat) :=
 match rN x p with
 | none => none
 | some r => many (rWt x) r.2 r.1

set_option maxRecDepth 100000 in
set_option maxHeartbeats 2000000 in
theorem irs (x : ByteArray) (g : Nat) (p : Int) (hs : x.size ≤ 1048576) (w : World) (hd : Rd w g x p) :
  Calls Tryz.prog 73 #[.pointer (some ⟨g, 0, none⟩)] w fun e w' => w.grownBy w' (some g) ∧ ((e = .panicked PAN ∧ rRs x p = none) ∨ ∃ l q a1 c1, rRs x p = some (l, q) ∧ q ≤ x.size ∧ e = .returned (.slice a1 l.length c1) ∧ GOwn encR 36 w' w.heap.size (.slice a1 l.length c1) l ∧ Rd w' g x (q : Int)) := by
 have HD : Hid (Rd w g x p) := hd
 have hgl := hd.lt
 clear hd
 cases hn : rN x p with
 | none =>
  have HR : Hid (rRs x p = none) := by show _ = _; unfold rRs; rw [hn]
  have HN := hide hn
  clear hn
  go_enter Tryz.func73, Tryz.ntmps73
  go_wp2_with (go_at_call 72; refine (inum_no x g p hs HN.out _ HD.out).mono ?_; rintro e w' ⟨rfl, hg⟩)
  exact ⟨rfl, hg, Or.inl ⟨rfl, HR.out⟩⟩
 | some r =>
  obtain ⟨n, p1⟩ := r
  have HR : Hid (rRs x p = many (rRg x) p1 n) := by show _ = _; unfold rRs; rw [hn]
  have hbn := rN_bd hn
  have hp1 : p1 ≤ x.size := hbn.2.2.1
  have hn9 : n ≤ 1000000000 := hbn.1
  have HN := hide hn
  clear hn hbn
  go_enter Tryz.func73, Tryz.ntmps73
  go_wp2_with (go_at_call 72; refine (inum_yes x g p hs n p1 HN.out _ HD.out).mono ?_; rintro e w1 ⟨rfl, hd1, hg1⟩)
  have HD1 := hide hd1
  have HG1 := hide hg1
  clear hd1 hg1 HD
  go_loopw [3, 6] (fun v t wr => ∃ (k q : Nat) (l : List Rg), k ≤ n ∧ t = .int .i64 k ∧ Hid (many (rRg x) p1 k = some (l, q)) ∧ Hid (GOwn encR 36 wr w.heap.size v l) ∧ Hid (Rd wr g x (q : Int)) ∧ Hid (w.grownBy wr (some g))) (fun _ t _ => n - (intOf t).toNat)
  case atStart => exact ⟨0, p1, [], Nat.zero_le _, rfl, rfl, World.ownsRow_nil _ _ _ _, HD1, HG1⟩
  case round =>
   clear HD1 HG1
   obtain ⟨k, q, l, hk, rfl, HM, HO, HD, HG⟩ := hrel
   obtain ⟨hl, hkq, hq⟩ := many_len hp1 rRg_bd HM.out
   have hll : l.length ≤ 100000000 := by omega
   clear hl hkq
   by_cases hlt : k < n
   ·have hlt' : (k : Int) < (n : Int) := by omega
    cases h1 : rS x (q : Int) with
    | none =>
     have HX : Hid (rRs x p = none) := by
      show _ = _
      rw [HR.out]
      exact many_none (many_no HM.out (by unfold rRg; rw [h1])) hlt
     have H1 := hide h1
     clear h1
     go_wp2_with fail
     refine (ishrt_no x g _ hs H1.out _ HD.out).mono ?_
     rintro e w2 ⟨rfl, hg⟩
     have HG2 := hide (grown_trans HG.out hg)
     clear hg
     go_wp2
     exact ⟨rfl, HG2.out, Or.inl ⟨rfl, HX.out⟩⟩
    | some a =>
     obtain ⟨s1, q1⟩ := a
     cases h2 : rS x (q1 : Int) with
     | none =>
      have HX : Hid (rRs x p = none) := by
       show _ = _
       rw [HR.out]
       exact many_none (many_no HM.out (by unfold rRg; rw [h1]; dsimp only; rw [h2])) hlt
      have H1 := hide h1
      have H2 := hide h2
      clear h1 h2
      go_wp2_with fail
      refine (ishrt_yes x g _ hs s1 q1 H1.out _ HD.out).mono ?_
      rintro e w2 ⟨rfl, hd2, hg2⟩
      have HD2 := hide hd2
      have HG2 := hide (grown_trans HG.out hg2)
      clear hd2 hg2
      go_wp2_with fail
      refine (ishrt_no x g _ hs H2.out _ HD2.out).mono ?_
      rintro e w3 ⟨rfl, hg⟩
      have HG3 := hide (grown_trans HG2.out hg)
      clear hg
      go_wp2
      exact ⟨rfl, HG3.out, Or.inl ⟨rfl, HX.out⟩⟩
     | some b =>
      obtain ⟨s2, q2⟩ := b
      have HMn : Hid (many (rRg x) p1 (k + 1) = some (l ++ [(s1, s2)], q2)) := many_yes HM.out (by unfold rRg; rw [h1]; dsimp only; rw [h2])
      have H1 := hide h1
      have H2 := hide h2
      clear h1 h2
      go_wp2_with fail
      refine (ishrt_yes x g _ hs s1 q1 H1.out _ HD.out).mono ?_
      rintro e w2 ⟨rfl, hd2, hg2⟩
      have HD2 := hide hd2
      have HO2 := hide (HO.out.keptG hg2 hgl)
      have HG2 := hide (grown_trans HG.out hg2)
      clear hd2 hg2
      go_wp2_with fail
      refine (ishrt_yes x g _ hs s2 q2 H2.out _ HD2.out).mono ?_
      rintro e w3 ⟨rfl, hd3, hg3⟩
      have HD3 := hide hd3
      have HO3 := hide (HO2.out.keptG hg3 hgl)
      have HG3 := hide (grown_trans HG2.out hg3)
      clear hd3 hg3
      go_wp2_with (at_builtin; refine wpAppR rfl _ _ rfl (s1, s2) rfl HO3.out rfl hll HG3.out.size ?_)
      intro v' w' ho' hb'
      have HO9 := hide ho'
      have HD9 : Hid (Rd w' g x (q2 : Int)) := HD3.out.belowB hb' hgl
      have HG9 : Hid (w.grownBy w' (some g)) := grown_belowB HG3.out hb' (Nat.le_refl _)
      clear ho' hb'
      go_wp2
      go_roundw
      case rel => exact ⟨k + 1, q2, _, by omega, by go_num, HMn, HO9, HD9, HG9⟩
      case measure => simp [intOf]; omega
   ·have hlt' : ¬ (k : Int) < (n : Int) := by omega
    have hkn : k = n := by omega
    subst hkn
    have HX : Hid (rRs x p = some (l, q)) := HR.out.trans HM.out
    obtain ⟨a1, c1, rfl, _⟩ := HO.out.row
    go_wp2
    go_ret
    exact ⟨HG.out, Or.inr ⟨l, q, HX.out, hq, a1, c1, rfl, HO.out, HD.out⟩⟩

set_option maxRecDepth 100000 in
set_option maxHeartbeats 2000000 in
theorem iws (x : ByteArray) (g : Nat) (p : Int) (hs : x.size ≤ 1048576) (w : World) (hd : Rd w g x p) :
  Calls Tryz.prog 74 #[.pointer (some ⟨g, 0, none⟩)] w fun e w' => w.grownBy w' (some g) ∧ ((e = .panicked PAN ∧ rWs x p = none) ∨ ∃ l q a1 c1, rWs x p = some (l, q) ∧ q ≤ x.size ∧ e = .returned (.slice a1 l.length c1) ∧ GOwn encW 42 w' w.heap.size (.slice a1 l.length c1) l ∧ Rd w' g x (q : Int)) := by
 have HD : Hid (Rd w g x p) := hd
 have hgl := hd.lt
 clear hd
 cases hn : rN x p with
 | none =>
  have HR : Hid (rWs x p = none) := by show _ = _; unfold rWs; rw [hn]
  have HN := hide hn
  clear hn
  go_enter Tryz.func74, Tryz.ntmps74
  go_wp2_with (go_at_call 72; refine (inum_no x g p hs HN.out _ HD.out).mono ?_; rintro e w' ⟨rfl, hg⟩)
  exact ⟨rfl, hg, Or.inl ⟨rfl, HR.out⟩⟩
 | some r =>
  obtain ⟨n, p1⟩ := r
  have HR : Hid (rWs x p = many (rWt x) p1 n) := by show _ = _; unfold rWs; rw [hn]
  have hbn := rN_bd hn
  have hp1 : p1 ≤ x.size := hbn.2.2.1
  have hn9 : n ≤ 1000000000 := hbn.1
  have HN := hide hn
  clear hn hbn
  go_enter Tryz.func74, Tryz.ntmps74
  go_wp2_with (go_at_call 72; refine (inum_yes x g p hs n p1 HN.out _ HD.out).mono ?_; rintro e w1 ⟨rfl, hd1, hg1⟩)
  have HD1 := hide hd1
  have HG1 := hide hg1
  clear hd1 hg1 HD
  go_loopw [3, 6] (fun v t wr => ∃ (k q : Nat) (l : List Wt), k ≤ n ∧ t = .int .i64 k ∧ Hid (many (rWt x) p1 k = some (l, q)) ∧ Hid (GOwn encW 42 wr w.heap.size v l) ∧ Hid (Rd wr g x (q : Int)) ∧ Hid (w.grownBy wr (some g))) (fun _ t _ => n - (intOf t).toNat)
  case atStart => exact ⟨0, p1, [], Nat.zero_le _, rfl, rfl, World.ownsRow_nil _ _ _ _, HD1, HG1⟩
  case round =>
   clear HD1 HG1
   obtain ⟨k, q, l, hk, rfl, HM, HO, HD, HG⟩ := hrel
   obtain ⟨hl, hkq, hq⟩ := many_len hp1 rWt_bd HM.out
   have hll : l.length ≤ 100000000 := by omega
   clear hl hkq
   by_cases hlt : k < n
   ·have hlt' : (k : Int) < (n : Int) := by omega
    cases h1 : rS x (q : Int) with
    | none =>
     have HX : Hid (rWs x p = none) := by
      show _ = _
      rw [HR.out]
      exact many_none (many_no HM.out (by unfold rWt; rw [h1])) hlt
     have H1 := hide h1
     clear h1
     go_wp2_with fail
     refine (ishrt_no x g _ hs H1.out _ HD.out).mono ?_
     rintro e w2 ⟨rfl, hg⟩
     have HG2 := hide (grown_trans HG.out hg)
     clear hg
     go_wp2
     exact ⟨rfl, HG2.out, Or.inl ⟨rfl, HX.out⟩⟩
    | some a =>
     obtain ⟨s1, q1⟩ := a
     cases h2 : rS x (q1 : Int) with
     | none =>
      have HX : Hid (rWs x p = none) := by
       show _ = _
       rw [HR.out]
       exact many_none (many_no HM.out (by unfold rWt; rw [h1]; dsimp only; rw [h2])) hlt
      have H1 := hide h1
      have H2 := hide h2
      clear h1 h2
      go_wp2_with fail
      refine (ishrt_yes x g _ hs s1 q1 H1.out _ HD.out).mono ?_
      rintro e w2 ⟨rfl, hd2, hg2⟩
      have HD2 := hide hd2
      have HG2 := hide (grown_trans HG.out hg2)
      clear hd2 hg2
      go_wp2_with fail
      refine (ishrt_no x g _ hs H2.out _ HD2.out).mono ?_
      rintro e w3 ⟨rfl, hg⟩
      have HG3 := hide (grown_trans HG2.out hg)
      clear hg
      go_wp2
      exact ⟨rfl, HG3.out, Or.inl ⟨rfl, HX.out⟩⟩
     | some b =>
      obtain ⟨s2, q2⟩ := b
      cases h3 : rF x (q2 : Int) with
      | none =>
       have HX : Hid (rWs x p = none) := by
        show _ = _
        rw [HR.out]
        exact many_none (many_no HM.out (by unfold rWt; rw [h1]; dsimp only; rw [h2]; dsimp only; rw [h3])) hlt
       have H1 := hide h1
       have H2 := hide h2
       have H3 := hide h3
       clear h1 h2 h3
       go_wp2_with fail
       refine (ishrt_yes x g _ hs s1 q1 H1.out _ HD.out).mono ?_
       rintro e w2 ⟨rfl, hd2, hg2⟩
       have HD2 := hide hd2
       have HO2 := hide (HO.out.keptG hg2 hgl)
       have HG2 := hide (grown_trans HG.out hg2)
       clear hd2 hg2
       go_wp2_with fail
       refine (ishrt_yes x g _ hs s2 q2 H2.out _ HD2.out).mono ?_
       rintro e w3 ⟨rfl, hd3, hg3⟩
       have HD3 := hide hd3
       have HO3 := hide (HO2.out.keptG hg3 hgl)
       have HG3 := hide (grown_trans HG2.out hg3)
       clear hd3 hg3
       go_wp2_with fail
       refine (iflag_no x g _ hs H3.out _ HD3.out).mono ?_
       rintro e w4 ⟨rfl, hg⟩
       have HG4 := hide (grown_trans HG3.out hg)
       clear hg
       go_wp2
       exact ⟨rfl, HG4.out, Or.inl ⟨rfl, HX.out⟩⟩
      | some c =>
       obtain ⟨fl, q3⟩ := c
       have HMn : Hid (many (rWt x) p1 (k + 1) = some (l ++ [(s1, s2, fl)], q3)) := many_yes HM.out (by unfold rWt; rw [h1]; dsimp only; rw [h2]; dsimp only; rw [h3])
       have H1 := hide h1
       have H2 := hide h2
       have H3 := hide h3
       clear h1 h2 h3
       go_wp2_with fail
       refine (ishrt_yes x g _ hs s1 q1 H1.out _ HD.out).mono ?_
       rintro e w2 ⟨rfl, hd2, hg2⟩
       have HD2 := hide hd2
       have HO2 := hide (HO.out.keptG hg2 hgl)
       have HG2 := hide (grown_trans HG.out hg2)
       clear hd2 hg2
       go_wp2_with fail
       refine (ishrt_yes x g _ hs s2 q2 H2.out _ HD2.out).mono ?_
       rintro e w3 ⟨rfl, hd3, hg3⟩
       have HD3 := hide hd3
       have HO3 := hide (HO2.out.keptG hg3 hgl)
       have HG3 := hide (grown_trans HG2.out hg3)
       clear hd3 hg3
       go_wp2_with fail
       refine (iflag_yes x g _ hs fl q3 H3.out _ HD3.out).mono ?_
       rintro e w4 ⟨rfl, hd4, hg4⟩
       have HD4 := hide hd4
       have HO4 := hide (HO3.out.keptG hg4 hgl)
       have HG4 := hide (grown_trans HG3.out hg4)
       clear hd4 hg4
       go_wp2_with (at_builtin; refine wpAppW rfl _ _ rfl (s1, s2, fl) rfl HO4.out rfl hll HG4.out.size ?_)
       intro v' w' ho' hb'
       have HO9 := hide ho'
       have HD9 : Hid (Rd w' g x (q3 : Int)) := HD4.out.belowB hb' hgl
       have HG9 : Hid (w.grownBy w' (some g)) := grown_belowB HG4.out hb' (Nat.le_refl _)
       clear ho' hb'
       go_wp2
       go_roundw
       case rel => exact ⟨k + 1, q3, _, by omega, by go_num, HMn, HO9, HD9, HG9⟩
       case measure => simp [intOf]; omega
   ·have hlt' : ¬ (k : Int) < (n : Int) := by omega
    have hkn : k = n := by omega
    subst hkn
    have HX : Hid (rWs x p = some (l, q)) := HR.out.trans HM.out
    obtain ⟨a1, c1, rfl, _⟩ := HO.out.row
    go_wp2
    go_ret
    exact ⟨HG.out, Or.inr ⟨l, q, HX.out, hq, a1, c1, rfl, HO.out, HD.out⟩⟩

end Go.Proofs.YtnljmdodpffmoaaGreat

/- What a textReader does: ranges and writes. -/
import Derived.Test.YtpnnncfbodfnhaaGreatPr06
import Derived.Test.YtpnnncfbodfnhaaGreatPr05
import Derived.Test.YtpnnncfbodfnhaaGreatPr04
import Derived.Test.YtpnnncfbodfnhaaGreatProg
import Derived.WalkKit
import Derived.Test.YtpnnncfbodfnhaaGreatPr01
import Derived.WalkSpells
import Derived.WalkLawsBesides
import Derived.Deep.QuietTactic
import Derived.BigQuiet
import Derived.Deep.RegionHeld3
import Derived.Deep.DrawnRows
import Derived.Deep.AppendLies
namespace Go.Proofs.YtpnnncfbodfnhaaGreat
open Go.RowKit
open KM
attribute [local go_sem ↓] Go.wp_at_zero Go.wp_at_succ

theorem GOwn.keptG {α : Type} {E : Enc α} {e : TypeId} {base g : Nat} {v : Value} {l : List α} {w w' : World} (h : GOwn E e w base v l) (d : w.grownBy w' (some g)) (hlt : g < base) : GOwn E e w' base v l :=
 World.ownsRow.kept h d (by
  cases e : v.ownBlock with
  | none => exact Or.inl rfl
  | some k => right; intro e2; have := (World.ownsRow.lt h k e).1; have := Option.some.inj e2; omega)
theorem Rd.belowB {w w' : World} {g B : Nat} {x : ByteArray} {p : Int} (h : Rd w g x p) (hb : Below B w w') (hg : g < B) : Rd w' g x p :=
 ⟨Nat.lt_of_lt_of_le h.lt hb.size, fun j hj => (hb.cell (p := ⟨g, j, none⟩) hg).trans (h.at' j hj), fun j => (hb.frozen (p := ⟨g, j, none⟩) hg).trans (h.fz j)⟩
def rRg (x : ByteArray) (p : Int) : Option (Rg × Nat) :=
 match rS x p with
 | none => none
 | some a => match rS x (a.2 : Int) with
  | none => none
  | some b => some ((a.1, b.1), b.2)
def rWt (x : ByteArray) (p : Int) : Option (Wt × Nat) :=
 match rS x p with
 | none => none
 | some a => match rS x (a.2 : Int) with
  | none => none
  | some b => match rF x (b.2 : Int) with
   | none => none
   | some c => some ((a.1, b.1, c.1), c.2)
def many {α : Type} (f : Int → Option (α × Nat)) (p : Nat) : Nat → Option (List α × Nat)
 | 0 => some ([], p)
 | k + 1 => match many f p k with
  | none => none
  | some a => match f (a.2 : Int) with
   | none => none
   | some b => some (a.1 ++ [b.1], b.2)
theorem many_none {α : Type} {f : Int → Option (α × Nat)} {p k : Nat} (h : many f p k = none) : ∀ {n}, k ≤ n → many f p n = none := by
 intro n hn
 induction n with
 | zero => rw [Nat.le_zero.1 hn] at h; exact h
 | succ n ih =>
  by_cases e : k = n + 1
  ·rw [← e]; exact h
  ·simp only [many, ih (by omega)]
theorem many_no {α : Type} {f : Int → Option (α × Nat)} {p k q : Nat} {l : List α} (h : many f p k = some (l, q)) (hf : f (q : Int) = none) : many f p (k + 1) = none := by
 simp only [many, h, hf]
theorem many_yes {α : Type} {f : Int → Option (α × Nat)} {p k q q' : Nat} {l : List α} {a : α} (h : many f p k = some (l, q)) (hf : f (q : Int) = some (a, q')) : many f p (k + 1) = some (l ++ [a], q') := by
 simp only [many, h, hf]
theorem many_len {α : Type} {f : Int → Option (α × Nat)} {p N : Nat} (hp : p ≤ N) (hf : ∀ q a q', f q = some (a, q') → q < (q' : Int) ∧ q' ≤ N) : ∀ {k l q}, many f p k = some (l, q) → l.length = k ∧ k ≤ q ∧ q ≤ N := by
 intro k
 induction k with
 | zero => intro l q h; cases h; exact ⟨rfl, Nat.zero_le _, hp⟩
 | succ k ih =>
  intro l q h
  simp only [many] at h
  split at h
  ·cases h
  ·rename_i a ha
   obtain ⟨h1, h2, h3⟩ := ih (l := a.1) (q := a.2) ha
   split at h
   ·cases h
   ·rename_i b hb
    have := hf _ b.1 b.2 hb
    cases h
    refine ⟨by rw [List.length_append, h1]; rfl, by omega, this.2⟩
theorem rRg_bd {x : ByteArray} (q : Int) (a : Rg) (q' : Nat) (h : rRg x q = some (a, q')) : q < (q' : Int) ∧ q' ≤ x.size := by
 unfold rRg at h
 split at h
 ·cases h
 ·rename_i u hu
  have b1 := rS_bd hu
  split at h
  ·cases h
  ·rename_i v hv
   have b2 := rS_bd hv
   cases h
   exact ⟨by omega, b2.2.2.1⟩
theorem rWt_bd {x : ByteArray} (q : Int) (a : Wt) (q' : Nat) (h : rWt x q = some (a, q')) : q < (q' : Int) ∧ q' ≤ x.size := by
 unfold rWt at h
 split at h
 ·cases h
 ·rename_i u hu
  have b1 := rS_bd hu
  split at h
  ·cases h
  ·rename_i v hv
   have b2 := rS_bd hv
   split at h
   ·cases h
   ·rename_i c hc
    have b3 := rF_bd hc
    cases h
    exact ⟨by omega, b3.2.1⟩
def rRs (x : ByteArray) (p : Int) : Option (List Rg × Nat) :=
 match rN x p with
 | none => none
 | some r => many (rRg x) r.2 r.1
def rWs (x : ByteArray) (p : Int) : Option (List Wt × Nat) :=
 match rN x p with
 | none => none
 | some r => many (rWt x) r.2 r.1

set_option maxRecDepth 100000 in
set_option maxHeartbeats 2000000 in
theorem irs (x : ByteArray) (g : Nat) (p : Int) (hs : x.size ≤ 1048576) (w : World) (hd : Rd w g x p) :
  Calls Tryz.prog 193 #[.pointer (some ⟨g, 0, none⟩)] w fun e w' => w.grownBy w' (some g) ∧ ((e = .panicked PAN ∧ rRs x p = none) ∨ ∃ l q a1 c1, rRs x p = some (l, q) ∧ q ≤ x.size ∧ e = .returned (.slice a1 l.length c1) ∧ GOwn encR 115 w' w.heap.size (.slice a1 l.length c1) l ∧ Rd w' g x (q : Int)) := by
 have HD : Hid (Rd w g x p) := hd
 have hgl := hd.lt
 clear hd
 cases hn : rN x p with
 | none =>
  have HR : Hid (rRs x p = none) := by show _ = _; unfold rRs; rw [hn]
  have HN := hide hn
  clear hn
  go_enter Tryz.func193, Tryz.ntmps193
  go_wp2_with (go_at_call 93; refine (inum_no x g p hs HN.out _ HD.out).mono ?_; rintro e w' ⟨rfl, hg⟩)
  exact ⟨rfl, hg, Or.inl ⟨rfl, HR.out⟩⟩
 | some r =>
  obtain ⟨n, p1⟩ := r
  have HR : Hid (rRs x p = many (rRg x) p1 n) := by show _ = _; unfold rRs; rw [hn]
  have hbn := rN_bd hn
  have hp1 : p1 ≤ x.size := hbn.2.2.1
  have hn9 : n ≤ 1000000000 := hbn.1
  have HN := hide hn
  clear hn hbn
  go_enter Tryz.func193, Tryz.ntmps193
  go_wp2_with (go_at_call 93; refine (inum_yes x g p hs n p1 HN.out _ HD.out).mono ?_; rintro e w1 ⟨rfl, hd1, hg1⟩)
  have HD1 := hide hd1
  have HG1 := hide hg1
  clear hd1 hg1 HD
  go_loopw [3, 6] (fun v t wr => ∃ (k q : Nat) (l : List Rg), k ≤ n ∧ t = .int .i64 k ∧ Hid (many (rRg x) p1 k = some (l, q)) ∧ Hid (GOwn encR 115 wr w.heap.size v l) ∧ Hid (Rd wr g x (q : Int)) ∧ Hid (w.grownBy wr (some g))) (fun _ t _ => n - (intOf t).toNat)
  case atStart => exact ⟨0, p1, [], Nat.zero_le _, rfl, rfl, World.ownsRow_nil _ _ _ _, HD1, HG1⟩
  case round =>
   clear HD1 HG1
   obtain ⟨k, q, l, hk, rfl, HM, HO, HD, HG⟩ := hrel
   obtain ⟨hl, hkq, hq⟩ := many_len hp1 rRg_bd HM.out
   have hll : l.length ≤ 100000000 := by omega
   clear hl hkq
   by_cases hlt : k < n
   ·have hlt' : (k : Int) < (n : Int) := by omega
    cases h1 : rS x (q : Int) with
    | none =>
     have HX : Hid (rRs x p = none) := by
      show _ = _
      rw [HR.out]
      exact many_none (many_no HM.out (by unfold rRg; rw [h1])) hlt
     have H1 := hide h1
     clear h1
     go_wp2_with fail
     refine (ishrt_no x g _ hs H1.out _ HD.out).mono ?_
     rintro e w2 ⟨rfl, hg⟩
     have HG2 := hide (grown_trans HG.out hg)
     clear hg
     go_wp2
     exact ⟨rfl, HG2.out, Or.inl ⟨rfl, HX.out⟩⟩
    | some a =>
     obtain ⟨s1, q1⟩ := a
     cases h2 : rS x (q1 : Int) with
     | none =>
      have HX : Hid (rRs x p = none) := by
       show _ = _
       rw [HR.out]
       exact many_none (many_no HM.out (by unfold rRg; rw [h1]; dsimp only; rw [h2])) hlt
      have H1 := hide h1
      have H2 := hide h2
      clear h1 h2
      go_wp2_with fail
      refine (ishrt_yes x g _ hs s1 q1 H1.out _ HD.out).mono ?_
      rintro e w2 ⟨rfl, hd2, hg2⟩
      have HD2 := hide hd2
      have HG2 := hide (grown_trans HG.out hg2)
      clear hd2 hg2
      go_wp2_with fail
      refine (ishrt_no x g _ hs H2.out _ HD2.out).mono ?_
      rintro e w3 ⟨rfl, hg⟩
      have HG3 := hide (grown_trans HG2.out hg)
      clear hg
      go_wp2
      exact ⟨rfl, HG3.out, Or.inl ⟨rfl, HX.out⟩⟩
     | some b =>
      obtain ⟨s2, q2⟩ := b
      have HMn : Hid (many (rRg x) p1 (k + 1) = some (l ++ [(s1, s2)], q2)) := many_yes HM.out (by unfold rRg; rw [h1]; dsimp only; rw [h2])
      have H1 := hide h1
      have H2 := hide h2
      clear h1 h2
      go_wp2_with fail
      refine (ishrt_yes x g _ hs s1 q1 H1.out _ HD.out).mono ?_
      rintro e w2 ⟨rfl, hd2, hg2⟩
      have HD2 := hide hd2
      have HO2 := hide (HO.out.keptG hg2 hgl)
      have HG2 := hide (grown_trans HG.out hg2)
      clear hd2 hg2
      go_wp2_with fail
      refine (ishrt_yes x g _ hs s2 q2 H2.out _ HD2.out).mono ?_
      rintro e w3 ⟨rfl, hd3, hg3⟩
      have HD3 := hide hd3
      have HO3 := hide (HO2.out.keptG hg3 hgl)
      have HG3 := hide (grown_trans HG2.out hg3)
      clear hd3 hg3
      go_wp2_with (at_builtin; refine wpAppR rfl _ _ rfl (s1, s2) rfl HO3.out rfl hll HG3.out.size ?_)
      intro v' w' ho' hb'
      have HO9 := hide ho'
      have HD9 : Hid (Rd w' g x (q2 : Int)) := HD3.out.belowB hb' hgl
      have HG9 : Hid (w.grownBy w' (some g)) := grown_belowB HG3.out hb' (Nat.le_refl _)
      clear ho' hb'
      go_wp2
      go_roundw
      case rel => exact ⟨k + 1, q2, _, by omega, by go_num, HMn, HO9, HD9, HG9⟩
      case measure => simp [intOf]; omega
   ·have hlt' : ¬ (k : Int) < (n : Int) := by omega
    have hkn : k = n := by omega
    subst hkn
    have HX : Hid (rRs x p = some (l, q)) := HR.out.trans HM.out
    obtain ⟨a1, c1, rfl, _⟩ := HO.out.row
    go_wp2
    go_ret
    exact ⟨HG.out, Or.inr ⟨l, q, HX.out, hq, a1, c1, rfl, HO.out, HD.out⟩⟩

set_option maxRecDepth 100000 in
set_option maxHeartbeats 2000000 in
theorem iws (x : ByteArray) (g : Nat) (p : Int) (hs : x.size ≤ 1048576) (w : World) (hd : Rd w g x p) :
  Calls Tryz.prog 194 #[.pointer (some ⟨g, 0, none⟩)] w fun e w' => w.grownBy w' (some g) ∧ ((e = .panicked PAN ∧ rWs x p = none) ∨ ∃ l q a1 c1, rWs x p = some (l, q) ∧ q ≤ x.size ∧ e = .returned (.slice a1 l.length c1) ∧ GOwn encW 181 w' w.heap.size (.slice a1 l.length c1) l ∧ Rd w' g x (q : Int)) := by
 have HD : Hid (Rd w g x p) := hd
 have hgl := hd.lt
 clear hd
 cases hn : rN x p with
 | none =>
  have HR : Hid (rWs x p = none) := by show _ = _; unfold rWs; rw [hn]
  have HN := hide hn
  clear hn
  go_enter Tryz.func194, Tryz.ntmps194
  go_wp2_with (go_at_call 93; refine (inum_no x g p hs HN.out _ HD.out).mono ?_; rintro e w' ⟨rfl, hg⟩)
  exact ⟨rfl, hg, Or.inl ⟨rfl, HR.out⟩⟩
 | some r =>
  obtain ⟨n, p1⟩ := r
  have HR : Hid (rWs x p = many (rWt x) p1 n) := by show _ = _; unfold rWs; rw [hn]
  have hbn := rN_bd hn
  have hp1 : p1 ≤ x.size := hbn.2.2.1
  have hn9 : n ≤ 1000000000 := hbn.1
  have HN := hide hn
  clear hn hbn
  go_enter Tryz.func194, Tryz.ntmps194
  go_wp2_with (go_at_call 93; refine (inum_yes x g p hs n p1 HN.out _ HD.out).mono ?_; rintro e w1 ⟨rfl, hd1, hg1⟩)
  have HD1 := hide hd1
  have HG1 := hide hg1
  clear hd1 hg1 HD
  go_loopw [3, 6] (fun v t wr => ∃ (k q : Nat) (l : List Wt), k ≤ n ∧ t = .int .i64 k ∧ Hid (many (rWt x) p1 k = some (l, q)) ∧ Hid (GOwn encW 181 wr w.heap.size v l) ∧ Hid (Rd wr g x (q : Int)) ∧ Hid (w.grownBy wr (some g))) (fun _ t _ => n - (intOf t).toNat)
  case atStart => exact ⟨0, p1, [], Nat.zero_le _, rfl, rfl, World.ownsRow_nil _ _ _ _, HD1, HG1⟩
  case round =>
   clear HD1 HG1
   obtain ⟨k, q, l, hk, rfl, HM, HO, HD, HG⟩ := hrel
   obtain ⟨hl, hkq, hq⟩ := many_len hp1 rWt_bd HM.out
   have hll : l.length ≤ 100000000 := by omega
   clear hl hkq
   by_cases hlt : k < n
   ·have hlt' : (k : Int) < (n : Int) := by omega
    cases h1 : rS x (q : Int) with
    | none =>
     have HX : Hid (rWs x p = none) := by
      show _ = _
      rw [HR.out]
      exact many_none (many_no HM.out (by unfold rWt; rw [h1])) hlt
     have H1 := hide h1
     clear h1
     go_wp2_with fail
     refine (ishrt_no x g _ hs H1.out _ HD.out).mono ?_
     rintro e w2 ⟨rfl, hg⟩
     have HG2 := hide (grown_trans HG.out hg)
     clear hg
     go_wp2
     exact ⟨rfl, HG2.out, Or.inl ⟨rfl, HX.out⟩⟩
    | some a =>
     obtain ⟨s1, q1⟩ := a
     cases h2 : rS x (q1 : Int) with
     | none =>
      have HX : Hid (rWs x p = none) := by
       show _ = _
       rw [HR.out]
       exact many_none (many_no HM.out (by unfold rWt; rw [h1]; dsimp only; rw [h2])) hlt
      have H1 := hide h1
      have H2 := hide h2
      clear h1 h2
      go_wp2_with fail
      refine (ishrt_yes x g _ hs s1 q1 H1.out _ HD.out).mono ?_
      rintro e w2 ⟨rfl, hd2, hg2⟩
      have HD2 := hide hd2
      have HG2 := hide (grown_trans HG.out hg2)
      clear hd2 hg2
      go_wp2_with fail
      refine (ishrt_no x g _ hs H2.out _ HD2.out).mono ?_
      rintro e w3 ⟨rfl, hg⟩
      have HG3 := hide (grown_trans HG2.out hg)
      clear hg
      go_wp2
      exact ⟨rfl, HG3.out, Or.inl ⟨rfl, HX.out⟩⟩
     | some b =>
      obtain ⟨s2, q2⟩ := b
      cases h3 : rF x (q2 : Int) with
      | none =>
       have HX : Hid (rWs x p = none) := by
        show _ = _
        rw [HR.out]
        exact many_none (many_no HM.out (by unfold rWt; rw [h1]; dsimp only; rw [h2]; dsimp only; rw [h3])) hlt
       have H1 := hide h1
       have H2 := hide h2
       have H3 := hide h3
       clear h1 h2 h3
       go_wp2_with fail
       refine (ishrt_yes x g _ hs s1 q1 H1.out _ HD.out).mono ?_
       rintro e w2 ⟨rfl, hd2, hg2⟩
       have HD2 := hide hd2
       have HO2 := hide (HO.out.keptG hg2 hgl)
       have HG2 := hide (grown_trans HG.out hg2)
       clear hd2 hg2
       go_wp2_with fail
       refine (ishrt_yes x g _ hs s2 q2 H2.out _ HD2.out).mono ?_
       rintro e w3 ⟨rfl, hd3, hg3⟩
       have HD3 := hide hd3
       have HO3 := hide (HO2.out.keptG hg3 hgl)
       have HG3 := hide (grown_trans HG2.out hg3)
       clear hd3 hg3
       go_wp2_with fail
       refine (iflag_no x g _ hs H3.out _ HD3.out).mono ?_
       rintro e w4 ⟨rfl, hg⟩
       have HG4 := hide (grown_trans HG3.out hg)
       clear hg
       go_wp2
       exact ⟨rfl, HG4.out, Or.inl ⟨rfl, HX.out⟩⟩
      | some c =>
       obtain ⟨fl, q3⟩ := c
       have HMn : Hid (many (rWt x) p1 (k + 1) = some (l ++ [(s1, s2, fl)], q3)) := many_yes HM.out (by unfold rWt; rw [h1]; dsimp only; rw [h2]; dsimp only; rw [h3])
       have H1 := hide h1
       have H2 := hide h2
       have H3 := hide h3
       clear h1 h2 h3
       go_wp2_with fail
       refine (ishrt_yes x g _ hs s1 q1 H1.out _ HD.out).mono ?_
       rintro e w2 ⟨rfl, hd2, hg2⟩
       have HD2 := hide hd2
       have HO2 := hide (HO.out.keptG hg2 hgl)
       have HG2 := hide (grown_trans HG.out hg2)
       clear hd2 hg2
       go_wp2_with fail
       refine (ishrt_yes x g _ hs s2 q2 H2.out _ HD2.out).mono ?_
       rintro e w3 ⟨rfl, hd3, hg3⟩
       have HD3 := hide hd3
       have HO3 := hide (HO2.out.keptG hg3 hgl)
       have HG3 := hide (grown_trans HG2.out hg3)
       clear hd3 hg3
       go_wp2_with fail
       refine (iflag_yes x g _ hs fl q3 H3.out _ HD3.out).mono ?_
       rintro e w4 ⟨rfl, hd4, hg4⟩
       have HD4 := hide hd4
       have HO4 := hide (HO3.out.keptG hg4 hgl)
       have HG4 := hide (grown_trans HG3.out hg4)
       clear hd4 hg4
       go_wp2_with (at_builtin; refine wpAppW rfl _ _ rfl (s1, s2, fl) rfl HO4.out rfl hll HG4.out.size ?_)
       intro v' w' ho' hb'
       have HO9 := hide ho'
       have HD9 : Hid (Rd w' g x (q3 : Int)) := HD4.out.belowB hb' hgl
       have HG9 : Hid (w.grownBy w' (some g)) := grown_belowB HG4.out hb' (Nat.le_refl _)
       clear ho' hb'
       go_wp2
       go_roundw
       case rel => exact ⟨k + 1, q3, _, by omega, by go_num, HMn, HO9, HD9, HG9⟩
       case measure => simp [intOf]; omega
   ·have hlt' : ¬ (k : Int) < (n : Int) := by omega
    have hkn : k = n := by omega
    subst hkn
    have HX : Hid (rWs x p = some (l, q)) := HR.out.trans HM.out
    obtain ⟨a1, c1, rfl, _⟩ := HO.out.row
    go_wp2
    go_ret
    exact ⟨HG.out, Or.inr ⟨l, q, HX.out, hq, a1, c1, rfl, HO.out, HD.out⟩⟩

end Go.Proofs.YtpnnncfbodfnhaaGreat

namespace Go.Proofs.YtpnnncfbodfnhaaGreat
open Go.RowKit
open KM

structure Tx where
 id : Int
 st : Int
 snap : Int
 cs : Int
 rs : List Rg
 ws : List Wt
 out : Bool
 nm : ByteArray
def stateB (t : Tx) : Bool :=
 (decide (t.st = 1) && decide (t.cs = 0) && !t.out && t.nm.toList.isEmpty) ||
 (decide (t.st = 2) && decide (t.cs = 0) && keyB t.nm) ||
 (decide (t.st = 3) && decide (t.snap < t.cs) && decide (t.cs ≤ 9999) && t.nm.toList.isEmpty)
def readsB (rs : List Rg) : Bool := decide (rs.length ≤ 8) && rs.all rangeB
def txnB (t : Tx) : Bool := decide (1 ≤ t.id) && decide (t.id ≤ 9999) && decide (0 ≤ t.snap) && decide (t.snap ≤ 9999) && stateB t && readsB t.rs && writesB t.ws
def TFit (t : Tx) : Prop := t.rs.length ≤ 1048576 ∧ RFit t.rs ∧ t.ws.length ≤ 1048576 ∧ WFit t.ws ∧ t.nm.size ≤ 1048576
structure TRow (w : World) (t : Tx) (ra wa : Option Addr) : Prop where
 r : GRow encR w ra t.rs
 w : GRow encW w wa t.ws
theorem TRow.below {w w' : World} {t : Tx} {ra wa : Option Addr} (h : TRow w t ra wa) (hb : Below w.heap.size w w') : TRow w' t ra wa := ⟨h.r.below hb, h.w.below hb⟩
end Go.Proofs.YtpnnncfbodfnhaaGreat

namespace Go.Proofs.YtpnnncfbodfnhaaGreat
open Go.RowKit
open KM
attribute [local go_sem ↓] Go.wp_at_zero Go.wp_at_succ

set_option maxRecDepth 100000 in
set_option maxHeartbeats 1000000 in
theorem irange (f t : ByteArray) (w : World) : Calls Tryz.prog 234 #[.agg #[.string f, .string t]] w fun e w' => e = .returned (.bool (rangeB (f, t))) ∧ Below w.heap.size w w' := by
 cases hf : keyB f
 ·have K1 : Hid (∀ w, Calls Tryz.prog 213 #[.string f] w fun e w' => e = .returned (.bool false) ∧ w' = w) := fun w => hf ▸ ikey f w
  go_enter Tryz.func234, Tryz.ntmps234
  go_wp2_with (go_at_call 213; refine (K1.out _).mono ?_; rintro e w2 ⟨rfl, rfl⟩)
  go_ret
  exact ⟨ret_bool (by unfold rangeB; rw [hf]; rfl), (belowRefl w).alloc (Nat.le_refl _) _⟩
 ·have K1 : Hid (∀ w, Calls Tryz.prog 213 #[.string f] w fun e w' => e = .returned (.bool true) ∧ w' = w) := fun w => hf ▸ ikey f w
  cases ht : keyB t
  ·have K2 : Hid (∀ w, Calls Tryz.prog 213 #[.string t] w fun e w' => e = .returned (.bool false) ∧ w' = w) := fun w => ht ▸ ikey t w
   go_enter Tryz.func234, Tryz.ntmps234
   go_wp2_with fail
   refine (K1.out _).mono ?_
   rintro e w2 ⟨rfl, rfl⟩
   go_wp2_with fail
   refine (K2.out _).mono ?_
   rintro e w2 ⟨rfl, rfl⟩
   go_wp2
   go_ret
   exact ⟨ret_bool (by unfold rangeB; rw [hf, ht]; rfl), (belowRefl w).alloc (Nat.le_refl _) _⟩
  ·have K2 : Hid (∀ w, Calls Tryz.prog 213 #[.string t] w fun e w' => e = .returned (.bool true) ∧ w' = w) := fun w => ht ▸ ikey t w
   go_enter Tryz.func234, Tryz.ntmps234
   go_wp2_with fail
   refine (K1.out _).mono ?_
   rintro e w2 ⟨rfl, rfl⟩
   go_wp2_with fail
   refine (K2.out _).mono ?_
   rintro e w2 ⟨rfl, rfl⟩
   go_wp2
   go_ret
   exact ⟨ret_bool (by unfold rangeB; rw [hf, ht]; rfl), (belowRefl w).alloc (Nat.le_refl _) _⟩

set_option maxRecDepth 100000 in
set_option maxHeartbeats 1000000 in
theorem srange (f t : ByteArray) (hz : f.size ≤ 1048576) (hz2 : t.size ≤ 1048576) (w : World) : Calls Tryz.prog 68 #[.agg #[.string f, .string t]] w fun e w' => e = .returned (.bool (rangeB (f, t))) ∧ Below w.heap.size w w' := by
 cases hf : keyB f
 ·have K1 : Hid (∀ w, Calls Tryz.prog 28 #[.string f] w fun e w' => e = .returned (.bool false) ∧ w' = w) := fun w => hf ▸ skey f hz w
  go_enter Tryz.func68, Tryz.ntmps68
  go_wp2_with (go_at_call 28; refine (K1.out _).mono ?_; rintro e w2 ⟨rfl, rfl⟩)
  go_ret
  exact ⟨ret_bool (by unfold rangeB; rw [hf]; rfl), (belowRefl w).alloc (Nat.le_refl _) _⟩
 ·have K1 : Hid (∀ w, Calls Tryz.prog 28 #[.string f] w fun e w' => e = .returned (.bool true) ∧ w' = w) := fun w => hf ▸ skey f hz w
  cases ht : keyB t
  ·have K2 : Hid (∀ w, Calls Tryz.prog 28 #[.string t] w fun e w' => e = .returned (.bool false) ∧ w' = w) := fun w => ht ▸ skey t hz2 w
   go_enter Tryz.func68, Tryz.ntmps68
   go_wp2_with fail
   refine (K1.out _).mono ?_
   rintro e w2 ⟨rfl, rfl⟩
   go_wp2_with fail
   refine (K2.out _).mono ?_
   rintro e w2 ⟨rfl, rfl⟩
   go_wp2
   go_ret
   exact ⟨ret_bool (by unfold rangeB; rw [hf, ht]; rfl), (belowRefl w).alloc (Nat.le_refl _) _⟩
  ·have K2 : Hid (∀ w, Calls Tryz.prog 28 #[.string t] w fun e w' => e = .returned (.bool true) ∧ w' = w) := fun w => ht ▸ skey t hz2 w
   go_enter Tryz.func68, Tryz.ntmps68
   go_wp2_with fail
   refine (K1.out _).mono ?_
   rintro e w2 ⟨rfl, rfl⟩
   go_wp2_with fail
   refine (K2.out _).mono ?_
   rintro e w2 ⟨rfl, rfl⟩
   go_wp2
   go_ret
   exact ⟨ret_bool (by unfold rangeB; rw [hf, ht]; rfl), (belowRefl w).alloc (Nat.le_refl _) _⟩

set_option maxRecDepth 100000 in
set_option maxHeartbeats 1000000 in
theorem swrite (k v : ByteArray) (g : Bool) (hz : k.size ≤ 1048576) (w : World) : Calls Tryz.prog 122 #[.agg #[.string k, .string v, .bool g]] w fun e w' => e = .returned (.bool (writeB (k, v, g))) ∧ Below w.heap.size w w' := by
 cases hk : keyB k <;> cases g <;> cases he : v.toList.isEmpty <;> by_cases hs : v.size ≤ 12
 ·have K1 : Hid (∀ w, Calls Tryz.prog 28 #[.string k] w fun e w' => e = .returned (.bool false) ∧ w' = w) := fun w => hk ▸ skey k hz w
  have HN : Hid (writeB (k, v, false) = false) := by show _ = _; unfold writeB; simp [hk, he, hs]
  have hs' : decide ((v.size : Int) ≤ 12) = true := by simp; omega
  clear hs hk
  go_enter Tryz.func122, Tryz.ntmps122
  go_wp2_with (go_at_call 28; refine (K1.out _).mono ?_; rintro e w2 ⟨rfl, rfl⟩)
  go_ret
  exact ⟨ret_bool HN.out.symm, (belowRefl w).alloc (Nat.le_refl _) _⟩
 ·have K1 : Hid (∀ w, Calls Tryz.prog 28 #[.string k] w fun e w' => e = .returned (.bool false) ∧ w' = w) := fun w => hk ▸ skey k hz w
  have HN : Hid (writeB (k, v, false) = false) := by show _ = _; unfold writeB; simp [hk, he, hs]
  have hs' : decide ((v.size : Int) ≤ 12) = false := by simp; omega
  clear hs hk
  go_enter Tryz.func122, Tryz.ntmps122
  go_wp2_with (go_at_call 28; refine (K1.out _).mono ?_; rintro e w2 ⟨rfl, rfl⟩)
  go_ret
  exact ⟨ret_bool HN.out.symm, (belowRefl w).alloc (Nat.le_refl _) _⟩
 ·have K1 : Hid (∀ w, Calls Tryz.prog 28 #[.string k] w fun e w' => e = .returned (.bool false) ∧ w' = w) := fun w => hk ▸ skey k hz w
  have HN : Hid (writeB (k, v, false) = false) := by show _ = _; unfold writeB; simp [hk, he, hs]
  have hs' : decide ((v.size : Int) ≤ 12) = true := by simp; omega
  clear hs hk
  go_enter Tryz.func122, Tryz.ntmps122
  go_wp2_with (go_at_call 28; refine (K1.out _).mono ?_; rintro e w2 ⟨rfl, rfl⟩)
  go_ret
  exact ⟨ret_bool HN.out.symm, (belowRefl w).alloc (Nat.le_refl _) _⟩
 ·have K1 : Hid (∀ w, Calls Tryz.prog 28 #[.string k] w fun e w' => e = .returned (.bool false) ∧ w' = w) := fun w => hk ▸ skey k hz w
  have HN : Hid (writeB (k, v, false) = false) := by show _ = _; unfold writeB; simp [hk, he, hs]
  have hs' : decide ((v.size : Int) ≤ 12) = false := by simp; omega
  clear hs hk
  go_enter Tryz.func122, Tryz.ntmps122
  go_wp2_with (go_at_call 28; refine (K1.out _).mono ?_; rintro e w2 ⟨rfl, rfl⟩)
  go_ret
  exact ⟨ret_bool HN.out.symm, (belowRefl w).alloc (Nat.le_refl _) _⟩
 ·have K1 : Hid (∀ w, Calls Tryz.prog 28 #[.string k] w fun e w' => e = .returned (.bool false) ∧ w' = w) := fun w => hk ▸ skey k hz w
  have HN : Hid (writeB (k, v, true) = false) := by show _ = _; unfold writeB; simp [hk, he, hs]
  have hs' : decide ((v.size : Int) ≤ 12) = true := by simp; omega
  clear hs hk
  go_enter Tryz.func122, Tryz.ntmps122
  go_wp2_with (go_at_call 28; refine (K1.out _).mono ?_; rintro e w2 ⟨rfl, rfl⟩)
  go_ret
  exact ⟨ret_bool HN.out.symm, (belowRefl w).alloc (Nat.le_refl _) _⟩
 ·have K1 : Hid (∀ w, Calls Tryz.prog 28 #[.string k] w fun e w' => e = .returned (.bool false) ∧ w' = w) := fun w => hk ▸ skey k hz w
  have HN : Hid (writeB (k, v, true) = false) := by show _ = _; unfold writeB; simp [hk, he, hs]
  have hs' : decide ((v.size : Int) ≤ 12) = false := by simp; omega
  clear hs hk
  go_enter Tryz.func122, Tryz.ntmps122
  go_wp2_with (go_at_call 28; refine (K1.out _).mono ?_; rintro e w2 ⟨rfl, rfl⟩)
  go_ret
  exact ⟨ret_bool HN.out.symm, (belowRefl w).alloc (Nat.le_refl _) _⟩
 ·have K1 : Hid (∀ w, Calls Tryz.prog 28 #[.string k] w fun e w' => e = .returned (.bool false) ∧ w' = w) := fun w => hk ▸ skey k hz w
  have HN : Hid (writeB (k, v, true) = false) := by show _ = _; unfold writeB; simp [hk, he, hs]
  have hs' : decide ((v.size : Int) ≤ 12) = true := by simp; omega
  clear hs hk
  go_enter Tryz.func122, Tryz.ntmps122
  go_wp2_with (go_at_call 28; refine (K1.out _).mono ?_; rintro e w2 ⟨rfl, rfl⟩)
  go_ret
  exact ⟨ret_bool HN.out.symm, (belowRefl w).alloc (Nat.le_refl _) _⟩
 ·have K1 : Hid (∀ w, Calls Tryz.prog 28 #[.string k] w fun e w' => e = .returned (.bool false) ∧ w' = w) := fun w => hk ▸ skey k hz w
  have HN : Hid (writeB (k, v, true) = false) := by show _ = _; unfold writeB; simp [hk, he, hs]
  have hs' : decide ((v.size : Int) ≤ 12) = false := by simp; omega
  clear hs hk
  go_enter Tryz.func122, Tryz.ntmps122
  go_wp2_with (go_at_call 28; refine (K1.out _).mono ?_; rintro e w2 ⟨rfl, rfl⟩)
  go_ret
  exact ⟨ret_bool HN.out.symm, (belowRefl w).alloc (Nat.le_refl _) _⟩
 ·have K1 : Hid (∀ w, Calls Tryz.prog 28 #[.string k] w fun e w' => e = .returned (.bool true) ∧ w' = w) := fun w => hk ▸ skey k hz w
  have HN : Hid (writeB (k, v, false) = true) := by show _ = _; unfold writeB; simp [hk, he, hs]
  have hs' : decide ((v.size : Int) ≤ 12) = true := by simp; omega
  clear hs hk
  go_enter Tryz.func122, Tryz.ntmps122
  go_wp2_with (go_at_call 28; refine (K1.out _).mono ?_; rintro e w2 ⟨rfl, rfl⟩)
  go_ret
  exact ⟨ret_bool HN.out.symm, (belowRefl w).alloc (Nat.le_refl _) _⟩
 ·have K1 : Hid (∀ w, Calls Tryz.prog 28 #[.string k] w fun e w' => e = .returned (.bool true) ∧ w' = w) := fun w => hk ▸ skey k hz w
  have HN : Hid (writeB (k, v, false) = false) := by show _ = _; unfold writeB; simp [hk, he, hs]
  have hs' : decide ((v.size : Int) ≤ 12) = false := by simp; omega
  clear hs hk
  go_enter Tryz.func122, Tryz.ntmps122
  go_wp2_with (go_at_call 28; refine (K1.out _).mono ?_; rintro e w2 ⟨rfl, rfl⟩)
  go_ret
  exact ⟨ret_bool HN.out.symm, (belowRefl w).alloc (Nat.le_refl _) _⟩
 ·have K1 : Hid (∀ w, Calls Tryz.prog 28 #[.string k] w fun e w' => e = .returned (.bool true) ∧ w' = w) := fun w => hk ▸ skey k hz w
  have HN : Hid (writeB (k, v, false) = true) := by show _ = _; unfold writeB; simp [hk, he, hs]
  have hs' : decide ((v.size : Int) ≤ 12) = true := by simp; omega
  clear hs hk
  go_enter Tryz.func122, Tryz.ntmps122
  go_wp2_with (go_at_call 28; refine (K1.out _).mono ?_; rintro e w2 ⟨rfl, rfl⟩)
  go_ret
  exact ⟨ret_bool HN.out.symm, (belowRefl w).alloc (Nat.le_refl _) _⟩
 ·have K1 : Hid (∀ w, Calls Tryz.prog 28 #[.string k] w fun e w' => e = .returned (.bool true) ∧ w' = w) := fun w => hk ▸ skey k hz w
  have HN : Hid (writeB (k, v, false) = false) := by show _ = _; unfold writeB; simp [hk, he, hs]
  have hs' : decide ((v.size : Int) ≤ 12) = false := by simp; omega
  clear hs hk
  go_enter Tryz.func122, Tryz.ntmps122
  go_wp2_with (go_at_call 28; refine (K1.out _).mono ?_; rintro e w2 ⟨rfl, rfl⟩)
  go_ret
  exact ⟨ret_bool HN.out.symm, (belowRefl w).alloc (Nat.le_refl _) _⟩
 ·have K1 : Hid (∀ w, Calls Tryz.prog 28 #[.string k] w fun e w' => e = .returned (.bool true) ∧ w' = w) := fun w => hk ▸ skey k hz w
  have HN : Hid (writeB (k, v, true) = false) := by show _ = _; unfold writeB; simp [hk, he, hs]
  have hs' : decide ((v.size : Int) ≤ 12) = true := by simp; omega
  clear hs hk
  go_enter Tryz.func122, Tryz.ntmps122
  go_wp2_with (go_at_call 28; refine (K1.out _).mono ?_; rintro e w2 ⟨rfl, rfl⟩)
  go_ret
  exact ⟨ret_bool HN.out.symm, (belowRefl w).alloc (Nat.le_refl _) _⟩
 ·have K1 : Hid (∀ w, Calls Tryz.prog 28 #[.string k] w fun e w' => e = .returned (.bool true) ∧ w' = w) := fun w => hk ▸ skey k hz w
  have HN : Hid (writeB (k, v, true) = false) := by show _ = _; unfold writeB; simp [hk, he, hs]
  have hs' : decide ((v.size : Int) ≤ 12) = false := by simp; omega
  clear hs hk
  go_enter Tryz.func122, Tryz.ntmps122
  go_wp2_with (go_at_call 28; refine (K1.out _).mono ?_; rintro e w2 ⟨rfl, rfl⟩)
  go_ret
  exact ⟨ret_bool HN.out.symm, (belowRefl w).alloc (Nat.le_refl _) _⟩
 ·have K1 : Hid (∀ w, Calls Tryz.prog 28 #[.string k] w fun e w' => e = .returned (.bool true) ∧ w' = w) := fun w => hk ▸ skey k hz w
  have HN : Hid (writeB (k, v, true) = true) := by show _ = _; unfold writeB; simp [hk, he, hs]
  have hs' : decide ((v.size : Int) ≤ 12) = true := by simp; omega
  clear hs hk
  go_enter Tryz.func122, Tryz.ntmps122
  go_wp2_with (go_at_call 28; refine (K1.out _).mono ?_; rintro e w2 ⟨rfl, rfl⟩)
  go_ret
  exact ⟨ret_bool HN.out.symm, (belowRefl w).alloc (Nat.le_refl _) _⟩
 ·have K1 : Hid (∀ w, Calls Tryz.prog 28 #[.string k] w fun e w' => e = .returned (.bool true) ∧ w' = w) := fun w => hk ▸ skey k hz w
  have HN : Hid (writeB (k, v, true) = false) := by show _ = _; unfold writeB; simp [hk, he, hs]
  have hs' : decide ((v.size : Int) ≤ 12) = false := by simp; omega
  clear hs hk
  go_enter Tryz.func122, Tryz.ntmps122
  go_wp2_with (go_at_call 28; refine (K1.out _).mono ?_; rintro e w2 ⟨rfl, rfl⟩)
  go_ret
  exact ⟨ret_bool HN.out.symm, (belowRefl w).alloc (Nat.le_refl _) _⟩
end Go.Proofs.YtpnnncfbodfnhaaGreat

namespace Go.Proofs.YtpnnncfbodfnhaaGreat
open Go.RowKit
open KM
attribute [local go_sem ↓] Go.wp_at_zero Go.wp_at_succ

set_option maxRecDepth 100000 in
set_option maxHeartbeats 2000000 in
theorem istate (t : Tx) (ra wa : Option Addr) (rc wc : Nat) (w : World) : Calls Tryz.prog 216 #[.agg #[.int .i64 t.id, .int .i64 t.st, .int .i64 t.snap, .int .i64 t.cs, .slice ra t.rs.length rc, .slice wa t.ws.length wc, .bool t.out, .string t.nm]] w fun e w' => e = .returned (.bool (stateB t)) ∧ Below w.heap.size w w' := by
 by_cases s1 : t.st = 1
 ·have s1' : (t.st == 1) = true := by simp [s1]
  by_cases c0 : t.cs = 0
  ·have c0' : (t.cs == 0) = true := by simp [c0]
   cases ho : t.out
   ·cases he : t.nm.toList.isEmpty
    ·have HN : Hid (stateB t = false) := by show _ = _; unfold stateB; simp [s1, c0, ho, he]
     clear s1 c0
     go_enter Tryz.func216, Tryz.ntmps216
     go_wp2
     go_ret
     exact ⟨ret_bool HN.out.symm, (belowRefl w).alloc (Nat.le_refl _) _⟩
    ·have HN : Hid (stateB t = true) := by show _ = _; unfold stateB; simp [s1, c0, ho, he]
     clear s1 c0
     go_enter Tryz.func216, Tryz.ntmps216
     go_wp2
     go_ret
     exact ⟨ret_bool HN.out.symm, (belowRefl w).alloc (Nat.le_refl _) _⟩
   ·have HN : Hid (stateB t = false) := by show _ = _; unfold stateB; simp [s1, c0, ho]
    clear s1 c0
    go_enter Tryz.func216, Tryz.ntmps216
    go_wp2
    go_ret
    exact ⟨ret_bool HN.out.symm, (belowRefl w).alloc (Nat.le_refl _) _⟩
  ·have c0' : (t.cs == 0) = false := by simp [c0]
   have HN : Hid (stateB t = false) := by show _ = _; unfold stateB; simp [s1, c0]
   clear s1 c0
   go_enter Tryz.func216, Tryz.ntmps216
   go_wp2
   go_ret
   exact ⟨ret_bool HN.out.symm, (belowRefl w).alloc (Nat.le_refl _) _⟩
 have s1' : (t.st == 1) = false := by simp [s1]
 by_cases s2 : t.st = 2
 ·have s2' : (t.st == 2) = true := by simp [s2]
  by_cases c0 : t.cs = 0
  ·have c0' : (t.cs == 0) = true := by simp [c0]
   cases hk : keyB t.nm
   ·have K1 : Hid (∀ w, Calls Tryz.prog 213 #[.string t.nm] w fun e w' => e = .returned (.bool false) ∧ w' = w) := fun w => hk ▸ ikey t.nm w
    have HN : Hid (stateB t = false) := by show _ = _; unfold stateB; simp [s2, c0, hk]
    clear s1 s2 c0 hk
    go_enter Tryz.func216, Tryz.ntmps216
    go_wp2_with (go_at_call 213; refine (K1.out _).mono ?_; rintro e w2 ⟨rfl, rfl⟩)
    go_ret
    exact ⟨ret_bool HN.out.symm, (belowRefl w).alloc (Nat.le_refl _) _⟩
   ·have K1 : Hid (∀ w, Calls Tryz.prog 213 #[.string t.nm] w fun e w' => e = .returned (.bool true) ∧ w' = w) := fun w => hk ▸ ikey t.nm w
    have HN : Hid (stateB t = true) := by show _ = _; unfold stateB; simp [s2, c0, hk]
    clear s1 s2 c0 hk
    go_enter Tryz.func216, Tryz.ntmps216
    go_wp2_with (go_at_call 213; refine (K1.out _).mono ?_; rintro e w2 ⟨rfl, rfl⟩)
    go_ret
    exact ⟨ret_bool HN.out.symm, (belowRefl w).alloc (Nat.le_refl _) _⟩
  ·have c0' : (t.cs == 0) = false := by simp [c0]
   have HN : Hid (stateB t = false) := by show _ = _; unfold stateB; simp [s2, c0]
   clear s1 s2 c0
   go_enter Tryz.func216, Tryz.ntmps216
   go_wp2
   go_ret
   exact ⟨ret_bool HN.out.symm, (belowRefl w).alloc (Nat.le_refl _) _⟩
 have s2' : (t.st == 2) = false := by simp [s2]
 by_cases s3 : t.st = 3
 ·have s3' : (t.st == 3) = true := by simp [s3]
  by_cases c1 : t.snap < t.cs
  ·by_cases c2 : t.cs ≤ 9999
   ·cases he : t.nm.toList.isEmpty
    ·have HN : Hid (stateB t = false) := by show _ = _; unfold stateB; simp [s3, c1, c2, he]
     clear s1 s2 s3
     go_enter Tryz.func216, Tryz.ntmps216
     go_wp2
     go_ret
     exact ⟨ret_bool HN.out.symm, (belowRefl w).alloc (Nat.le_refl _) _⟩
    ·have HN : Hid (stateB t = true) := by show _ = _; unfold stateB; simp [s3, c1, c2, he]
     clear s1 s2 s3
     go_enter Tryz.func216, Tryz.ntmps216
     go_wp2
     go_ret
     exact ⟨ret_bool HN.out.symm, (belowRefl w).alloc (Nat.le_refl _) _⟩
   ·have HN : Hid (stateB t = false) := by show _ = _; unfold stateB; simp [s3, c2]
    clear s1 s2 s3
    go_enter Tryz.func216, Tryz.ntmps216
    go_wp2
    go_ret
    exact ⟨ret_bool HN.out.symm, (belowRefl w).alloc (Nat.le_refl _) _⟩
  ·have HN : Hid (stateB t = false) := by show _ = _; unfold stateB; simp [s3, c1]
   clear s1 s2 s3
   go_enter Tryz.func216, Tryz.ntmps216
   go_wp2
   go_ret
   exact ⟨ret_bool HN.out.symm, (belowRefl w).alloc (Nat.le_refl _) _⟩
 have s3' : (t.st == 3) = false := by simp [s3]
 have HN : Hid (stateB t = false) := by show _ = _; unfold stateB; simp [s1, s2, s3]
 clear s1 s2 s3
 go_enter Tryz.func216, Tryz.ntmps216
 go_wp2
 go_ret
 exact ⟨ret_bool HN.out.symm, (belowRefl w).alloc (Nat.le_refl _) _⟩

def GoodR (rs : List Rg) (k : Nat) : Prop := ∀ j (h : j < rs.length), j < k → rangeB rs[j] = true
theorem goodR_all {rs : List Rg} {k : Nat} (h : GoodR rs k) (hk : rs.length ≤ k) (h8 : rs.length ≤ 8) : readsB rs = true := by
 unfold readsB
 simp only [Bool.and_eq_true, decide_eq_true_eq, List.all_eq_true]
 exact ⟨h8, fun x hx => by obtain ⟨j, hj, rfl⟩ := List.getElem_of_mem hx; exact h j hj (by omega)⟩
theorem goodR_no {rs : List Rg} (k : Nat) (hk : k < rs.length) (h : rangeB rs[k] = false) : readsB rs = false := by
 cases e : readsB rs with
 | false => rfl
 | true =>
  unfold readsB at e
  simp only [Bool.and_eq_true, decide_eq_true_eq, List.all_eq_true] at e
  rw [e.2 _ (List.getElem_mem hk)] at h; cases h
theorem goodR_len {rs : List Rg} (h8 : ¬ rs.length ≤ 8) : readsB rs = false := by unfold readsB; simp [h8]
theorem goodR_more {rs : List Rg} {k : Nat} (hg : GoodR rs k) (hk : k < rs.length) (h : rangeB rs[k] = true) : GoodR rs (k + 1) := fun j hj h2 => by
 by_cases e : j = k
 ·subst e; exact h
 ·exact hg j hj (by omega)

set_option maxRecDepth 100000 in
set_option maxHeartbeats 2000000 in
theorem ireads (rs : List Rg) (a : Option Addr) (c : Nat) (hn : rs.length ≤ 100000000) (w : World) (hp : GRow encR w a rs) :
  Calls Tryz.prog 217 #[.slice a rs.length c] w fun e w' => e = .returned (.bool (readsB rs)) ∧ Below w.heap.size w w' := by
 have HP : Hid (GRow encR w a rs) := hp
 clear hp
 by_cases h8 : rs.length ≤ 8
 ·have h8' : ¬ (8 : Int) < (rs.length : Int) := by omega
  go_enter Tryz.func217, Tryz.ntmps217
  go_wp2
  go_loopw [10] (fun t wr => ∃ k : Nat, k ≤ rs.length ∧ t = .int .i64 k ∧ Hid (GoodR rs k) ∧ Hid (Below w.heap.size w wr)) (fun t _ => rs.length - (intOf t).toNat)
  case atStart => exact ⟨0, Nat.zero_le _, rfl, fun j _ h => by omega, Below.refl _ _⟩
  case round =>
   obtain ⟨k, hk, rfl, HG, HB⟩ := hrel
   by_cases hlt : k < rs.length
   ·have hlt' : (k : Int) < (rs.length : Int) := by omega
    have h0 : (0 : Int) ≤ (k : Int) := by omega
    obtain ⟨b, off, rfl, hl, q⟩ := (HP.out.below HB.out) (by omega)
    have r0 := ((rat q) k hlt).1
    have r1 := ((rat q) k hlt).2
    clear q
    cases hv : rangeB rs[k]
    ·have K1 : Hid (∀ w, Calls Tryz.prog 234 #[.agg #[.string rs[k].1, .string rs[k].2]] w fun e w' => e = .returned (.bool false) ∧ Below w.heap.size w w') := fun w => hv ▸ irange rs[k].1 rs[k].2 w
     have HN : Hid (readsB rs = false) := goodR_no k hlt hv
     clear hv
     go_wp2_with fail
     refine (K1.out _).mono ?_
     rintro e w2 ⟨rfl, hb2⟩
     have HB2 : Hid (Below w.heap.size w w2) := (HB.out.alloc HB.out.size _).trans (hb2.mono (Nat.le_trans HB.out.size (by simp)))
     clear hb2
     go_wp2
     go_ret
     exact ⟨ret_bool HN.out.symm, HB2.out⟩
    ·have K1 : Hid (∀ w, Calls Tryz.prog 234 #[.agg #[.string rs[k].1, .string rs[k].2]] w fun e w' => e = .returned (.bool true) ∧ Below w.heap.size w w') := fun w => hv ▸ irange rs[k].1 rs[k].2 w
     have HG2 : Hid (GoodR rs (k + 1)) := goodR_more HG.out hlt hv
     clear hv
     go_wp2_with fail
     refine (K1.out _).mono ?_
     rintro e w2 ⟨rfl, hb2⟩
     have HB2 : Hid (Below w.heap.size w w2) := (HB.out.alloc HB.out.size _).trans (hb2.mono (Nat.le_trans HB.out.size (by simp)))
     clear hb2
     go_wp2
     go_roundw
     case rel => exact ⟨k + 1, by omega, by go_num, HG2, HB2⟩
     case measure => simp [intOf]; omega
   ·have hlt' : ¬ (k : Int) < (rs.length : Int) := by omega
    have HN : Hid (readsB rs = true) := goodR_all HG.out (by omega) h8
    go_wp2
    go_ret
    exact ⟨ret_bool HN.out.symm, HB.out⟩
 ·have h8' : (8 : Int) < (rs.length : Int) := by omega
  have HN : Hid (readsB rs = false) := goodR_len h8
  go_enter Tryz.func217, Tryz.ntmps217
  go_wp2
  go_ret
  exact ⟨ret_bool HN.out.symm, belowRefl w⟩
end Go.Proofs.YtpnnncfbodfnhaaGreat

namespace Go.Proofs.YtpnnncfbodfnhaaGreat
open Go.RowKit
open KM
attribute [local go_sem ↓] Go.wp_at_zero Go.wp_at_succ

end Go.Proofs.YtpnnncfbodfnhaaGreat

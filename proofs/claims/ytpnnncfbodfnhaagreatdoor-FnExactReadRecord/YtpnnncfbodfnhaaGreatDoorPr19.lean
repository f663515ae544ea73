/- What a textReader does: ranges and writes. -/
import Derived.Test.YtpnnncfbodfnhaaGreatDoorPr18
import Derived.Test.YtpnnncfbodfnhaaGreatDoorPr17
import Derived.Test.YtpnnncfbodfnhaaGreatDoorProg
import Derived.WalkKit
import Derived.Test.YtpnnncfbodfnhaaGreatDoorPr01
import Derived.WalkSpells
import Derived.WalkLawsBesides
import Derived.Deep.QuietTactic
import Derived.BigQuiet
import Derived.Deep.RegionHeld3
import Derived.Deep.DrawnRows
import Derived.Deep.AppendLies
import Derived.Test.YtpnnncfbodfnhaaGreatDoorPr02
import Derived.Deep.RegionHeld
import Derived.Shelf.Small.Strs
import Derived.Shelf.Small.Wraps
import Derived.Test.YtpnnncfbodfnhaaGreatDoorPr03
import Derived.Test.YtpnnncfbodfnhaaGreatDoorPr04
import Derived.Test.YtpnnncfbodfnhaaGreatDoorPr05
import Derived.Maps.OwnSet
import Derived.StringKeys
namespace Go.Proofs.YtpnnncfbodfnhaaGreatDoor
open Go.RowKit
open KM
attribute [local go_sem ↓] Go.wp_at_zero Go.wp_at_succ

theorem GOwn.keptG {α : Type} {E : Enc α} {e : TypeId} {base g : Nat} {v : Value} {l : List α} {w w' : World} (h : GOwn E e w base v l) (d : w.grownBy w' (some g)) (hlt : g < base) : GOwn E e w' base v l :=
 World.ownsRow.kept h d (by
  cases e : v.ownBlock with
  | none => exact Or.inl rfl
  | some k => right; intro e2; have := (World.ownsRow.lt h k e).1; have := Option.some.inj e2; omega)
theorem Rd.belowB {w w' : World} {g B : Nat} {x : ByteArray} {p : Int} (h : Rd w g x p) (hb : Below B w w') (hg : g < B) : Rd w' g x p :=
 ⟨Nat.lt_of_lt_of_le h.lt hb.size, fun j hj => (hb.cell (p := ⟨g, j, none⟩) hg).trans (h.at' j hj), fun j => (hb.frozen (p := ⟨g, j, none⟩) hg).trans (h.fz j)⟩
def rRg (x : ByteArray) (p : Int) : Option (Rg × Nat) :=
 match rS x p with
 | none => none
 | some a => match rS x (a.2 : Int) with
  | none => none
  | some b => some ((a.1, b.1), b.2)
def rWt (x : ByteArray) (p : Int) : Option (Wt × Nat) :=
 match rS x p with
 | none => none
 | some a => match rS x (a.2 : Int) with
  | none => none
  | some b => match rF x (b.2 : Int) with
   | none => none
   | some c => some ((a.1, b.1, c.1), c.2)
def many {α : Type} (f : Int → Option (α × Nat)) (p : Nat) : Nat → Option (List α × Nat)
 | 0 => some ([], p)
 | k + 1 => match many f p k with
  | none => none
  | some a => match f (a.2 : Int) with
   | none => none
   | some b => some (a.1 ++ [b.1], b.2)
theorem many_none {α : Type} {f : Int → Option (α × Nat)} {p k : Nat} (h : many f p k = none) : ∀ {n}, k ≤ n → many f p n = none := by
 intro n hn
 induction n with
 | zero => rw [Nat.le_zero.1 hn] at h; exact h
 | succ n ih =>
  by_cases e : k = n + 1
  ·rw [← e]; exact h
  ·simp only [many, ih (by omega)]
theorem many_no {α : Type} {f : Int → Option (α × Nat)} {p k q : Nat} {l : List α} (h : many f p k = some (l, q)) (hf : f (q : Int) = none) : many f p (k + 1) = none := by
 simp only [many, h, hf]
theorem many_yes {α : Type} {f : Int → Option (α × Nat)} {p k q q' : Nat} {l : List α} {a : α} (h : many f p k = some (l, q)) (hf : f (q : Int) = some (a, q')) : many f p (k + 1) = some (l ++ [a], q') := by
 simp only [many, h, hf]
theorem many_len {α : Type} {f : Int → Option (α × Nat)} {p N : Nat} (hp : p ≤ N) (hf : ∀ q a q', f q = some (a, q') → q < (q' : Int) ∧ q' ≤ N) : ∀ {k l q}, many f p k = some (l, q) → l.length = k ∧ k ≤ q ∧ q ≤ N := by
 intro k
 induction k with
 | zero => intro l q h; cases h; exact ⟨rfl, Nat.zero_le _, hp⟩
 | succ k ih =>
  intro l q h
  simp only [many] at h
  split at h
  ·cases h
  ·rename_i a ha
   obtain ⟨h1, h2, h3⟩ := ih (l := a.1) (q := a.2) ha
   split at h
   ·cases h
   ·rename_i b hb
    have := hf _ b.1 b.2 hb
    cases h
    refine ⟨by rw [List.length_append, h1]; rfl, by omega, this.2⟩
theorem rRg_bd {x : ByteArray} (q : Int) (a : Rg) (q' : Nat) (h : rRg x q = some (a, q')) : q < (q' : Int) ∧ q' ≤ x.size := by
 unfold rRg at h
 split at h
 ·cases h
 ·rename_i u hu
  have b1 := rS_bd hu
  split at h
  ·cases h
  ·rename_i v hv
   have b2 := rS_bd hv
   cases h
   exact ⟨by omega, b2.2.2.1⟩
theorem rWt_bd {x : ByteArray} (q : Int) (a : Wt) (q' : Nat) (h : rWt x q = some (a, q')) : q < (q' : Int) ∧ q' ≤ x.size := by
 unfold rWt at h
 split at h
 ·cases h
 ·rename_i u hu
  have b1 := rS_bd hu
  split at h
  ·cases h
  ·rename_i v hv
   have b2 := rS_bd hv
   split at h
   ·cases h
   ·rename_i c hc
    have b3 := rF_bd hc
    cases h
    exact ⟨by omega, b3.2.1⟩
def rRs (x : ByteArray) (p : Int) : Option (List Rg × Nat) :=
 match rN x p with
 | none => none
 | some r => many (rRg x) r.2 r.1
def rWs (x : ByteArray) (p : Int) : Option (List Wt × Nat) :=
 match rN x p with
 | none => none
 | some r => many (rWt x) r.2 r.1

set_option maxRecDepth 100000 in
set_option maxHeartbeats 2000000 in
theorem irs (x : ByteArray) (g : Nat) (p : Int) (hs : x.size ≤ 1048576) (w : World) (hd : Rd w g x p) :
  Calls Tryz.prog 108 #[.pointer (some ⟨g, 0, none⟩)] w fun e w' => w.grownBy w' (some g) ∧ ((e = .panicked PAN ∧ rRs x p = none) ∨ ∃ l q a1 c1, rRs x p = some (l, q) ∧ q ≤ x.size ∧ e = .returned (.slice a1 l.length c1) ∧ GOwn encR 109 w' w.heap.size (.slice a1 l.length c1) l ∧ Rd w' g x (q : Int)) := by
 have HD : Hid (Rd w g x p) := hd
 have hgl := hd.lt
 clear hd
 cases hn : rN x p with
 | none =>
  have HR : Hid (rRs x p = none) := by show _ = _; unfold rRs; rw [hn]
  have HN := hide hn
  clear hn
  go_enter Tryz.func108, Tryz.ntmps108
  go_wp2_with (go_at_call 76; refine (inum_no x g p hs HN.out _ HD.out).mono ?_; rintro e w' ⟨rfl, hg⟩)
  exact ⟨rfl, hg, Or.inl ⟨rfl, HR.out⟩⟩
 | some r =>
  obtain ⟨n, p1⟩ := r
  have HR : Hid (rRs x p = many (rRg x) p1 n) := by show _ = _; unfold rRs; rw [hn]
  have hbn := rN_bd hn
  have hp1 : p1 ≤ x.size := hbn.2.2.1
  have hn9 : n ≤ 1000000000 := hbn.1
  have HN := hide hn
  clear hn hbn
  go_enter Tryz.func108, Tryz.ntmps108
  go_wp2_with (go_at_call 76; refine (inum_yes x g p hs n p1 HN.out _ HD.out).mono ?_; rintro e w1 ⟨rfl, hd1, hg1⟩)
  have HD1 := hide hd1
  have HG1 := hide hg1
  clear hd1 hg1 HD
  go_loopw [3, 6] (fun v t wr => ∃ (k q : Nat) (l : List Rg), k ≤ n ∧ t = .int .i64 k ∧ Hid (many (rRg x) p1 k = some (l, q)) ∧ Hid (GOwn encR 109 wr w.heap.size v l) ∧ Hid (Rd wr g x (q : Int)) ∧ Hid (w.grownBy wr (some g))) (fun _ t _ => n - (intOf t).toNat)
  case atStart => exact ⟨0, p1, [], Nat.zero_le _, rfl, rfl, World.ownsRow_nil _ _ _ _, HD1, HG1⟩
  case round =>
   clear HD1 HG1
   obtain ⟨k, q, l, hk, rfl, HM, HO, HD, HG⟩ := hrel
   obtain ⟨hl, hkq, hq⟩ := many_len hp1 rRg_bd HM.out
   have hll : l.length ≤ 100000000 := by omega
   clear hl hkq
   by_cases hlt : k < n
   ·have hlt' : (k : Int) < (n : Int) := by omega
    cases h1 : rS x (q : Int) with
    | none =>
     have HX : Hid (rRs x p = none) := by
      show _ = _
      rw [HR.out]
      exact many_none (many_no HM.out (by unfold rRg; rw [h1])) hlt
     have H1 := hide h1
     clear h1
     go_wp2_with fail
     refine (ishrt_no x g _ hs H1.out _ HD.out).mono ?_
     rintro e w2 ⟨rfl, hg⟩
     have HG2 := hide (grown_trans HG.out hg)
     clear hg
     go_wp2
     exact ⟨rfl, HG2.out, Or.inl ⟨rfl, HX.out⟩⟩
    | some a =>
     obtain ⟨s1, q1⟩ := a
     cases h2 : rS x (q1 : Int) with
     | none =>
      have HX : Hid (rRs x p = none) := by
       show _ = _
       rw [HR.out]
       exact many_none (many_no HM.out (by unfold rRg; rw [h1]; dsimp only; rw [h2])) hlt
      have H1 := hide h1
      have H2 := hide h2
      clear h1 h2
      go_wp2_with fail
      refine (ishrt_yes x g _ hs s1 q1 H1.out _ HD.out).mono ?_
      rintro e w2 ⟨rfl, hd2, hg2⟩
      have HD2 := hide hd2
      have HG2 := hide (grown_trans HG.out hg2)
      clear hd2 hg2
      go_wp2_with fail
      refine (ishrt_no x g _ hs H2.out _ HD2.out).mono ?_
      rintro e w3 ⟨rfl, hg⟩
      have HG3 := hide (grown_trans HG2.out hg)
      clear hg
      go_wp2
      exact ⟨rfl, HG3.out, Or.inl ⟨rfl, HX.out⟩⟩
     | some b =>
      obtain ⟨s2, q2⟩ := b
      have HMn : Hid (many (rRg x) p1 (k + 1) = some (l ++ [(s1, s2)], q2)) := many_yes HM.out (by unfold rRg; rw [h1]; dsimp only; rw [h2])
      have H1 := hide h1
      have H2 := hide h2
      clear h1 h2
      go_wp2_with fail
      refine (ishrt_yes x g _ hs s1 q1 H1.out _ HD.out).mono ?_
      rintro e w2 ⟨rfl, hd2, hg2⟩
      have HD2 := hide hd2
      have HO2 := hide (HO.out.keptG hg2 hgl)
      have HG2 := hide (grown_trans HG.out hg2)
      clear hd2 hg2
      go_wp2_with fail
      refine (ishrt_yes x g _ hs s2 q2 H2.out _ HD2.out).mono ?_
      rintro e w3 ⟨rfl, hd3, hg3⟩
      have HD3 := hide hd3
      have HO3 := hide (HO2.out.keptG hg3 hgl)
      have HG3 := hide (grown_trans HG2.out hg3)
      clear hd3 hg3
      go_wp2_with (at_builtin; refine wpAppR rfl _ _ rfl (s1, s2) rfl HO3.out rfl hll HG3.out.size ?_)
      intro v' w' ho' hb'
      have HO9 := hide ho'
      have HD9 : Hid (Rd w' g x (q2 : Int)) := HD3.out.belowB hb' hgl
      have HG9 : Hid (w.grownBy w' (some g)) := grown_belowB HG3.out hb' (Nat.le_refl _)
      clear ho' hb'
      go_wp2
      go_roundw
      case rel => exact ⟨k + 1, q2, _, by omega, by go_num, HMn, HO9, HD9, HG9⟩
      case measure => simp [intOf]; omega
   ·have hlt' : ¬ (k : Int) < (n : Int) := by omega
    have hkn : k = n := by omega
    subst hkn
    have HX : Hid (rRs x p = some (l, q)) := HR.out.trans HM.out
    obtain ⟨a1, c1, rfl, _⟩ := HO.out.row
    go_wp2
    go_ret
    exact ⟨HG.out, Or.inr ⟨l, q, HX.out, hq, a1, c1, rfl, HO.out, HD.out⟩⟩

set_option maxRecDepth 100000 in
set_option maxHeartbeats 2000000 in
theorem iws (x : ByteArray) (g : Nat) (p : Int) (hs : x.size ≤ 1048576) (w : World) (hd : Rd w g x p) :
  Calls Tryz.prog 109 #[.pointer (some ⟨g, 0, none⟩)] w fun e w' => w.grownBy w' (some g) ∧ ((e = .panicked PAN ∧ rWs x p = none) ∨ ∃ l q a1 c1, rWs x p = some (l, q) ∧ q ≤ x.size ∧ e = .returned (.slice a1 l.length c1) ∧ GOwn encW 111 w' w.heap.size (.slice a1 l.length c1) l ∧ Rd w' g x (q : Int)) := by
 have HD : Hid (Rd w g x p) := hd
 have hgl := hd.lt
 clear hd
 cases hn : rN x p with
 | none =>
  have HR : Hid (rWs x p = none) := by show _ = _; unfold rWs; rw [hn]
  have HN := hide hn
  clear hn
  go_enter Tryz.func109, Tryz.ntmps109
  go_wp2_with (go_at_call 76; refine (inum_no x g p hs HN.out _ HD.out).mono ?_; rintro e w' ⟨rfl, hg⟩)
  exact ⟨rfl, hg, Or.inl ⟨rfl, HR.out⟩⟩
 | some r =>
  obtain ⟨n, p1⟩ := r
  have HR : Hid (rWs x p = many (rWt x) p1 n) := by show _ = _; unfold rWs; rw [hn]
  have hbn := rN_bd hn
  have hp1 : p1 ≤ x.size := hbn.2.2.1
  have hn9 : n ≤ 1000000000 := hbn.1
  have HN := hide hn
  clear hn hbn
  go_enter Tryz.func109, Tryz.ntmps109
  go_wp2_with (go_at_call 76; refine (inum_yes x g p hs n p1 HN.out _ HD.out).mono ?_; rintro e w1 ⟨rfl, hd1, hg1⟩)
  have HD1 := hide hd1
  have HG1 := hide hg1
  clear hd1 hg1 HD
  go_loopw [3, 6] (fun v t wr => ∃ (k q : Nat) (l : List Wt), k ≤ n ∧ t = .int .i64 k ∧ Hid (many (rWt x) p1 k = some (l, q)) ∧ Hid (GOwn encW 111 wr w.heap.size v l) ∧ Hid (Rd wr g x (q : Int)) ∧ Hid (w.grownBy wr (some g))) (fun _ t _ => n - (intOf t).toNat)
  case atStart => exact ⟨0, p1, [], Nat.zero_le _, rfl, rfl, World.ownsRow_nil _ _ _ _, HD1, HG1⟩
  case round =>
   clear HD1 HG1
   obtain ⟨k, q, l, hk, rfl, HM, HO, HD, HG⟩ := hrel
   obtain ⟨hl, hkq, hq⟩ := many_len hp1 rWt_bd HM.out
   have hll : l.length ≤ 100000000 := by omega
   clear hl hkq
   by_cases hlt : k < n
   ·have hlt' : (k : Int) < (n : Int) := by omega
    cases h1 : rS x (q : Int) with
    | none =>
     have HX : Hid (rWs x p = none) := by
      show _ = _
      rw [HR.out]
      exact many_none (many_no HM.out (by unfold rWt; rw [h1])) hlt
     have H1 := hide h1
     clear h1
     go_wp2_with fail
     refine (ishrt_no x g _ hs H1.out _ HD.out).mono ?_
     rintro e w2 ⟨rfl, hg⟩
     have HG2 := hide (grown_trans HG.out hg)
     clear hg
     go_wp2
     exact ⟨rfl, HG2.out, Or.inl ⟨rfl, HX.out⟩⟩
    | some a =>
     obtain ⟨s1, q1⟩ := a
     cases h2 : rS x (q1 : Int) with
     | none =>
      have HX : Hid (rWs x p = none) := by
       show _ = _
       rw [HR.out]
       exact many_none (many_no HM.out (by unfold rWt; rw [h1]; dsimp only; rw [h2])) hlt
      have H1 := hide h1
      have H2 := hide h2
      clear h1 h2
      go_wp2_with fail
      refine (ishrt_yes x g _ hs s1 q1 H1.out _ HD.out).mono ?_
      rintro e w2 ⟨rfl, hd2, hg2⟩
      have HD2 := hide hd2
      have HG2 := hide (grown_trans HG.out hg2)
      clear hd2 hg2
      go_wp2_with fail
      refine (ishrt_no x g _ hs H2.out _ HD2.out).mono ?_
      rintro e w3 ⟨rfl, hg⟩
      have HG3 := hide (grown_trans HG2.out hg)
      clear hg
      go_wp2
      exact ⟨rfl, HG3.out, Or.inl ⟨rfl, HX.out⟩⟩
     | some b =>
      obtain ⟨s2, q2⟩ := b
      cases h3 : rF x (q2 : Int) with
      | none =>
       have HX : Hid (rWs x p = none) := by
        show _ = _
        rw [HR.out]
        exact many_none (many_no HM.out (by unfold rWt; rw [h1]; dsimp only; rw [h2]; dsimp only; rw [h3])) hlt
       have H1 := hide h1
       have H2 := hide h2
       have H3 := hide h3
       clear h1 h2 h3
       go_wp2_with fail
       refine (ishrt_yes x g _ hs s1 q1 H1.out _ HD.out).mono ?_
       rintro e w2 ⟨rfl, hd2, hg2⟩
       have HD2 := hide hd2
       have HO2 := hide (HO.out.keptG hg2 hgl)
       have HG2 := hide (grown_trans HG.out hg2)
       clear hd2 hg2
       go_wp2_with fail
       refine (ishrt_yes x g _ hs s2 q2 H2.out _ HD2.out).mono ?_
       rintro e w3 ⟨rfl, hd3, hg3⟩
       have HD3 := hide hd3
       have HO3 := hide (HO2.out.keptG hg3 hgl)
       have HG3 := hide (grown_trans HG2.out hg3)
       clear hd3 hg3
       go_wp2_with fail
       refine (iflag_no x g _ hs H3.out _ HD3.out).mono ?_
       rintro e w4 ⟨rfl, hg⟩
       have HG4 := hide (grown_trans HG3.out hg)
       clear hg
       go_wp2
       exact ⟨rfl, HG4.out, Or.inl ⟨rfl, HX.out⟩⟩
      | some c =>
       obtain ⟨fl, q3⟩ := c
       have HMn : Hid (many (rWt x) p1 (k + 1) = some (l ++ [(s1, s2, fl)], q3)) := many_yes HM.out (by unfold rWt; rw [h1]; dsimp only; rw [h2]; dsimp only; rw [h3])
       have H1 := hide h1
       have H2 := hide h2
       have H3 := hide h3
       clear h1 h2 h3
       go_wp2_with fail
       refine (ishrt_yes x g _ hs s1 q1 H1.out _ HD.out).mono ?_
       rintro e w2 ⟨rfl, hd2, hg2⟩
       have HD2 := hide hd2
       have HO2 := hide (HO.out.keptG hg2 hgl)
       have HG2 := hide (grown_trans HG.out hg2)
       clear hd2 hg2
       go_wp2_with fail
       refine (ishrt_yes x g _ hs s2 q2 H2.out _ HD2.out).mono ?_
       rintro e w3 ⟨rfl, hd3, hg3⟩
       have HD3 := hide hd3
       have HO3 := hide (HO2.out.keptG hg3 hgl)
       have HG3 := hide (grown_trans HG2.out hg3)
       clear hd3 hg3
       go_wp2_with fail
       refine (iflag_yes x g _ hs fl q3 H3.out _ HD3.out).mono ?_
       rintro e w4 ⟨rfl, hd4, hg4⟩
       have HD4 := hide hd4
       have HO4 := hide (HO3.out.keptG hg4 hgl)
       have HG4 := hide (grown_trans HG3.out hg4)
       clear hd4 hg4
       go_wp2_with (at_builtin; refine wpAppW rfl _ _ rfl (s1, s2, fl) rfl HO4.out rfl hll HG4.out.size ?_)
       intro v' w' ho' hb'
       have HO9 := hide ho'
       have HD9 : Hid (Rd w' g x (q3 : Int)) := HD4.out.belowB hb' hgl
       have HG9 : Hid (w.grownBy w' (some g)) := grown_belowB HG4.out hb' (Nat.le_refl _)
       clear ho' hb'
       go_wp2
       go_roundw
       case rel => exact ⟨k + 1, q3, _, by omega, by go_num, HMn, HO9, HD9, HG9⟩
       case measure => simp [intOf]; omega
   ·have hlt' : ¬ (k : Int) < (n : Int) := by omega
    have hkn : k = n := by omega
    subst hkn
    have HX : Hid (rWs x p = some (l, q)) := HR.out.trans HM.out
    obtain ⟨a1, c1, rfl, _⟩ := HO.out.row
    go_wp2
    go_ret
    exact ⟨HG.out, Or.inr ⟨l, q, HX.out, hq, a1, c1, rfl, HO.out, HD.out⟩⟩

end Go.Proofs.YtpnnncfbodfnhaaGreatDoor

namespace Go.Proofs.YtpnnncfbodfnhaaGreatDoor
open Go.RowKit
open KM
open VM
attribute [local go_sem ↓] Go.wp_at_zero Go.wp_at_succ

theorem Lies.setx {α : Type} {E : Enc α} {e : TypeId} {w : World} {lo hi : Nat} {v : Value} {xs : List α} (h : Lies E e w lo hi v xs) {a : Addr} (ha : ∀ g, v.ownBlock = some g → a.block ≠ g) (u : Value) : Lies E e (w.setCell a u) lo hi v xs := by
 refine ⟨?_, h.up⟩
 obtain ⟨h1, h2⟩ := h.own
 refine ⟨h1, ?_⟩
 rcases h2 with h2 | ⟨g, cap, cur, hv, hg', hh, r⟩
 ·exact Or.inl h2
 ·refine Or.inr ⟨g, cap, cur, hv, hg', ?_, r⟩
  rw [Below.heap_setCell _ _ _ _ (fun e => ha g (by rw [hv]; rfl) e.symm)]
  exact hh
theorem TLie.setz {w : World} {lo hi : Nat} {t : Tx} {ra wa : Option Addr} {rc wc : Nat} (h : TLie w lo hi t ra rc wa wc) {a : Addr} (ha : a.block < lo ∨ hi ≤ a.block) (u : Value) : TLie (w.setCell a u) lo hi t ra rc wa wc := by
 obtain ⟨m, p, q, h1, h2⟩ := h.ex
 exact ⟨m, p, q, h1.setx (fun g hg => by have := h1.lo g hg; omega) u, h2.setx (fun g hg => by have := h2.lo g hg; omega) u⟩
theorem below_s8 {base : Nat} {a w : World} (h : Below base a w) {ob : Nat} (hb : base ≤ ob) (v0 v1 v2 v3 v4 v5 v6 v7 : Value) : Below base a ((((((((w.setCell ⟨ob, 0, none⟩ v0).setCell ⟨ob, 1, none⟩ v1).setCell ⟨ob, 2, none⟩ v2).setCell ⟨ob, 3, none⟩ v3).setCell ⟨ob, 4, none⟩ v4).setCell ⟨ob, 5, none⟩ v5).setCell ⟨ob, 6, none⟩ v6).setCell ⟨ob, 7, none⟩ v7) := ((((((((h.setCell (show base ≤ (⟨ob, 0, none⟩ : Addr).block from hb) v0).setCell (show base ≤ (⟨ob, 1, none⟩ : Addr).block from hb) v1).setCell (show base ≤ (⟨ob, 2, none⟩ : Addr).block from hb) v2).setCell (show base ≤ (⟨ob, 3, none⟩ : Addr).block from hb) v3).setCell (show base ≤ (⟨ob, 4, none⟩ : Addr).block from hb) v4).setCell (show base ≤ (⟨ob, 5, none⟩ : Addr).block from hb) v5).setCell (show base ≤ (⟨ob, 6, none⟩ : Addr).block from hb) v6).setCell (show base ≤ (⟨ob, 7, none⟩ : Addr).block from hb) v7)
theorem TLie.s8 {w : World} {lo hi : Nat} {t : Tx} {ra wa : Option Addr} {rc wc : Nat} (h : TLie w lo hi t ra rc wa wc) {ob : Nat} (hn : ob < lo ∨ hi ≤ ob) (v0 v1 v2 v3 v4 v5 v6 v7 : Value) : TLie ((((((((w.setCell ⟨ob, 0, none⟩ v0).setCell ⟨ob, 1, none⟩ v1).setCell ⟨ob, 2, none⟩ v2).setCell ⟨ob, 3, none⟩ v3).setCell ⟨ob, 4, none⟩ v4).setCell ⟨ob, 5, none⟩ v5).setCell ⟨ob, 6, none⟩ v6).setCell ⟨ob, 7, none⟩ v7) lo hi t ra rc wa wc := ((((((((h.setz (a := ⟨ob, 0, none⟩) hn v0).setz (a := ⟨ob, 1, none⟩) hn v1).setz (a := ⟨ob, 2, none⟩) hn v2).setz (a := ⟨ob, 3, none⟩) hn v3).setz (a := ⟨ob, 4, none⟩) hn v4).setz (a := ⟨ob, 5, none⟩) hn v5).setz (a := ⟨ob, 6, none⟩) hn v6).setz (a := ⟨ob, 7, none⟩) hn v7)
theorem Bx.o8 {w : World} {b : Nat} {cs : List Value} (h : Bx w b cs) {ob : Nat} (hn : ob ≠ b) (v0 v1 v2 v3 v4 v5 v6 v7 : Value) : Bx ((((((((w.setCell ⟨ob, 0, none⟩ v0).setCell ⟨ob, 1, none⟩ v1).setCell ⟨ob, 2, none⟩ v2).setCell ⟨ob, 3, none⟩ v3).setCell ⟨ob, 4, none⟩ v4).setCell ⟨ob, 5, none⟩ v5).setCell ⟨ob, 6, none⟩ v6).setCell ⟨ob, 7, none⟩ v7) b cs := ((((((((h.setO (p := ⟨ob, 0, none⟩) hn v0).setO (p := ⟨ob, 1, none⟩) hn v1).setO (p := ⟨ob, 2, none⟩) hn v2).setO (p := ⟨ob, 3, none⟩) hn v3).setO (p := ⟨ob, 4, none⟩) hn v4).setO (p := ⟨ob, 5, none⟩) hn v5).setO (p := ⟨ob, 6, none⟩) hn v6).setO (p := ⟨ob, 7, none⟩) hn v7)
theorem Bx.s8 {w : World} {ob : Nat} {x0 x1 x2 x3 x4 x5 x6 x7 : Value} (h : Bx w ob [x0, x1, x2, x3, x4, x5, x6, x7]) (v0 v1 v2 v3 v4 v5 v6 v7 : Value) : Bx ((((((((w.setCell ⟨ob, 0, none⟩ v0).setCell ⟨ob, 1, none⟩ v1).setCell ⟨ob, 2, none⟩ v2).setCell ⟨ob, 3, none⟩ v3).setCell ⟨ob, 4, none⟩ v4).setCell ⟨ob, 5, none⟩ v5).setCell ⟨ob, 6, none⟩ v6).setCell ⟨ob, 7, none⟩ v7) ob [v0, v1, v2, v3, v4, v5, v6, v7] := ((((((((h.set 0 v0).set 1 v1).set 2 v2).set 3 v3).set 4 v4).set 5 v5).set 6 v6).set 7 v7)
theorem size_s8 (w : World) (ob : Nat) (v0 v1 v2 v3 v4 v5 v6 v7 : Value) : ((((((((w.setCell ⟨ob, 0, none⟩ v0).setCell ⟨ob, 1, none⟩ v1).setCell ⟨ob, 2, none⟩ v2).setCell ⟨ob, 3, none⟩ v3).setCell ⟨ob, 4, none⟩ v4).setCell ⟨ob, 5, none⟩ v5).setCell ⟨ob, 6, none⟩ v6).setCell ⟨ob, 7, none⟩ v7).heap.size = w.heap.size := by simp [World.setCell]

def rTx (x : ByteArray) (p : Int) : Option (Tx × Nat) :=
 match rN x p with
 | none => none
 | some a1 =>
  match rN x (a1.2 : Int) with
  | none => none
  | some a2 =>
   match rN x (a2.2 : Int) with
   | none => none
   | some a3 =>
    match rN x (a3.2 : Int) with
    | none => none
    | some a4 =>
     match rRs x (a4.2 : Int) with
     | none => none
     | some a5 =>
      match rWs x (a5.2 : Int) with
      | none => none
      | some a6 =>
       match rF x (a6.2 : Int) with
       | none => none
       | some a7 =>
        match rS x (a7.2 : Int) with
        | none => none
        | some a8 =>
         if txnB ⟨a1.1, a2.1, a3.1, a4.1, a5.1, a6.1, a7.1, a8.1⟩ = true then some (⟨a1.1, a2.1, a3.1, a4.1, a5.1, a6.1, a7.1, a8.1⟩, a8.2) else none
theorem rRs_len {x : ByteArray} {p : Int} {l : List Rg} {q : Nat} (h : rRs x p = some (l, q)) : l.length ≤ x.size ∧ q ≤ x.size := by
 unfold rRs at h
 cases hn : rN x p with
 | none => rw [hn] at h; cases h
 | some r =>
  rw [hn] at h
  have hb := rN_bd (n := r.1) (q := r.2) hn
  have := many_len hb.2.2.1 rRg_bd h
  omega
theorem rWs_len {x : ByteArray} {p : Int} {l : List Wt} {q : Nat} (h : rWs x p = some (l, q)) : l.length ≤ x.size ∧ q ≤ x.size := by
 unfold rWs at h
 cases hn : rN x p with
 | none => rw [hn] at h; cases h
 | some r =>
  rw [hn] at h
  have hb := rN_bd (n := r.1) (q := r.2) hn
  have := many_len hb.2.2.1 rWt_bd h
  omega

set_option maxRecDepth 100000 in
set_option maxHeartbeats 4000000 in
theorem itx (x : ByteArray) (g : Nat) (p : Int) (hs : x.size ≤ 1048576) (w : World) (hd : Rd w g x p) :
  Calls Tryz.prog 77 #[.pointer (some ⟨g, 0, none⟩)] w fun e w' => w.grownBy w' (some g) ∧ ((e = .panicked PAN ∧ rTx x p = none) ∨ ∃ t q ra rc wa wc, rTx x p = some (t, q) ∧ q ≤ x.size ∧ e = .returned (.agg #[.int .i64 t.id, .int .i64 t.st, .int .i64 t.snap, .int .i64 t.cs, .slice ra t.rs.length rc, .slice wa t.ws.length wc, .bool t.out, .string t.nm]) ∧ TLie w' w.heap.size w'.heap.size t ra rc wa wc ∧ Rd w' g x (q : Int)) := by
 have hgl := hd.lt
 have HD0 : Hid (Rd (w.alloc (.cells #[.int .i64 0, .int .i64 0, .int .i64 0, .int .i64 0, .slice none 0 0, .slice none 0 0, .bool false, .string ⟨#[]⟩] 38)) g x p) := hd.alloc _
 have BR0 : Hid (Bx (w.alloc (.cells #[.int .i64 0, .int .i64 0, .int .i64 0, .int .i64 0, .slice none 0 0, .slice none 0 0, .bool false, .string ⟨#[]⟩] 38)) w.heap.size [.int .i64 0, .int .i64 0, .int .i64 0, .int .i64 0, .slice none 0 0, .slice none 0 0, .bool false, .string ⟨#[]⟩]) := Bx.new w [.int .i64 0, .int .i64 0, .int .i64 0, .int .i64 0, .slice none 0 0, .slice none 0 0, .bool false, .string ⟨#[]⟩] 38
 have HG0 : Hid (w.grownBy (w.alloc (.cells #[.int .i64 0, .int .i64 0, .int .i64 0, .int .i64 0, .slice none 0 0, .slice none 0 0, .bool false, .string ⟨#[]⟩] 38)) (some g)) := grown_below _ ((belowRefl w).alloc (Nat.le_refl _) _)
 have hgz : w.heap.size ≠ g := by omega
 clear hd
 go_enter Tryz.func77, Tryz.ntmps77
 go_wp2_with fail
 generalize hWW : (w.alloc (.cells #[.int .i64 0, .int .i64 0, .int .i64 0, .int .i64 0, .slice none 0 0, .slice none 0 0, .bool false, .string ⟨#[]⟩] 38)) = W0 at HD0 BR0 HG0 ⊢
 have SZ : Hid (W0.heap.size = w.heap.size + 1) := by show _ = _; rw [← hWW]; exact World.size_alloc _ _
 clear hWW
 have K0 : Hid (W0.heap.size ≤ W0.heap.size) := Nat.le_refl _
 cases h1 : rN x p with
 | none =>
  refine (inum_no x g _ hs h1 _ HD0.out).mono ?_
  rintro e w1 ⟨rfl, hg⟩
  have HX : Hid (rTx x p = none) := by show _ = _; simp only [rTx, h1]
  have HG1 := hide (grown_trans HG0.out hg)
  clear hg h1
  go_wp2
  exact ⟨rfl, HG1.out, Or.inl ⟨rfl, HX.out⟩⟩
 | some r1 =>
  obtain ⟨n1, q1⟩ := r1
  refine (inum_yes x g _ hs n1 q1 h1 _ HD0.out).mono ?_
  rintro e w1 ⟨rfl, hd, hg⟩
  have H1 := hide h1
  have HD1 := hide hd
  have BR1 := hide (BR0.out.grown hg hgz)
  have HG1 := hide (grown_trans HG0.out hg)
  have K1 : Hid (W0.heap.size ≤ w1.heap.size) := Nat.le_trans K0.out hg.size
  clear hd hg h1 HD0 BR0 HG0 
  go_wp2_with fail
  cases h2 : rN x (q1 : Int) with
  | none =>
   refine (inum_no x g _ hs h2 _ HD1.out).mono ?_
   rintro e w2 ⟨rfl, hg⟩
   have HX : Hid (rTx x p = none) := by show _ = _; simp only [rTx, H1.out, h2]
   have HG2 := hide (grown_trans HG1.out hg)
   clear hg h2
   go_wp2
   exact ⟨rfl, HG2.out, Or.inl ⟨rfl, HX.out⟩⟩
  | some r2 =>
   obtain ⟨n2, q2⟩ := r2
   refine (inum_yes x g _ hs n2 q2 h2 _ HD1.out).mono ?_
   rintro e w2 ⟨rfl, hd, hg⟩
   have H2 := hide h2
   have HD2 := hide hd
   have BR2 := hide (BR1.out.grown hg hgz)
   have HG2 := hide (grown_trans HG1.out hg)
   have K2 : Hid (W0.heap.size ≤ w2.heap.size) := Nat.le_trans K1.out hg.size
   clear hd hg h2 HD1 BR1 HG1 
   go_wp2_with fail
   cases h3 : rN x (q2 : Int) with
   | none =>
    refine (inum_no x g _ hs h3 _ HD2.out).mono ?_
    rintro e w3 ⟨rfl, hg⟩
    have HX : Hid (rTx x p = none) := by show _ = _; simp only [rTx, H1.out, H2.out, h3]
    have HG3 := hide (grown_trans HG2.out hg)
    clear hg h3
    go_wp2
    exact ⟨rfl, HG3.out, Or.inl ⟨rfl, HX.out⟩⟩
   | some r3 =>
    obtain ⟨n3, q3⟩ := r3
    refine (inum_yes x g _ hs n3 q3 h3 _ HD2.out).mono ?_
    rintro e w3 ⟨rfl, hd, hg⟩
    have H3 := hide h3
    have HD3 := hide hd
    have BR3 := hide (BR2.out.grown hg hgz)
    have HG3 := hide (grown_trans HG2.out hg)
    have K3 : Hid (W0.heap.size ≤ w3.heap.size) := Nat.le_trans K2.out hg.size
    clear hd hg h3 HD2 BR2 HG2 
    go_wp2_with fail
    cases h4 : rN x (q3 : Int) with
    | none =>
     refine (inum_no x g _ hs h4 _ HD3.out).mono ?_
     rintro e w4 ⟨rfl, hg⟩
     have HX : Hid (rTx x p = none) := by show _ = _; simp only [rTx, H1.out, H2.out, H3.out, h4]
     have HG4 := hide (grown_trans HG3.out hg)
     clear hg h4
     go_wp2
     exact ⟨rfl, HG4.out, Or.inl ⟨rfl, HX.out⟩⟩
    | some r4 =>
     obtain ⟨n4, q4⟩ := r4
     refine (inum_yes x g _ hs n4 q4 h4 _ HD3.out).mono ?_
     rintro e w4 ⟨rfl, hd, hg⟩
     have H4 := hide h4
     have HD4 := hide hd
     have BR4 := hide (BR3.out.grown hg hgz)
     have HG4 := hide (grown_trans HG3.out hg)
     have K4 : Hid (W0.heap.size ≤ w4.heap.size) := Nat.le_trans K3.out hg.size
     have SZ4 : Hid (w.heap.size ≤ w4.heap.size) := HG4.out.size
     clear hd hg h4 HD3 BR3 HG3 
     go_wp2_with fail
     refine (irs x g _ hs _ HD4.out).mono ?_
     rintro e w5 ⟨hg, ⟨rfl, h5⟩ | ⟨n5, q5, ora, orc, h5, hq, rfl, ho, hd⟩⟩
     ·have HX : Hid (rTx x p = none) := by show _ = _; simp only [rTx, H1.out, H2.out, H3.out, H4.out, h5]
      have HG5 := hide (grown_trans HG4.out hg)
      clear hg h5
      go_wp2
      exact ⟨rfl, HG5.out, Or.inl ⟨rfl, HX.out⟩⟩
     have H5 := hide h5
     have HD5 := hide hd
     have BR5 := hide (BR4.out.grown hg hgz)
     have HG5 := hide (grown_trans HG4.out hg)
     have OR5 := hide ho
     have K5 : Hid (W0.heap.size ≤ w5.heap.size) := Nat.le_trans K4.out hg.size
     have Z5 : Hid (w5.heap.size ≤ w5.heap.size) := Nat.le_refl _
     have UR : Hid (∀ b, (Value.slice ora n5.length orc).ownBlock = some b → b < w5.heap.size) := fun b hb => (World.ownsRow.lt OR5.out b hb).2
     have MG : Hid (g < w5.heap.size ∧ w4.heap.size ≤ w5.heap.size) := ⟨Nat.lt_of_lt_of_le hgl HG5.out.size, hg.size⟩
     clear hd hg ho hq h5 HD4 BR4 HG4 
     go_wp2_with fail
     refine (iws x g _ hs _ HD5.out).mono ?_
     rintro e w6 ⟨hg, ⟨rfl, h6⟩ | ⟨n6, q6, owa, owc, h6, hq, rfl, ho, hd⟩⟩
     ·have HX : Hid (rTx x p = none) := by show _ = _; simp only [rTx, H1.out, H2.out, H3.out, H4.out, H5.out, h6]
      have HG6 := hide (grown_trans HG5.out hg)
      clear hg h6
      go_wp2
      exact ⟨rfl, HG6.out, Or.inl ⟨rfl, HX.out⟩⟩
     have H6 := hide h6
     have HD6 := hide hd
     have BR6 := hide (BR5.out.grown hg hgz)
     have HG6 := hide (grown_trans HG5.out hg)
     have OW6 := hide ho
     have K6 : Hid (W0.heap.size ≤ w6.heap.size) := Nat.le_trans K5.out hg.size
     have Z6 : Hid (w5.heap.size ≤ w6.heap.size) := Nat.le_trans Z5.out hg.size
     have OR6 := hide (OR5.out.keptG hg (by have := SZ4.out; omega))
     clear hd hg ho hq h6 HD5 BR5 HG5 OR5
     go_wp2_with fail
     cases h7 : rF x (q6 : Int) with
     | none =>
      refine (iflag_no x g _ hs h7 _ HD6.out).mono ?_
      rintro e w7 ⟨rfl, hg⟩
      have HX : Hid (rTx x p = none) := by show _ = _; simp only [rTx, H1.out, H2.out, H3.out, H4.out, H5.out, H6.out, h7]
      have HG7 := hide (grown_trans HG6.out hg)
      clear hg h7
      go_wp2
      exact ⟨rfl, HG7.out, Or.inl ⟨rfl, HX.out⟩⟩
     | some r7 =>
      obtain ⟨n7, q7⟩ := r7
      refine (iflag_yes x g _ hs n7 q7 h7 _ HD6.out).mono ?_
      rintro e w7 ⟨rfl, hd, hg⟩
      have H7 := hide h7
      have HD7 := hide hd
      have BR7 := hide (BR6.out.grown hg hgz)
      have HG7 := hide (grown_trans HG6.out hg)
      have K7 : Hid (W0.heap.size ≤ w7.heap.size) := Nat.le_trans K6.out hg.size
      have Z7 : Hid (w5.heap.size ≤ w7.heap.size) := Nat.le_trans Z6.out hg.size
      have OR7 := hide (OR6.out.keptG hg (by have := SZ4.out; omega))
      have OW7 := hide (OW6.out.keptG hg (by have := MG.out; omega))
      clear hd hg h7 HD6 BR6 HG6 OR6 OW6
      go_wp2_with fail
      cases h8 : rS x (q7 : Int) with
      | none =>
       refine (ishrt_no x g _ hs h8 _ HD7.out).mono ?_
       rintro e w8 ⟨rfl, hg⟩
       have HX : Hid (rTx x p = none) := by show _ = _; simp only [rTx, H1.out, H2.out, H3.out, H4.out, H5.out, H6.out, H7.out, h8]
       have HG8 := hide (grown_trans HG7.out hg)
       clear hg h8
       go_wp2
       exact ⟨rfl, HG8.out, Or.inl ⟨rfl, HX.out⟩⟩
      | some r8 =>
       obtain ⟨n8, q8⟩ := r8
       refine (ishrt_yes x g _ hs n8 q8 h8 _ HD7.out).mono ?_
       rintro e w8 ⟨rfl, hd, hg⟩
       have H8 := hide h8
       have HD8 := hide hd
       have BR8 := hide (BR7.out.grown hg hgz)
       have HG8 := hide (grown_trans HG7.out hg)
       have K8 : Hid (W0.heap.size ≤ w8.heap.size) := Nat.le_trans K7.out hg.size
       have Z8 : Hid (w5.heap.size ≤ w8.heap.size) := Nat.le_trans Z7.out hg.size
       have OR8 := hide (OR7.out.keptG hg (by have := SZ4.out; omega))
       have OW8 := hide (OW7.out.keptG hg (by have := MG.out; omega))
       clear hd hg h8 HD7 BR7 HG7 OR7 OW7
       obtain ⟨t, ht⟩ : ∃ t : Tx, t = ⟨n1, n2, n3, n4, n5, n6, n7, n8⟩ := ⟨_, rfl⟩
       have L : Hid (TLie w8 w4.heap.size w8.heap.size t ora orc owa owc) := by
        refine ⟨w5.heap.size, MG.out.2, Z8.out, ?_, ?_⟩
        ·rw [ht]; exact ⟨OR8.out, UR.out⟩
        ·rw [ht]; exact Lies.of OW8.out
       have HT : Hid (rTx x p = if txnB t = true then some (t, q8) else none) := by
        show _ = _
        rw [ht]
        simp only [rTx, H1.out, H2.out, H3.out, H4.out, H5.out, H6.out, H7.out, H8.out]
       have hrl : t.rs.length ≤ 100000000 := by rw [ht]; have := (rRs_len H5.out).1; show n5.length ≤ _; omega
       have hwl : t.ws.length ≤ 100000000 := by rw [ht]; have := (rWs_len H6.out).1; show n6.length ≤ _; omega
       have HQ : Hid (q8 ≤ x.size) := (rS_bd H8.out).2.2.1
       have e0 : (n1 : Int) = t.id := by rw [ht]
       have e1 : (n2 : Int) = t.st := by rw [ht]
       have e2 : (n3 : Int) = t.snap := by rw [ht]
       have e3 : (n4 : Int) = t.cs := by rw [ht]
       have e4 : n5 = t.rs := by rw [ht]
       have e5 : n6 = t.ws := by rw [ht]
       have e6 : n7 = t.out := by rw [ht]
       have e7 : n8 = t.nm := by rw [ht]
       rw [e0, e1, e2, e3, e4, e5, e6, e7]
       clear e0 e1 e2 e3 e4 e5 e6 e7 ht H1 H2 H3 H4 H5 H6 H7 H8 OR8 OW8 UR
       have hb9 : Below w8.heap.size w8 (w8.alloc (.cells #[.int .i64 t.id, .int .i64 t.st, .int .i64 t.snap, .int .i64 t.cs, .slice ora t.rs.length orc, .slice owa t.ws.length owc, .bool t.out, .string t.nm] 38)) := (belowRefl w8).alloc (Nat.le_refl _) _
       have L9 : Hid (TLie (w8.alloc (.cells #[.int .i64 t.id, .int .i64 t.st, .int .i64 t.snap, .int .i64 t.cs, .slice ora t.rs.length orc, .slice owa t.ws.length owc, .bool t.out, .string t.nm] 38)) w4.heap.size w8.heap.size t ora orc owa owc) := L.out.below hb9
       have HD9 : Hid (Rd (w8.alloc (.cells #[.int .i64 t.id, .int .i64 t.st, .int .i64 t.snap, .int .i64 t.cs, .slice ora t.rs.length orc, .slice owa t.ws.length owc, .bool t.out, .string t.nm] 38)) g x (q8 : Int)) := HD8.out.below hb9
       have BR9 : Hid (Bx (w8.alloc (.cells #[.int .i64 t.id, .int .i64 t.st, .int .i64 t.snap, .int .i64 t.cs, .slice ora t.rs.length orc, .slice owa t.ws.length owc, .bool t.out, .string t.nm] 38)) w.heap.size [.int .i64 0, .int .i64 0, .int .i64 0, .int .i64 0, .slice none 0 0, .slice none 0 0, .bool false, .string ⟨#[]⟩]) := BR8.out.below hb9
       have HG9 : Hid (w.grownBy (w8.alloc (.cells #[.int .i64 t.id, .int .i64 t.st, .int .i64 t.snap, .int .i64 t.cs, .slice ora t.rs.length orc, .slice owa t.ws.length owc, .bool t.out, .string t.nm] 38)) (some g)) := grown_trans HG8.out (grown_below _ hb9)
       have BT9 : Hid (Bx (w8.alloc (.cells #[.int .i64 t.id, .int .i64 t.st, .int .i64 t.snap, .int .i64 t.cs, .slice ora t.rs.length orc, .slice owa t.ws.length owc, .bool t.out, .string t.nm] 38)) w8.heap.size [.int .i64 t.id, .int .i64 t.st, .int .i64 t.snap, .int .i64 t.cs, .slice ora t.rs.length orc, .slice owa t.ws.length owc, .bool t.out, .string t.nm]) := Bx.new w8 [.int .i64 t.id, .int .i64 t.st, .int .i64 t.snap, .int .i64 t.cs, .slice ora t.rs.length orc, .slice owa t.ws.length owc, .bool t.out, .string t.nm] 38
       have S98 : Hid (w8.heap.size ≤ (w8.alloc (.cells #[.int .i64 t.id, .int .i64 t.st, .int .i64 t.snap, .int .i64 t.cs, .slice ora t.rs.length orc, .slice owa t.ws.length owc, .bool t.out, .string t.nm] 38)).heap.size) := hb9.size
       have S48 : Hid (w.heap.size + 1 ≤ w4.heap.size) := by have := K4.out; rw [SZ.out] at this; exact this
       have Sw8 : Hid (w.heap.size + 1 ≤ w8.heap.size) := Nat.le_trans S48.out (Nat.le_trans MG.out.2 Z8.out)
       clear hb9 HD8 BR8 HG8 L
       have C1 : Hid (∀ w, TRow w t ora owa → Calls Tryz.prog 110 #[.agg #[.int .i64 t.id, .int .i64 t.st, .int .i64 t.snap, .int .i64 t.cs, .slice ora t.rs.length orc, .slice owa t.ws.length owc, .bool t.out, .string t.nm]] w fun e w' => e = .returned (.bool (txnB t)) ∧ Below w.heap.size w w') := fun w h => itxn t ora owa orc owc hrl hwl w h
       go_wp2_with fail
       refine (C1.out _ L9.out.row).mono ?_
       rintro e wA ⟨rfl, hb⟩
       have LA := hide (L9.out.below hb)
       have HDA := hide (HD9.out.below hb)
       have BRA := hide (BR9.out.below hb)
       have HGA := hide (grown_trans HG9.out (grown_below (some g) hb))
       have BTA := hide (BT9.out.below hb)
       have SA : Hid (w8.heap.size ≤ wA.heap.size) := Nat.le_trans S98.out hb.size
       clear hb L9 HD9 BR9 HG9 BT9 S98 C1
       cases htb : txnB t
       ·have HX : Hid (rTx x p = none) := by show _ = _; rw [HT.out, htb]; rfl
        clear htb
        go_wp2
        exact ⟨rfl, HGA.out, Or.inl ⟨rfl, HX.out⟩⟩
       have HX : Hid (rTx x p = some (t, q8)) := by show _ = _; rw [HT.out, htb]; rfl
       clear htb HT
       have o0 := BTA.out.c0
       have q0_ := BRA.out.c0
       have fq0 := BRA.out.fz 0
       have o1 := BTA.out.c1
       have q1_ := BRA.out.c1
       have fq1 := BRA.out.fz 1
       have o2 := BTA.out.c2
       have q2_ := BRA.out.c2
       have fq2 := BRA.out.fz 2
       have o3 := BTA.out.c3
       have q3_ := BRA.out.c3
       have fq3 := BRA.out.fz 3
       have o4 := BTA.out.c4
       have q4_ := BRA.out.c4
       have fq4 := BRA.out.fz 4
       have o5 := BTA.out.c5
       have q5_ := BRA.out.c5
       have fq5 := BRA.out.fz 5
       have o6 := BTA.out.c6
       have q6_ := BRA.out.c6
       have fq6 := BRA.out.fz 6
       have o7 := BTA.out.c7
       have q7_ := BRA.out.c7
       have fq7 := BRA.out.fz 7
       go_wp2
       refine bodyPost_ret (v := .agg #[.int .i64 t.id, .int .i64 t.st, .int .i64 t.snap, .int .i64 t.cs, .slice ora t.rs.length orc, .slice owa t.ws.length owc, .bool t.out, .string t.nm]) (by simp [results, Tryz.results77, go_sem, q0_, q1_, q2_, q3_, q4_, q5_, q6_, q7_]) rfl ⟨?_, Or.inr ⟨t, q8, ora, orc, owa, owc, HX.out, HQ.out, rfl, ?_, ?_⟩⟩
       ·exact grown_belowB HGA.out (below_s8 (Below.refl _ _) (Nat.le_refl _) _ _ _ _ _ _ _ _) (Nat.le_refl _)
       ·exact (LA.out.s8 (by have := S48.out; omega) _ _ _ _ _ _ _ _).mono (by have := S48.out; omega) (by rw [size_s8]; exact SA.out)
       ·exact HDA.out.o8 hgz _ _ _ _ _ _ _ _
end Go.Proofs.YtpnnncfbodfnhaaGreatDoor

namespace Go.Proofs.YtpnnncfbodfnhaaGreatDoor
open Go.RowKit
open KM
attribute [local go_sem ↓] Go.wp_at_zero Go.wp_at_succ

end Go.Proofs.YtpnnncfbodfnhaaGreatDoor

namespace Go.Proofs.YtpnnncfbodfnhaaGreatDoor
open Go.RowKit Go.WideMaps Go.Maps
open KM
attribute [local go_sem ↓] Go.wp_at_zero Go.wp_at_succ

def kl (s : ByteArray) : Lit := .string s.data.toList
theorem kl_inj {s t : ByteArray} (h : kl s = kl t) : s = t := by
 unfold kl at h
 simp only [Lit.string.injEq] at h
 obtain ⟨⟨x⟩⟩ := s
 obtain ⟨⟨y⟩⟩ := t
 simp only at h
 subst h
 rfl
structure Inv (D0 : DataW Unit) (ys : List Wt) (k : Nat) (D : DataW Unit) : Prop where
 tidy : Tidy D
 has : ∀ s, Maps.has D (kl s) = true ↔ Maps.has D0 (kl s) = true ∧ ∀ j (hj : j < ys.length), j < k → ys[j].1 ≠ s
 le : Maps.size D ≤ Maps.size D0
 lt : Maps.size D < Maps.size D0 ↔ ∃ j, ∃ hj : j < ys.length, j < k ∧ Maps.has D0 (kl ys[j].1) = true
theorem Inv.start {D0 : DataW Unit} {ys : List Wt} (h : Tidy D0) : Inv D0 ys 0 D0 :=
 ⟨h, fun s => ⟨fun h => ⟨h, fun j hj h0 => by omega⟩, fun h => h.1⟩, Nat.le_refl _, ⟨fun h => by omega, fun ⟨j, hj, h0, _⟩ => by omega⟩⟩
theorem Inv.step {D0 D : DataW Unit} {ys : List Wt} {k : Nat} (h : Inv D0 ys k D) (hk : k < ys.length) : Inv D0 ys (k + 1) (D.del (kl ys[k].1)) := by
 have hs := size_del (k := kl ys[k].1) h.tidy
 have hh := h.has ys[k].1
 refine ⟨h.tidy.del _, fun s => ?_, ?_, ?_⟩
 ·by_cases e : s = ys[k].1
  ·subst e
   rw [has_del_same]
   simp only [Bool.false_eq_true, false_iff, not_and]
   exact fun _ h2 => h2 k hk (by omega) rfl
  ·rw [has_del_other (fun h => e (kl_inj h)), h.has s]
   constructor
   ·rintro ⟨h1, h2⟩
    refine ⟨h1, fun j hj hjk => ?_⟩
    by_cases ej : j = k
    ·subst ej; exact fun e' => e e'.symm
    ·exact h2 j hj (by omega)
   ·rintro ⟨h1, h2⟩
    exact ⟨h1, fun j hj hjk => h2 j hj (by omega)⟩
 ·have := h.le; split at hs <;> omega
 ·by_cases hd : Maps.has D (kl ys[k].1) = true
  ·rw [if_pos hd] at hs
   have := h.le
   constructor
   ·intro _
    exact ⟨k, hk, by omega, (hh.1 hd).1⟩
   ·intro _; omega
  ·rw [if_neg hd] at hs
   rw [show Maps.size (D.del (kl ys[k].1)) = Maps.size D by omega, h.lt]
   constructor
   ·rintro ⟨j, hj, hjk, hx⟩
    exact ⟨j, hj, by omega, hx⟩
   ·rintro ⟨j, hj, hjk, hx⟩
    by_cases ej : j = k
    ·subst ej
     apply Classical.byContradiction
     intro hno
     exact hd (hh.2 ⟨hx, fun i hi hij e => hno ⟨i, hi, hij, by rw [e]; exact hx⟩⟩)
    ·exact ⟨j, hj, by omega, hx⟩
end Go.Proofs.YtpnnncfbodfnhaaGreatDoor

/- Those of a list that are in one of some states: slices.Contains over numbers, inState. -/
import Derived.Test.YtpnnncfbodfnhaaGreatPr15
import Derived.Test.YtpnnncfbodfnhaaGreatPr16
import Derived.Test.YtpnnncfbodfnhaaGreatPr11
import Derived.Test.YtpnnncfbodfnhaaGreatPr04
import Derived.Test.YtpnnncfbodfnhaaGreatPr05
import Derived.Test.YtpnnncfbodfnhaaGreatPr01
import Derived.Deep.AppendLies
import Derived.Test.YtpnnncfbodfnhaaGreatPr07
import Derived.WalkSpells
import Derived.WalkLawsBesides
import Derived.Deep.QuietTactic
import Derived.BigQuiet
import Derived.Deep.RegionHeld3
import Derived.Deep.DrawnRows
import Derived.Test.YtpnnncfbodfnhaaGreatPr08
import Derived.Test.YtpnnncfbodfnhaaGreatPr10
import Derived.Sort.OwnSorted
import Derived.Lib.RowBridge
import Derived.Test.YtpnnncfbodfnhaaGreatPr02
import Derived.Test.YtpnnncfbodfnhaaGreatPr13
import Derived.Test.YtpnnncfbodfnhaaGreatPr14
import Derived.Deep.Cut
import Derived.Deep.CutRange
import Derived.Laws.EntriesVeiled
namespace Go.Proofs.YtpnnncfbodfnhaaGreat
open Go.RowKit
open KM
attribute [local go_sem ↓] Go.wp_at_zero Go.wp_at_succ

end Go.Proofs.YtpnnncfbodfnhaaGreat

namespace Go.Proofs.YtpnnncfbodfnhaaGreat
open Go.RowKit Go.Maps
open KM
attribute [local go_sem ↓] Go.wp_at_zero Go.wp_at_succ

end Go.Proofs.YtpnnncfbodfnhaaGreat

namespace Go.Proofs.YtpnnncfbodfnhaaGreat
open Go.RowKit
open KM
attribute [local go_sem ↓] Go.wp_at_zero Go.wp_at_succ

end Go.Proofs.YtpnnncfbodfnhaaGreat

namespace Go.Proofs.YtpnnncfbodfnhaaGreat
namespace VM
open KM
def keep (s : Int) (ns : List Nd) (n : Nd) : Bool := decide (s < n.2.2.2.2) || ((lst n.2.1 s ns).map (·.1) == some n.1)
def T1 (s : Int) (vs : List Vr) : Nat → List Vr
 | 0 => []
 | i + 1 => T1 s vs i ++ (match vs[i]? with
  | some v => if keep s (lab vs vs.length) (i, v) = true then [v] else []
  | none => [])
end VM
end Go.Proofs.YtpnnncfbodfnhaaGreat

namespace Go.Proofs.YtpnnncfbodfnhaaGreat
open Go.RowKit
open KM
open VM
attribute [local go_sem ↓] Go.wp_at_zero Go.wp_at_succ

end Go.Proofs.YtpnnncfbodfnhaaGreat

namespace Go.Proofs.YtpnnncfbodfnhaaGreat
open Go.RowKit
open KM
attribute [local go_sem ↓] Go.wp_at_zero Go.wp_at_succ

end Go.Proofs.YtpnnncfbodfnhaaGreat

namespace Go.Proofs.YtpnnncfbodfnhaaGreat
open Go.RowKit
open KM
open VM
attribute [local go_sem ↓] Go.wp_at_zero Go.wp_at_succ

theorem TLie.grown {w w' : World} {lo hi : Nat} {t : Tx} {ra wa : Option Addr} {rc wc : Nat} {row : Option Nat} (h : TLie w lo hi t ra rc wa wc) (hg : w.grownBy w' row) (hne : ∀ g, row = some g → g < lo ∨ hi ≤ g) : TLie w' lo hi t ra rc wa wc := by
 obtain ⟨m, p, q, h1, h2⟩ := h.ex
 exact ⟨m, p, q, h1.marked2 hg (fun g e => by have := hne g e; omega), h2.marked2 hg (fun g e => by have := hne g e; omega)⟩
theorem Zs.grown {w w' : World} {v : Value} (hg : w.grownBy w' v.ownBlock) : ∀ {ys : List Ta} {lo hi : Nat}, Zs w v lo hi ys → Zs w' v lo hi ys
 | [], _, _, h => h
 | _ :: _, _, _, ⟨p, q, h1, h2, h3, h4, h5⟩ => ⟨p, q, h1, h2, h3.grown hg h4, h4, h5.grown hg⟩
theorem LLie.more {w w2 w3 : World} {lo c0 n0 : Nat} {v : Value} {ys : List Ta} {y : Ta} {o : Obj} {g' cap p : Nat} (h : LLie w lo w.heap.size v ys) (hb : Below w.heap.size w w2) (hp : w.heap.size ≤ p) (hpq : p ≤ w2.heap.size) (hT : TLie w2 p w2.heap.size y.t y.ra y.rc y.wa y.wc)
  (ho : GOwn encT 37 w3 lo (.slice (some ⟨g', 0, none⟩) n0 cap) (ys ++ [y])) (hg : (w2.alloc o).grownBy w3 v.ownBlock) (hg2 : v.ownBlock = some g' ∨ g' = w2.heap.size + 1) (hc : c0 = n0) : LLie w3 lo w3.heap.size (.slice (some ⟨g', 0, none⟩) c0 cap) (ys ++ [y]) := by
 subst hc
 have hba : Below w2.heap.size w2 (w2.alloc o) := (belowRefl w2).alloc (Nat.le_refl _) _
 have hsz : (w2.alloc o).heap.size = w2.heap.size + 1 := by simp
 have h3 : w2.heap.size + 1 ≤ w3.heap.size := by have := hg.size; omega
 have hup := h.own.up
 have z1 : Zs w3 v lo w.heap.size ys := ((h.zs.below hb).below hba).grown hg
 have z2 : Zs w3 (.slice (some ⟨g', 0, none⟩) c0 cap) lo w.heap.size ys := z1.av (fun a b _ hbq hav g e => by
  have e' : g' = g := Option.some.inj e
  subst e'
  rcases hg2 with h4 | h4
  ·exact hav _ h4
  ·right; have := hb.size; omega)
 refine ⟨Lies.of ho, Zs.snoc (y := y) hp hpq (by omega) ((hT.below hba).grown hg (fun g e => ?_)) (fun g e => ?_) z2⟩
 ·have := hup g e; omega
 ·have e' : g' = g := Option.some.inj e
  subst e'
  rcases hg2 with h4 | h4
  ·have := hup _ h4; omega
  ·right; omega

end Go.Proofs.YtpnnncfbodfnhaaGreat

namespace Go.Proofs.YtpnnncfbodfnhaaGreat
open Go.RowKit
open KM
open VM
attribute [local go_sem ↓] Go.wp_at_zero Go.wp_at_succ

theorem many_up {α : Type} {N : Nat} {f : Int → Option (α × Nat)} (hf : ∀ q a q', f q = some (a, q') → q < (q' : Int) ∧ q' ≤ N) {p : Nat} : ∀ {k l q}, many f p k = some (l, q) → p ≤ q := by
 intro k
 induction k with
 | zero => intro l q h; cases h; exact Nat.le_refl _
 | succ k ih =>
  intro l q h
  simp only [many] at h
  split at h
  ·cases h
  ·rename_i a ha
   have h1 := ih (l := a.1) (q := a.2) ha
   split at h
   ·cases h
   ·rename_i b hb
    have h2 := hf _ b.1 b.2 hb
    cases h
    omega
theorem grown_zn {w w' : World} {g : Nat} (h : w.grownBy w' (some g)) : Zn g (g + 1) w w' := ⟨h.os, h.tape, h.output, h.size, fun j hj hn => h.block j hj (fun e => by have := Option.some.inj e; omega)⟩
theorem LLie.moreZ {w w2 w3 : World} {lo c0 n0 b0 : Nat} {v : Value} {ys : List Ta} {y : Ta} {o : Obj} {g' cap p : Nat} (h : LLie w lo w.heap.size v ys) (hz : Zn b0 (b0 + 1) w w2) (hb0 : b0 < lo) (hp : w.heap.size ≤ p) (hpq : p ≤ w2.heap.size) (hT : TLie w2 p w2.heap.size y.t y.ra y.rc y.wa y.wc)
  (ho : GOwn encT 37 w3 lo (.slice (some ⟨g', 0, none⟩) n0 cap) (ys ++ [y])) (hg : (w2.alloc o).grownBy w3 v.ownBlock) (hg2 : v.ownBlock = some g' ∨ g' = w2.heap.size + 1) (hc : c0 = n0) : LLie w3 lo w3.heap.size (.slice (some ⟨g', 0, none⟩) c0 cap) (ys ++ [y]) := by
 subst hc
 have hba : Below w2.heap.size w2 (w2.alloc o) := (belowRefl w2).alloc (Nat.le_refl _) _
 have hsz : (w2.alloc o).heap.size = w2.heap.size + 1 := by simp
 have h3 : w2.heap.size + 1 ≤ w3.heap.size := by have := hg.size; omega
 have hup := h.own.up
 have z1 : Zs w3 v lo w.heap.size ys := ((h.zs.zn hz (Or.inr (by omega))).below hba).grown hg
 have z2 : Zs w3 (.slice (some ⟨g', 0, none⟩) c0 cap) lo w.heap.size ys := z1.av (fun a b _ hbq hav g e => by
  have e' : g' = g := Option.some.inj e
  subst e'
  rcases hg2 with h4 | h4
  ·exact hav _ h4
  ·right; have := hz.size; omega)
 refine ⟨Lies.of ho, Zs.snoc (y := y) hp hpq (by omega) ((hT.below hba).grown hg (fun g e => ?_)) (fun g e => ?_) z2⟩
 ·have := hup g e; omega
 ·have e' : g' = g := Option.some.inj e
  subst e'
  rcases hg2 with h4 | h4
  ·have := hup _ h4; omega
  ·right; omega
def rVr (x : ByteArray) (p : Int) : Option (Vr × Nat) :=
 match rS x p with
 | none => none
 | some a => match rS x (a.2 : Int) with
  | none => none
  | some b => match rF x (b.2 : Int) with
   | none => none
   | some c => match rN x (c.2 : Int) with
    | none => none
    | some d => some ((a.1, b.1, c.1, (d.1 : Int)), d.2)
theorem rVr_bd {x : ByteArray} (q : Int) (a : Vr) (q' : Nat) (h : rVr x q = some (a, q')) : q < (q' : Int) ∧ q' ≤ x.size := by
 unfold rVr at h
 split at h
 ·cases h
 ·rename_i u hu
  have b1 := rS_bd hu
  split at h
  ·cases h
  ·rename_i v hv
   have b2 := rS_bd hv
   split at h
   ·cases h
   ·rename_i c hc
    have b3 := rF_bd hc
    split at h
    ·cases h
    ·rename_i d hd
     have b4 := rN_bd hd
     cases h
     exact ⟨by omega, b4.2.2.1⟩
def rVs (x : ByteArray) (p : Int) : Option (List Vr × Nat) :=
 match rN x p with
 | none => none
 | some r => many (rVr x) r.2 r.1
def rTs (x : ByteArray) (p : Int) : Option (List Tx × Nat) :=
 match rN x p with
 | none => none
 | some r => many (rTx x) r.2 r.1
theorem rTx_bd {x : ByteArray} (q : Int) (a : Tx) (q' : Nat) (h : rTx x q = some (a, q')) : q < (q' : Int) ∧ q' ≤ x.size := by
 unfold rTx at h
 split at h
 ·cases h
 rename_i a1 h1
 split at h
 ·cases h
 rename_i a2 h2
 split at h
 ·cases h
 rename_i a3 h3
 split at h
 ·cases h
 rename_i a4 h4
 split at h
 ·cases h
 rename_i a5 h5
 split at h
 ·cases h
 rename_i a6 h6
 split at h
 ·cases h
 rename_i a7 h7
 split at h
 ·cases h
 rename_i a8 h8
 split at h
 ·have b1 := rN_bd h1
  have b2 := rN_bd h2
  have b3 := rN_bd h3
  have b4 := rN_bd h4
  have b5 : a4.2 < a5.2 := by
   unfold rRs at h5
   split at h5
   ·cases h5
   ·rename_i r hr
    have c1 := rN_bd hr
    have c2 := many_up rRg_bd h5
    omega
  have b6 : a5.2 < a6.2 := by
   unfold rWs at h6
   split at h6
   ·cases h6
   ·rename_i r hr
    have c1 := rN_bd hr
    have c2 := many_up rWt_bd h6
    omega
  have b7 := rF_bd h7
  have b8 := rS_bd h8
  cases h
  exact ⟨by omega, b8.2.2.1⟩
 ·cases h

set_option maxRecDepth 100000 in
set_option maxHeartbeats 2000000 in
theorem ivs (x : ByteArray) (g : Nat) (p : Int) (hs : x.size ≤ 1048576) (w : World) (hd : Rd w g x p) :
  Calls Tryz.prog 94 #[.pointer (some ⟨g, 0, none⟩)] w fun e w' => w.grownBy w' (some g) ∧ ((e = .panicked PAN ∧ rVs x p = none) ∨ ∃ l q a1 c1, rVs x p = some (l, q) ∧ q ≤ x.size ∧ e = .returned (.slice a1 l.length c1) ∧ GOwn encV 76 w' w.heap.size (.slice a1 l.length c1) l ∧ Rd w' g x (q : Int)) := by
 have HD : Hid (Rd w g x p) := hd
 have hgl := hd.lt
 clear hd
 cases hn : rN x p with
 | none =>
  have HR : Hid (rVs x p = none) := by show _ = _; unfold rVs; rw [hn]
  have HN := hide hn
  clear hn
  go_enter Tryz.func94, Tryz.ntmps94
  go_wp2_with (go_at_call 93; refine (inum_no x g p hs HN.out _ HD.out).mono ?_; rintro e w' ⟨rfl, hg⟩)
  exact ⟨rfl, hg, Or.inl ⟨rfl, HR.out⟩⟩
 | some r =>
  obtain ⟨n, p1⟩ := r
  have HR : Hid (rVs x p = many (rVr x) p1 n) := by show _ = _; unfold rVs; rw [hn]
  have hbn := rN_bd hn
  have hp1 : p1 ≤ x.size := hbn.2.2.1
  have hn9 : n ≤ 1000000000 := hbn.1
  have HN := hide hn
  clear hn hbn
  go_enter Tryz.func94, Tryz.ntmps94
  go_wp2_with (go_at_call 93; refine (inum_yes x g p hs n p1 HN.out _ HD.out).mono ?_; rintro e w1 ⟨rfl, hd1, hg1⟩)
  have HD1 := hide hd1
  have HG1 := hide hg1
  clear hd1 hg1 HD
  go_loopw [3, 6] (fun v t wr => ∃ (k q : Nat) (l : List Vr), k ≤ n ∧ t = .int .i64 k ∧ Hid (many (rVr x) p1 k = some (l, q)) ∧ Hid (GOwn encV 76 wr w.heap.size v l) ∧ Hid (Rd wr g x (q : Int)) ∧ Hid (w.grownBy wr (some g))) (fun _ t _ => n - (intOf t).toNat)
  case atStart => exact ⟨0, p1, [], Nat.zero_le _, rfl, rfl, World.ownsRow_nil _ _ _ _, HD1, HG1⟩
  case round =>
   clear HD1 HG1
   obtain ⟨k, q, l, hk, rfl, HM, HO, HD, HG⟩ := hrel
   obtain ⟨hl, hkq, hq⟩ := many_len hp1 rVr_bd HM.out
   have hll : l.length ≤ 100000000 := by omega
   clear hl hkq
   by_cases hlt : k < n
   ·have hlt' : (k : Int) < (n : Int) := by omega
    cases h1 : rS x (q : Int) with
    | none =>
     have HX : Hid (rVs x p = none) := by
      show _ = _
      rw [HR.out]
      exact many_none (many_no HM.out (by unfold rVr; rw [h1])) hlt
     have H1 := hide h1
     clear h1
     go_wp2_with fail
     refine (ishrt_no x g _ hs H1.out _ HD.out).mono ?_
     rintro e w2 ⟨rfl, hg⟩
     have HGx := hide (grown_trans HG.out hg)
     clear hg
     go_wp2
     exact ⟨rfl, HGx.out, Or.inl ⟨rfl, HX.out⟩⟩
    | some a1 =>
     obtain ⟨s1, q1⟩ := a1
     cases h2 : rS x (q1 : Int) with
     | none =>
      have HX : Hid (rVs x p = none) := by
       show _ = _
       rw [HR.out]
       exact many_none (many_no HM.out (by unfold rVr; rw [h1]; dsimp only; rw [h2])) hlt
      have H1 := hide h1
      have H2 := hide h2
      clear h1 h2
      go_wp2_with fail
      refine (ishrt_yes x g _ hs s1 q1 H1.out _ HD.out).mono ?_
      rintro e w2 ⟨rfl, hd2, hg2⟩
      have HD2 := hide hd2
      have HO2 := hide (HO.out.keptG hg2 hgl)
      have HG2 := hide (grown_trans HG.out hg2)
      clear hd2 hg2
      go_wp2_with fail
      refine (ishrt_no x g _ hs H2.out _ HD2.out).mono ?_
      rintro e w3 ⟨rfl, hg⟩
      have HGx := hide (grown_trans HG2.out hg)
      clear hg
      go_wp2
      exact ⟨rfl, HGx.out, Or.inl ⟨rfl, HX.out⟩⟩
     | some a2 =>
      obtain ⟨s2, q2⟩ := a2
      cases h3 : rF x (q2 : Int) with
      | none =>
       have HX : Hid (rVs x p = none) := by
        show _ = _
        rw [HR.out]
        exact many_none (many_no HM.out (by unfold rVr; rw [h1]; dsimp only; rw [h2]; dsimp only; rw [h3])) hlt
       have H1 := hide h1
       have H2 := hide h2
       have H3 := hide h3
       clear h1 h2 h3
       go_wp2_with fail
       refine (ishrt_yes x g _ hs s1 q1 H1.out _ HD.out).mono ?_
       rintro e w2 ⟨rfl, hd2, hg2⟩
       have HD2 := hide hd2
       have HO2 := hide (HO.out.keptG hg2 hgl)
       have HG2 := hide (grown_trans HG.out hg2)
       clear hd2 hg2
       go_wp2_with fail
       refine (ishrt_yes x g _ hs s2 q2 H2.out _ HD2.out).mono ?_
       rintro e w3 ⟨rfl, hd3, hg3⟩
       have HD3 := hide hd3
       have HO3 := hide (HO2.out.keptG hg3 hgl)
       have HG3 := hide (grown_trans HG2.out hg3)
       clear hd3 hg3
       go_wp2_with fail
       refine (iflag_no x g _ hs H3.out _ HD3.out).mono ?_
       rintro e w4 ⟨rfl, hg⟩
       have HGx := hide (grown_trans HG3.out hg)
       clear hg
       go_wp2
       exact ⟨rfl, HGx.out, Or.inl ⟨rfl, HX.out⟩⟩
      | some a3 =>
       obtain ⟨f3, q3⟩ := a3
       cases h4 : rN x (q3 : Int) with
       | none =>
        have HX : Hid (rVs x p = none) := by
         show _ = _
         rw [HR.out]
         exact many_none (many_no HM.out (by unfold rVr; rw [h1]; dsimp only; rw [h2]; dsimp only; rw [h3]; dsimp only; rw [h4])) hlt
        have H1 := hide h1
        have H2 := hide h2
        have H3 := hide h3
        have H4 := hide h4
        clear h1 h2 h3 h4
        go_wp2_with fail
        refine (ishrt_yes x g _ hs s1 q1 H1.out _ HD.out).mono ?_
        rintro e w2 ⟨rfl, hd2, hg2⟩
        have HD2 := hide hd2
        have HO2 := hide (HO.out.keptG hg2 hgl)
        have HG2 := hide (grown_trans HG.out hg2)
        clear hd2 hg2
        go_wp2_with fail
        refine (ishrt_yes x g _ hs s2 q2 H2.out _ HD2.out).mono ?_
        rintro e w3 ⟨rfl, hd3, hg3⟩
        have HD3 := hide hd3
        have HO3 := hide (HO2.out.keptG hg3 hgl)
        have HG3 := hide (grown_trans HG2.out hg3)
        clear hd3 hg3
        go_wp2_with fail
        refine (iflag_yes x g _ hs f3 q3 H3.out _ HD3.out).mono ?_
        rintro e w4 ⟨rfl, hd4, hg4⟩
        have HD4 := hide hd4
        have HO4 := hide (HO3.out.keptG hg4 hgl)
        have HG4 := hide (grown_trans HG3.out hg4)
        clear hd4 hg4
        go_wp2_with fail
        refine (inum_no x g _ hs H4.out _ HD4.out).mono ?_
        rintro e w5 ⟨rfl, hg⟩
        have HGx := hide (grown_trans HG4.out hg)
        clear hg
        go_wp2
        exact ⟨rfl, HGx.out, Or.inl ⟨rfl, HX.out⟩⟩
       | some a4 =>
        obtain ⟨n4, q4⟩ := a4
        have HMn : Hid (many (rVr x) p1 (k + 1) = some (l ++ [(s1, s2, f3, (n4 : Int))], q4)) := many_yes HM.out (by unfold rVr; rw [h1]; dsimp only; rw [h2]; dsimp only; rw [h3]; dsimp only; rw [h4])
        have H1 := hide h1
        have H2 := hide h2
        have H3 := hide h3
        have H4 := hide h4
        clear h1 h2 h3 h4
        go_wp2_with fail
        refine (ishrt_yes x g _ hs s1 q1 H1.out _ HD.out).mono ?_
        rintro e w2 ⟨rfl, hd2, hg2⟩
        have HD2 := hide hd2
        have HO2 := hide (HO.out.keptG hg2 hgl)
        have HG2 := hide (grown_trans HG.out hg2)
        clear hd2 hg2
        go_wp2_with fail
        refine (ishrt_yes x g _ hs s2 q2 H2.out _ HD2.out).mono ?_
        rintro e w3 ⟨rfl, hd3, hg3⟩
        have HD3 := hide hd3
        have HO3 := hide (HO2.out.keptG hg3 hgl)
        have HG3 := hide (grown_trans HG2.out hg3)
        clear hd3 hg3
        go_wp2_with fail
        refine (iflag_yes x g _ hs f3 q3 H3.out _ HD3.out).mono ?_
        rintro e w4 ⟨rfl, hd4, hg4⟩
        have HD4 := hide hd4
        have HO4 := hide (HO3.out.keptG hg4 hgl)
        have HG4 := hide (grown_trans HG3.out hg4)
        clear hd4 hg4
        go_wp2_with fail
        refine (inum_yes x g _ hs n4 q4 H4.out _ HD4.out).mono ?_
        rintro e w5 ⟨rfl, hd5, hg5⟩
        have HD5 := hide hd5
        have HO5 := hide (HO4.out.keptG hg5 hgl)
        have HG5 := hide (grown_trans HG4.out hg5)
        clear hd5 hg5
        go_wp2_with (at_builtin; refine wpAppV rfl _ _ rfl (s1, s2, f3, (n4 : Int)) rfl HO5.out rfl hll HG5.out.size ?_)
        intro v' w' ho' hb'
        have HO9 := hide ho'
        have HD9 : Hid (Rd w' g x (q4 : Int)) := HD5.out.belowB hb' hgl
        have HG9 : Hid (w.grownBy w' (some g)) := grown_belowB HG5.out hb' (Nat.le_refl _)
        clear ho' hb'
        go_wp2
        go_roundw
        case rel => exact ⟨k + 1, q4, _, by omega, by go_num, HMn, HO9, HD9, HG9⟩
        case measure => simp [intOf]; omega
   ·have hlt' : ¬ (k : Int) < (n : Int) := by omega
    have hkn : k = n := by omega
    subst hkn
    have HX : Hid (rVs x p = some (l, q)) := HR.out.trans HM.out
    obtain ⟨a1, c1, rfl, _⟩ := HO.out.row
    go_wp2
    go_ret
    exact ⟨HG.out, Or.inr ⟨l, q, HX.out, hq, a1, c1, rfl, HO.out, HD.out⟩⟩

set_option maxRecDepth 100000 in
set_option maxHeartbeats 2000000 in
theorem its (x : ByteArray) (g : Nat) (p : Int) (hs : x.size ≤ 1048576) (w : World) (hd : Rd w g x p) :
  Calls Tryz.prog 95 #[.pointer (some ⟨g, 0, none⟩)] w fun e w' => w.grownBy w' (some g) ∧ ((e = .panicked PAN ∧ rTs x p = none) ∨ ∃ l q, rTs x p = some (l, q) ∧ q ≤ x.size ∧ ∃ ys a1 c1, e = .returned (.slice a1 ys.length c1) ∧ txs ys = l ∧ LLie w' w.heap.size w'.heap.size (.slice a1 ys.length c1) ys ∧ Rd w' g x (q : Int)) := by
 have HD : Hid (Rd w g x p) := hd
 have hgl := hd.lt
 clear hd
 cases hn : rN x p with
 | none =>
  have HR : Hid (rTs x p = none) := by show _ = _; unfold rTs; rw [hn]
  have HN := hide hn
  clear hn
  go_enter Tryz.func95, Tryz.ntmps95
  go_wp2_with (go_at_call 93; refine (inum_no x g p hs HN.out _ HD.out).mono ?_; rintro e w' ⟨rfl, hg⟩)
  exact ⟨rfl, hg, Or.inl ⟨rfl, HR.out⟩⟩
 | some r =>
  obtain ⟨n, p1⟩ := r
  have HR : Hid (rTs x p = many (rTx x) p1 n) := by show _ = _; unfold rTs; rw [hn]
  have hbn := rN_bd hn
  have hp1 : p1 ≤ x.size := hbn.2.2.1
  have hn9 : n ≤ 1000000000 := hbn.1
  have HN := hide hn
  clear hn hbn
  go_enter Tryz.func95, Tryz.ntmps95
  go_wp2_with (go_at_call 93; refine (inum_yes x g p hs n p1 HN.out _ HD.out).mono ?_; rintro e w1 ⟨rfl, hd1, hg1⟩)
  have HD1 := hide hd1
  have HG1 := hide hg1
  clear hd1 hg1 HD
  go_loopw [3, 6] (fun v t wr => ∃ (k q : Nat) (l : List Tx) (ys : List Ta), k ≤ n ∧ t = .int .i64 k ∧ Hid (many (rTx x) p1 k = some (l, q)) ∧ Hid (txs ys = l) ∧ Hid (LLie wr w.heap.size wr.heap.size v ys) ∧ Hid (Rd wr g x (q : Int)) ∧ Hid (w.grownBy wr (some g))) (fun _ t _ => n - (intOf t).toNat)
  case atStart => exact ⟨0, p1, [], [], Nat.zero_le _, rfl, rfl, rfl, ⟨Lies.of (GOwn.nil _ _), HG1.out.size⟩, HD1, HG1⟩
  case round =>
   clear HD1 HG1
   obtain ⟨k, q, l, ys, hk, rfl, HM, HY, HL, HD, HG⟩ := hrel
   obtain ⟨hl, hkq, hq⟩ := many_len hp1 rTx_bd HM.out
   have hln : ys.length ≤ 100000000 := by rw [← txs_len, HY.out]; omega
   clear hl hkq
   by_cases hlt : k < n
   ·have hlt' : (k : Int) < (n : Int) := by omega
    go_wp2_with fail
    refine (itx x g _ hs _ HD.out).mono ?_
    rintro e w2 ⟨hg, ⟨rfl, hx⟩ | ⟨t, q1, ra, rc, wa, wc, hx, hq1, rfl, hT, hd⟩⟩
    ·have HX : Hid (rTs x p = none) := by
      show _ = _
      rw [HR.out]
      exact many_none (many_no HM.out hx) hlt
     have HG2 := hide (grown_trans HG.out hg)
     clear hg hx
     go_wp2
     exact ⟨rfl, HG2.out, Or.inl ⟨rfl, HX.out⟩⟩
    ·have HMn : Hid (many (rTx x) p1 (k + 1) = some (l ++ [t], q1)) := many_yes HM.out hx
     have HZ := hide (grown_zn hg)
     have HG2 := hide (grown_trans HG.out hg)
     have HT := hide hT
     have HD2 := hide hd
     have O2 := hide (HL.out.own.own.keptG hg hgl)
     have hs2 : wr.heap.size ≤ w2.heap.size := hg.size
     have HSW : Hid (w.heap.size ≤ w2.heap.size) := HG2.out.size
     clear hg hx hT hd HM
     have HBK : Hid ((w2.alloc (.cells #[.int .i64 t.id, .int .i64 t.st, .int .i64 t.snap, .int .i64 t.cs, .slice ra t.rs.length rc, .slice wa t.ws.length wc, .bool t.out, .string t.nm] 37)).heap[w2.heap.size]? = some (.cells (encT.enc ⟨t, ra, rc, wa, wc⟩).toArray 37 (0, 0))) := heap_alloc_new w2 _
     have O2a := hide (O2.out.alloc (.cells #[.int .i64 t.id, .int .i64 t.st, .int .i64 t.snap, .int .i64 t.cs, .slice ra t.rs.length rc, .slice wa t.ws.length wc, .bool t.out, .string t.nm] 37))
     have hbb : w.heap.size ≤ (w2.alloc (.cells #[.int .i64 t.id, .int .i64 t.st, .int .i64 t.snap, .int .i64 t.cs, .slice ra t.rs.length rc, .slice wa t.ws.length wc, .bool t.out, .string t.nm] 37)).heap.size := by have := HSW.out; simp; omega
     go_wp2_with (at_builtin; refine wpAppK (E := encT) 39 37 104 _ Tryz.underlying39 Tryz.info37 rfl (by omega) rfl _ _ rfl ⟨t, ra, rc, wa, wc⟩ tone rfl O2a.out rfl HBK.out hln hbb ?_)
     intro g' cap w3 ho3 hg3 hg4 hlt3
     have HL3 : Hid (LLie w3 w.heap.size w3.heap.size (.slice (some ⟨g', 0, none⟩) (ys.length + 1) cap) (ys ++ [⟨t, ra, rc, wa, wc⟩])) := LLie.moreZ (y := ⟨t, ra, rc, wa, wc⟩) HL.out HZ.out hgl (Nat.le_refl _) hs2 HT.out ho3 hg3 hg4 rfl
     have hb3 : Below w.heap.size w2 w3 := (((belowRefl w2).alloc (Nat.le_refl _) _).mono HSW.out).trans ((Below.refl _ _).grown hg3 hbb (fun j hj => (World.ownsRow.lt O2a.out j hj).1))
     have HG3 : Hid (w.grownBy w3 (some g)) := grown_belowB HG2.out hb3 (Nat.le_refl _)
     have HD3 : Hid (Rd w3 g x (q1 : Int)) := HD2.out.belowB hb3 hgl
     have HY3 : Hid (txs (ys ++ [(⟨t, ra, rc, wa, wc⟩ : Ta)]) = l ++ [t]) := by show _ = _; rw [← HY.out]; simp [txs]
     clear ho3 hg3 hg4 hlt3 hb3 O2a O2 HBK HT HL HZ HSW hs2 hbb HG HD2 HG2 HY
     go_wp2
     go_roundw
     case rel => exact ⟨k + 1, q1, _, _, by omega, by go_num, HMn, HY3, HL3, HD3, HG3⟩
     case measure => simp [intOf]; omega
   ·have hlt' : ¬ (k : Int) < (n : Int) := by omega
    have hkn : k = n := by omega
    subst hkn
    have HX : Hid (rTs x p = some (l, q)) := HR.out.trans HM.out
    obtain ⟨a1, c1, rfl, _⟩ := HL.out.own.own.row
    go_wp2
    go_ret
    exact ⟨HG.out, Or.inr ⟨l, q, HX.out, hq, ys, a1, c1, rfl, HY.out, HL.out, HD.out⟩⟩

end Go.Proofs.YtpnnncfbodfnhaaGreat

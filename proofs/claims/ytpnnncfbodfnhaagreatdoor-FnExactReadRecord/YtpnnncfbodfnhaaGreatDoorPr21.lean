/- What stays: copies of lists and of bases, by the program. -/
import Derived.Test.YtpnnncfbodfnhaaGreatDoorPr20
import Derived.Deep.RegionHeld3
import Derived.Test.YtpnnncfbodfnhaaGreatDoorPr05
import Derived.Test.YtpnnncfbodfnhaaGreatDoorPr02
import Derived.Test.YtpnnncfbodfnhaaGreatDoorPr06
import Derived.Test.YtpnnncfbodfnhaaGreatDoorProg
import Derived.WalkKit
import Derived.Test.YtpnnncfbodfnhaaGreatDoorPr01
import Derived.WalkSpells
import Derived.WalkLawsBesides
import Derived.Deep.QuietTactic
import Derived.BigQuiet
import Derived.Deep.DrawnRows
import Derived.Deep.AppendLies
import Derived.Test.YtpnnncfbodfnhaaGreatDoorPr08
import Derived.Test.YtpnnncfbodfnhaaGreatDoorPr04
import Derived.Sort.OwnSorted
import Derived.Lib.RowBridge
import Derived.Deep.Cut
import Derived.Deep.CutRange
import Derived.Laws.EntriesVeiled
import Derived.Test.YtpnnncfbodfnhaaGreatDoorPr19
import Derived.Test.YtpnnncfbodfnhaaGreatDoorPr17
import Derived.Lib.Builder
import Derived.Lib.AppendStr
import Derived.Lib.BufferWrite
import Derived.Deep.RegionHeld
import Derived.Shelf.Small.Strs
import Derived.Shelf.Small.Wraps
import Derived.Test.YtpnnncfbodfnhaaGreatDoorPr03
namespace Go.Proofs.YtpnnncfbodfnhaaGreatDoor
open Go.RowKit
open KM
open VM
attribute [local go_sem ↓] Go.wp_at_zero Go.wp_at_succ

theorem TLie.grown {w w' : World} {lo hi : Nat} {t : Tx} {ra wa : Option Addr} {rc wc : Nat} {row : Option Nat} (h : TLie w lo hi t ra rc wa wc) (hg : w.grownBy w' row) (hne : ∀ g, row = some g → g < lo ∨ hi ≤ g) : TLie w' lo hi t ra rc wa wc := by
 obtain ⟨m, p, q, h1, h2⟩ := h.ex
 exact ⟨m, p, q, h1.marked2 hg (fun g e => by have := hne g e; omega), h2.marked2 hg (fun g e => by have := hne g e; omega)⟩
theorem Zs.grown {w w' : World} {v : Value} (hg : w.grownBy w' v.ownBlock) : ∀ {ys : List Ta} {lo hi : Nat}, Zs w v lo hi ys → Zs w' v lo hi ys
 | [], _, _, h => h
 | _ :: _, _, _, ⟨p, q, h1, h2, h3, h4, h5⟩ => ⟨p, q, h1, h2, h3.grown hg h4, h4, h5.grown hg⟩
theorem LLie.more {w w2 w3 : World} {lo c0 n0 : Nat} {v : Value} {ys : List Ta} {y : Ta} {o : Obj} {g' cap p : Nat} (h : LLie w lo w.heap.size v ys) (hb : Below w.heap.size w w2) (hp : w.heap.size ≤ p) (hpq : p ≤ w2.heap.size) (hT : TLie w2 p w2.heap.size y.t y.ra y.rc y.wa y.wc)
  (ho : GOwn encT 38 w3 lo (.slice (some ⟨g', 0, none⟩) n0 cap) (ys ++ [y])) (hg : (w2.alloc o).grownBy w3 v.ownBlock) (hg2 : v.ownBlock = some g' ∨ g' = w2.heap.size + 1) (hc : c0 = n0) : LLie w3 lo w3.heap.size (.slice (some ⟨g', 0, none⟩) c0 cap) (ys ++ [y]) := by
 subst hc
 have hba : Below w2.heap.size w2 (w2.alloc o) := (belowRefl w2).alloc (Nat.le_refl _) _
 have hsz : (w2.alloc o).heap.size = w2.heap.size + 1 := by simp
 have h3 : w2.heap.size + 1 ≤ w3.heap.size := by have := hg.size; omega
 have hup := h.own.up
 have z1 : Zs w3 v lo w.heap.size ys := ((h.zs.below hb).below hba).grown hg
 have z2 : Zs w3 (.slice (some ⟨g', 0, none⟩) c0 cap) lo w.heap.size ys := z1.av (fun a b _ hbq hav g e => by
  have e' : g' = g := Option.some.inj e
  subst e'
  rcases hg2 with h4 | h4
  ·exact hav _ h4
  ·right; have := hb.size; omega)
 refine ⟨Lies.of ho, Zs.snoc (y := y) hp hpq (by omega) ((hT.below hba).grown hg (fun g e => ?_)) (fun g e => ?_) z2⟩
 ·have := hup g e; omega
 ·have e' : g' = g := Option.some.inj e
  subst e'
  rcases hg2 with h4 | h4
  ·have := hup _ h4; omega
  ·right; omega

end Go.Proofs.YtpnnncfbodfnhaaGreatDoor

namespace Go.Proofs.YtpnnncfbodfnhaaGreatDoor
open Go.RowKit
open KM
open VM
attribute [local go_sem ↓] Go.wp_at_zero Go.wp_at_succ

theorem many_up {α : Type} {N : Nat} {f : Int → Option (α × Nat)} (hf : ∀ q a q', f q = some (a, q') → q < (q' : Int) ∧ q' ≤ N) {p : Nat} : ∀ {k l q}, many f p k = some (l, q) → p ≤ q := by
 intro k
 induction k with
 | zero => intro l q h; cases h; exact Nat.le_refl _
 | succ k ih =>
  intro l q h
  simp only [many] at h
  split at h
  ·cases h
  ·rename_i a ha
   have h1 := ih (l := a.1) (q := a.2) ha
   split at h
   ·cases h
   ·rename_i b hb
    have h2 := hf _ b.1 b.2 hb
    cases h
    omega
theorem grown_zn {w w' : World} {g : Nat} (h : w.grownBy w' (some g)) : Zn g (g + 1) w w' := ⟨h.os, h.tape, h.output, h.size, fun j hj hn => h.block j hj (fun e => by have := Option.some.inj e; omega)⟩
theorem LLie.moreZ {w w2 w3 : World} {lo c0 n0 b0 : Nat} {v : Value} {ys : List Ta} {y : Ta} {o : Obj} {g' cap p : Nat} (h : LLie w lo w.heap.size v ys) (hz : Zn b0 (b0 + 1) w w2) (hb0 : b0 < lo) (hp : w.heap.size ≤ p) (hpq : p ≤ w2.heap.size) (hT : TLie w2 p w2.heap.size y.t y.ra y.rc y.wa y.wc)
  (ho : GOwn encT 38 w3 lo (.slice (some ⟨g', 0, none⟩) n0 cap) (ys ++ [y])) (hg : (w2.alloc o).grownBy w3 v.ownBlock) (hg2 : v.ownBlock = some g' ∨ g' = w2.heap.size + 1) (hc : c0 = n0) : LLie w3 lo w3.heap.size (.slice (some ⟨g', 0, none⟩) c0 cap) (ys ++ [y]) := by
 subst hc
 have hba : Below w2.heap.size w2 (w2.alloc o) := (belowRefl w2).alloc (Nat.le_refl _) _
 have hsz : (w2.alloc o).heap.size = w2.heap.size + 1 := by simp
 have h3 : w2.heap.size + 1 ≤ w3.heap.size := by have := hg.size; omega
 have hup := h.own.up
 have z1 : Zs w3 v lo w.heap.size ys := ((h.zs.zn hz (Or.inr (by omega))).below hba).grown hg
 have z2 : Zs w3 (.slice (some ⟨g', 0, none⟩) c0 cap) lo w.heap.size ys := z1.av (fun a b _ hbq hav g e => by
  have e' : g' = g := Option.some.inj e
  subst e'
  rcases hg2 with h4 | h4
  ·exact hav _ h4
  ·right; have := hz.size; omega)
 refine ⟨Lies.of ho, Zs.snoc (y := y) hp hpq (by omega) ((hT.below hba).grown hg (fun g e => ?_)) (fun g e => ?_) z2⟩
 ·have := hup g e; omega
 ·have e' : g' = g := Option.some.inj e
  subst e'
  rcases hg2 with h4 | h4
  ·have := hup _ h4; omega
  ·right; omega
def rVr (x : ByteArray) (p : Int) : Option (Vr × Nat) :=
 match rS x p with
 | none => none
 | some a => match rS x (a.2 : Int) with
  | none => none
  | some b => match rF x (b.2 : Int) with
   | none => none
   | some c => match rN x (c.2 : Int) with
    | none => none
    | some d => some ((a.1, b.1, c.1, (d.1 : Int)), d.2)
theorem rVr_bd {x : ByteArray} (q : Int) (a : Vr) (q' : Nat) (h : rVr x q = some (a, q')) : q < (q' : Int) ∧ q' ≤ x.size := by
 unfold rVr at h
 split at h
 ·cases h
 ·rename_i u hu
  have b1 := rS_bd hu
  split at h
  ·cases h
  ·rename_i v hv
   have b2 := rS_bd hv
   split at h
   ·cases h
   ·rename_i c hc
    have b3 := rF_bd hc
    split at h
    ·cases h
    ·rename_i d hd
     have b4 := rN_bd hd
     cases h
     exact ⟨by omega, b4.2.2.1⟩
def rVs (x : ByteArray) (p : Int) : Option (List Vr × Nat) :=
 match rN x p with
 | none => none
 | some r => many (rVr x) r.2 r.1
def rTs (x : ByteArray) (p : Int) : Option (List Tx × Nat) :=
 match rN x p with
 | none => none
 | some r => many (rTx x) r.2 r.1
theorem rTx_bd {x : ByteArray} (q : Int) (a : Tx) (q' : Nat) (h : rTx x q = some (a, q')) : q < (q' : Int) ∧ q' ≤ x.size := by
 unfold rTx at h
 split at h
 ·cases h
 rename_i a1 h1
 split at h
 ·cases h
 rename_i a2 h2
 split at h
 ·cases h
 rename_i a3 h3
 split at h
 ·cases h
 rename_i a4 h4
 split at h
 ·cases h
 rename_i a5 h5
 split at h
 ·cases h
 rename_i a6 h6
 split at h
 ·cases h
 rename_i a7 h7
 split at h
 ·cases h
 rename_i a8 h8
 split at h
 ·have b1 := rN_bd h1
  have b2 := rN_bd h2
  have b3 := rN_bd h3
  have b4 := rN_bd h4
  have b5 : a4.2 < a5.2 := by
   unfold rRs at h5
   split at h5
   ·cases h5
   ·rename_i r hr
    have c1 := rN_bd hr
    have c2 := many_up rRg_bd h5
    omega
  have b6 : a5.2 < a6.2 := by
   unfold rWs at h6
   split at h6
   ·cases h6
   ·rename_i r hr
    have c1 := rN_bd hr
    have c2 := many_up rWt_bd h6
    omega
  have b7 := rF_bd h7
  have b8 := rS_bd h8
  cases h
  exact ⟨by omega, b8.2.2.1⟩
 ·cases h

set_option maxRecDepth 100000 in
set_option maxHeartbeats 2000000 in
theorem ivs (x : ByteArray) (g : Nat) (p : Int) (hs : x.size ≤ 1048576) (w : World) (hd : Rd w g x p) :
  Calls Tryz.prog 112 #[.pointer (some ⟨g, 0, none⟩)] w fun e w' => w.grownBy w' (some g) ∧ ((e = .panicked PAN ∧ rVs x p = none) ∨ ∃ l q a1 c1, rVs x p = some (l, q) ∧ q ≤ x.size ∧ e = .returned (.slice a1 l.length c1) ∧ GOwn encV 106 w' w.heap.size (.slice a1 l.length c1) l ∧ Rd w' g x (q : Int)) := by
 have HD : Hid (Rd w g x p) := hd
 have hgl := hd.lt
 clear hd
 cases hn : rN x p with
 | none =>
  have HR : Hid (rVs x p = none) := by show _ = _; unfold rVs; rw [hn]
  have HN := hide hn
  clear hn
  go_enter Tryz.func112, Tryz.ntmps112
  go_wp2_with (go_at_call 76; refine (inum_no x g p hs HN.out _ HD.out).mono ?_; rintro e w' ⟨rfl, hg⟩)
  exact ⟨rfl, hg, Or.inl ⟨rfl, HR.out⟩⟩
 | some r =>
  obtain ⟨n, p1⟩ := r
  have HR : Hid (rVs x p = many (rVr x) p1 n) := by show _ = _; unfold rVs; rw [hn]
  have hbn := rN_bd hn
  have hp1 : p1 ≤ x.size := hbn.2.2.1
  have hn9 : n ≤ 1000000000 := hbn.1
  have HN := hide hn
  clear hn hbn
  go_enter Tryz.func112, Tryz.ntmps112
  go_wp2_with (go_at_call 76; refine (inum_yes x g p hs n p1 HN.out _ HD.out).mono ?_; rintro e w1 ⟨rfl, hd1, hg1⟩)
  have HD1 := hide hd1
  have HG1 := hide hg1
  clear hd1 hg1 HD
  go_loopw [3, 6] (fun v t wr => ∃ (k q : Nat) (l : List Vr), k ≤ n ∧ t = .int .i64 k ∧ Hid (many (rVr x) p1 k = some (l, q)) ∧ Hid (GOwn encV 106 wr w.heap.size v l) ∧ Hid (Rd wr g x (q : Int)) ∧ Hid (w.grownBy wr (some g))) (fun _ t _ => n - (intOf t).toNat)
  case atStart => exact ⟨0, p1, [], Nat.zero_le _, rfl, rfl, World.ownsRow_nil _ _ _ _, HD1, HG1⟩
  case round =>
   clear HD1 HG1
   obtain ⟨k, q, l, hk, rfl, HM, HO, HD, HG⟩ := hrel
   obtain ⟨hl, hkq, hq⟩ := many_len hp1 rVr_bd HM.out
   have hll : l.length ≤ 100000000 := by omega
   clear hl hkq
   by_cases hlt : k < n
   ·have hlt' : (k : Int) < (n : Int) := by omega
    cases h1 : rS x (q : Int) with
    | none =>
     have HX : Hid (rVs x p = none) := by
      show _ = _
      rw [HR.out]
      exact many_none (many_no HM.out (by unfold rVr; rw [h1])) hlt
     have H1 := hide h1
     clear h1
     go_wp2_with fail
     refine (ishrt_no x g _ hs H1.out _ HD.out).mono ?_
     rintro e w2 ⟨rfl, hg⟩
     have HGx := hide (grown_trans HG.out hg)
     clear hg
     go_wp2
     exact ⟨rfl, HGx.out, Or.inl ⟨rfl, HX.out⟩⟩
    | some a1 =>
     obtain ⟨s1, q1⟩ := a1
     cases h2 : rS x (q1 : Int) with
     | none =>
      have HX : Hid (rVs x p = none) := by
       show _ = _
       rw [HR.out]
       exact many_none (many_no HM.out (by unfold rVr; rw [h1]; dsimp only; rw [h2])) hlt
      have H1 := hide h1
      have H2 := hide h2
      clear h1 h2
      go_wp2_with fail
      refine (ishrt_yes x g _ hs s1 q1 H1.out _ HD.out).mono ?_
      rintro e w2 ⟨rfl, hd2, hg2⟩
      have HD2 := hide hd2
      have HO2 := hide (HO.out.keptG hg2 hgl)
      have HG2 := hide (grown_trans HG.out hg2)
      clear hd2 hg2
      go_wp2_with fail
      refine (ishrt_no x g _ hs H2.out _ HD2.out).mono ?_
      rintro e w3 ⟨rfl, hg⟩
      have HGx := hide (grown_trans HG2.out hg)
      clear hg
      go_wp2
      exact ⟨rfl, HGx.out, Or.inl ⟨rfl, HX.out⟩⟩
     | some a2 =>
      obtain ⟨s2, q2⟩ := a2
      cases h3 : rF x (q2 : Int) with
      | none =>
       have HX : Hid (rVs x p = none) := by
        show _ = _
        rw [HR.out]
        exact many_none (many_no HM.out (by unfold rVr; rw [h1]; dsimp only; rw [h2]; dsimp only; rw [h3])) hlt
       have H1 := hide h1
       have H2 := hide h2
       have H3 := hide h3
       clear h1 h2 h3
       go_wp2_with fail
       refine (ishrt_yes x g _ hs s1 q1 H1.out _ HD.out).mono ?_
       rintro e w2 ⟨rfl, hd2, hg2⟩
       have HD2 := hide hd2
       have HO2 := hide (HO.out.keptG hg2 hgl)
       have HG2 := hide (grown_trans HG.out hg2)
       clear hd2 hg2
       go_wp2_with fail
       refine (ishrt_yes x g _ hs s2 q2 H2.out _ HD2.out).mono ?_
       rintro e w3 ⟨rfl, hd3, hg3⟩
       have HD3 := hide hd3
       have HO3 := hide (HO2.out.keptG hg3 hgl)
       have HG3 := hide (grown_trans HG2.out hg3)
       clear hd3 hg3
       go_wp2_with fail
       refine (iflag_no x g _ hs H3.out _ HD3.out).mono ?_
       rintro e w4 ⟨rfl, hg⟩
       have HGx := hide (grown_trans HG3.out hg)
       clear hg
       go_wp2
       exact ⟨rfl, HGx.out, Or.inl ⟨rfl, HX.out⟩⟩
      | some a3 =>
       obtain ⟨f3, q3⟩ := a3
       cases h4 : rN x (q3 : Int) with
       | none =>
        have HX : Hid (rVs x p = none) := by
         show _ = _
         rw [HR.out]
         exact many_none (many_no HM.out (by unfold rVr; rw [h1]; dsimp only; rw [h2]; dsimp only; rw [h3]; dsimp only; rw [h4])) hlt
        have H1 := hide h1
        have H2 := hide h2
        have H3 := hide h3
        have H4 := hide h4
        clear h1 h2 h3 h4
        go_wp2_with fail
        refine (ishrt_yes x g _ hs s1 q1 H1.out _ HD.out).mono ?_
        rintro e w2 ⟨rfl, hd2, hg2⟩
        have HD2 := hide hd2
        have HO2 := hide (HO.out.keptG hg2 hgl)
        have HG2 := hide (grown_trans HG.out hg2)
        clear hd2 hg2
        go_wp2_with fail
        refine (ishrt_yes x g _ hs s2 q2 H2.out _ HD2.out).mono ?_
        rintro e w3 ⟨rfl, hd3, hg3⟩
        have HD3 := hide hd3
        have HO3 := hide (HO2.out.keptG hg3 hgl)
        have HG3 := hide (grown_trans HG2.out hg3)
        clear hd3 hg3
        go_wp2_with fail
        refine (iflag_yes x g _ hs f3 q3 H3.out _ HD3.out).mono ?_
        rintro e w4 ⟨rfl, hd4, hg4⟩
        have HD4 := hide hd4
        have HO4 := hide (HO3.out.keptG hg4 hgl)
        have HG4 := hide (grown_trans HG3.out hg4)
        clear hd4 hg4
        go_wp2_with fail
        refine (inum_no x g _ hs H4.out _ HD4.out).mono ?_
        rintro e w5 ⟨rfl, hg⟩
        have HGx := hide (grown_trans HG4.out hg)
        clear hg
        go_wp2
        exact ⟨rfl, HGx.out, Or.inl ⟨rfl, HX.out⟩⟩
       | some a4 =>
        obtain ⟨n4, q4⟩ := a4
        have HMn : Hid (many (rVr x) p1 (k + 1) = some (l ++ [(s1, s2, f3, (n4 : Int))], q4)) := many_yes HM.out (by unfold rVr; rw [h1]; dsimp only; rw [h2]; dsimp only; rw [h3]; dsimp only; rw [h4])
        have H1 := hide h1
        have H2 := hide h2
        have H3 := hide h3
        have H4 := hide h4
        clear h1 h2 h3 h4
        go_wp2_with fail
        refine (ishrt_yes x g _ hs s1 q1 H1.out _ HD.out).mono ?_
        rintro e w2 ⟨rfl, hd2, hg2⟩
        have HD2 := hide hd2
        have HO2 := hide (HO.out.keptG hg2 hgl)
        have HG2 := hide (grown_trans HG.out hg2)
        clear hd2 hg2
        go_wp2_with fail
        refine (ishrt_yes x g _ hs s2 q2 H2.out _ HD2.out).mono ?_
        rintro e w3 ⟨rfl, hd3, hg3⟩
        have HD3 := hide hd3
        have HO3 := hide (HO2.out.keptG hg3 hgl)
        have HG3 := hide (grown_trans HG2.out hg3)
        clear hd3 hg3
        go_wp2_with fail
        refine (iflag_yes x g _ hs f3 q3 H3.out _ HD3.out).mono ?_
        rintro e w4 ⟨rfl, hd4, hg4⟩
        have HD4 := hide hd4
        have HO4 := hide (HO3.out.keptG hg4 hgl)
        have HG4 := hide (grown_trans HG3.out hg4)
        clear hd4 hg4
        go_wp2_with fail
        refine (inum_yes x g _ hs n4 q4 H4.out _ HD4.out).mono ?_
        rintro e w5 ⟨rfl, hd5, hg5⟩
        have HD5 := hide hd5
        have HO5 := hide (HO4.out.keptG hg5 hgl)
        have HG5 := hide (grown_trans HG4.out hg5)
        clear hd5 hg5
        go_wp2_with (at_builtin; refine wpAppV rfl _ _ rfl (s1, s2, f3, (n4 : Int)) rfl HO5.out rfl hll HG5.out.size ?_)
        intro v' w' ho' hb'
        have HO9 := hide ho'
        have HD9 : Hid (Rd w' g x (q4 : Int)) := HD5.out.belowB hb' hgl
        have HG9 : Hid (w.grownBy w' (some g)) := grown_belowB HG5.out hb' (Nat.le_refl _)
        clear ho' hb'
        go_wp2
        go_roundw
        case rel => exact ⟨k + 1, q4, _, by omega, by go_num, HMn, HO9, HD9, HG9⟩
        case measure => simp [intOf]; omega
   ·have hlt' : ¬ (k : Int) < (n : Int) := by omega
    have hkn : k = n := by omega
    subst hkn
    have HX : Hid (rVs x p = some (l, q)) := HR.out.trans HM.out
    obtain ⟨a1, c1, rfl, _⟩ := HO.out.row
    go_wp2
    go_ret
    exact ⟨HG.out, Or.inr ⟨l, q, HX.out, hq, a1, c1, rfl, HO.out, HD.out⟩⟩

set_option maxRecDepth 100000 in
set_option maxHeartbeats 2000000 in
theorem its (x : ByteArray) (g : Nat) (p : Int) (hs : x.size ≤ 1048576) (w : World) (hd : Rd w g x p) :
  Calls Tryz.prog 113 #[.pointer (some ⟨g, 0, none⟩)] w fun e w' => w.grownBy w' (some g) ∧ ((e = .panicked PAN ∧ rTs x p = none) ∨ ∃ l q, rTs x p = some (l, q) ∧ q ≤ x.size ∧ ∃ ys a1 c1, e = .returned (.slice a1 ys.length c1) ∧ txs ys = l ∧ LLie w' w.heap.size w'.heap.size (.slice a1 ys.length c1) ys ∧ Rd w' g x (q : Int)) := by
 have HD : Hid (Rd w g x p) := hd
 have hgl := hd.lt
 clear hd
 cases hn : rN x p with
 | none =>
  have HR : Hid (rTs x p = none) := by show _ = _; unfold rTs; rw [hn]
  have HN := hide hn
  clear hn
  go_enter Tryz.func113, Tryz.ntmps113
  go_wp2_with (go_at_call 76; refine (inum_no x g p hs HN.out _ HD.out).mono ?_; rintro e w' ⟨rfl, hg⟩)
  exact ⟨rfl, hg, Or.inl ⟨rfl, HR.out⟩⟩
 | some r =>
  obtain ⟨n, p1⟩ := r
  have HR : Hid (rTs x p = many (rTx x) p1 n) := by show _ = _; unfold rTs; rw [hn]
  have hbn := rN_bd hn
  have hp1 : p1 ≤ x.size := hbn.2.2.1
  have hn9 : n ≤ 1000000000 := hbn.1
  have HN := hide hn
  clear hn hbn
  go_enter Tryz.func113, Tryz.ntmps113
  go_wp2_with (go_at_call 76; refine (inum_yes x g p hs n p1 HN.out _ HD.out).mono ?_; rintro e w1 ⟨rfl, hd1, hg1⟩)
  have HD1 := hide hd1
  have HG1 := hide hg1
  clear hd1 hg1 HD
  go_loopw [3, 6] (fun v t wr => ∃ (k q : Nat) (l : List Tx) (ys : List Ta), k ≤ n ∧ t = .int .i64 k ∧ Hid (many (rTx x) p1 k = some (l, q)) ∧ Hid (txs ys = l) ∧ Hid (LLie wr w.heap.size wr.heap.size v ys) ∧ Hid (Rd wr g x (q : Int)) ∧ Hid (w.grownBy wr (some g))) (fun _ t _ => n - (intOf t).toNat)
  case atStart => exact ⟨0, p1, [], [], Nat.zero_le _, rfl, rfl, rfl, ⟨Lies.of (GOwn.nil _ _), HG1.out.size⟩, HD1, HG1⟩
  case round =>
   clear HD1 HG1
   obtain ⟨k, q, l, ys, hk, rfl, HM, HY, HL, HD, HG⟩ := hrel
   obtain ⟨hl, hkq, hq⟩ := many_len hp1 rTx_bd HM.out
   have hln : ys.length ≤ 100000000 := by rw [← txs_len, HY.out]; omega
   clear hl hkq
   by_cases hlt : k < n
   ·have hlt' : (k : Int) < (n : Int) := by omega
    go_wp2_with fail
    refine (itx x g _ hs _ HD.out).mono ?_
    rintro e w2 ⟨hg, ⟨rfl, hx⟩ | ⟨t, q1, ra, rc, wa, wc, hx, hq1, rfl, hT, hd⟩⟩
    ·have HX : Hid (rTs x p = none) := by
      show _ = _
      rw [HR.out]
      exact many_none (many_no HM.out hx) hlt
     have HG2 := hide (grown_trans HG.out hg)
     clear hg hx
     go_wp2
     exact ⟨rfl, HG2.out, Or.inl ⟨rfl, HX.out⟩⟩
    ·have HMn : Hid (many (rTx x) p1 (k + 1) = some (l ++ [t], q1)) := many_yes HM.out hx
     have HZ := hide (grown_zn hg)
     have HG2 := hide (grown_trans HG.out hg)
     have HT := hide hT
     have HD2 := hide hd
     have O2 := hide (HL.out.own.own.keptG hg hgl)
     have hs2 : wr.heap.size ≤ w2.heap.size := hg.size
     have HSW : Hid (w.heap.size ≤ w2.heap.size) := HG2.out.size
     clear hg hx hT hd HM
     have HBK : Hid ((w2.alloc (.cells #[.int .i64 t.id, .int .i64 t.st, .int .i64 t.snap, .int .i64 t.cs, .slice ra t.rs.length rc, .slice wa t.ws.length wc, .bool t.out, .string t.nm] 38)).heap[w2.heap.size]? = some (.cells (encT.enc ⟨t, ra, rc, wa, wc⟩).toArray 38 (0, 0))) := heap_alloc_new w2 _
     have O2a := hide (O2.out.alloc (.cells #[.int .i64 t.id, .int .i64 t.st, .int .i64 t.snap, .int .i64 t.cs, .slice ra t.rs.length rc, .slice wa t.ws.length wc, .bool t.out, .string t.nm] 38))
     have hbb : w.heap.size ≤ (w2.alloc (.cells #[.int .i64 t.id, .int .i64 t.st, .int .i64 t.snap, .int .i64 t.cs, .slice ra t.rs.length rc, .slice wa t.ws.length wc, .bool t.out, .string t.nm] 38)).heap.size := by have := HSW.out; simp; omega
     go_wp2_with (at_builtin; refine wpAppK (E := encT) 40 38 104 _ Tryz.underlying40 Tryz.info38 rfl (by omega) rfl _ _ rfl ⟨t, ra, rc, wa, wc⟩ tone rfl O2a.out rfl HBK.out hln hbb ?_)
     intro g' cap w3 ho3 hg3 hg4 hlt3
     have HL3 : Hid (LLie w3 w.heap.size w3.heap.size (.slice (some ⟨g', 0, none⟩) (ys.length + 1) cap) (ys ++ [⟨t, ra, rc, wa, wc⟩])) := LLie.moreZ (y := ⟨t, ra, rc, wa, wc⟩) HL.out HZ.out hgl (Nat.le_refl _) hs2 HT.out ho3 hg3 hg4 rfl
     have hb3 : Below w.heap.size w2 w3 := (((belowRefl w2).alloc (Nat.le_refl _) _).mono HSW.out).trans ((Below.refl _ _).grown hg3 hbb (fun j hj => (World.ownsRow.lt O2a.out j hj).1))
     have HG3 : Hid (w.grownBy w3 (some g)) := grown_belowB HG2.out hb3 (Nat.le_refl _)
     have HD3 : Hid (Rd w3 g x (q1 : Int)) := HD2.out.belowB hb3 hgl
     have HY3 : Hid (txs (ys ++ [(⟨t, ra, rc, wa, wc⟩ : Ta)]) = l ++ [t]) := by show _ = _; rw [← HY.out]; simp [txs]
     clear ho3 hg3 hg4 hlt3 hb3 O2a O2 HBK HT HL HZ HSW hs2 hbb HG HD2 HG2 HY
     go_wp2
     go_roundw
     case rel => exact ⟨k + 1, q1, _, _, by omega, by go_num, HMn, HY3, HL3, HD3, HG3⟩
     case measure => simp [intOf]; omega
   ·have hlt' : ¬ (k : Int) < (n : Int) := by omega
    have hkn : k = n := by omega
    subst hkn
    have HX : Hid (rTs x p = some (l, q)) := HR.out.trans HM.out
    obtain ⟨a1, c1, rfl, _⟩ := HL.out.own.own.row
    go_wp2
    go_ret
    exact ⟨HG.out, Or.inr ⟨l, q, HX.out, hq, ys, a1, c1, rfl, HY.out, HL.out, HD.out⟩⟩

end Go.Proofs.YtpnnncfbodfnhaaGreatDoor

namespace Go.Proofs.YtpnnncfbodfnhaaGreatDoor
open Go.RowKit
open KM
attribute [local go_sem ↓] Go.wp_at_zero Go.wp_at_succ

def Keep5 (b : Nat) (w w' : World) : Prop := ∀ e0 cs T z, e0 ≠ b → T ≠ 5 → w.heap[e0]? = some (.cells cs T z) → w'.heap[e0]? = some (.cells cs T z)
theorem Keep5.trans {b : Nat} {w1 w2 w3 : World} (h : Keep5 b w1 w2) (k : Keep5 b w2 w3) : Keep5 b w1 w3 := fun e0 cs T z h1 h2 h3 => k e0 cs T z h1 h2 (h e0 cs T z h1 h2 h3)
theorem Keep5.below {b : Nat} {w w' : World} (h : Below w.heap.size w w') : Keep5 b w w' := fun e0 cs T z _ _ h3 => by
 rw [h.block e0 (Array.getElem?_eq_some_iff.1 h3).1]; exact h3
theorem Keep5.set (b k : Nat) (w : World) (v : Value) : Keep5 b w (w.setCell ⟨b, k, none⟩ v) := fun e0 cs T z h1 _ h3 => by
 rw [Below.heap_setCell _ _ _ _ (fun e => h1 e)]; exact h3
end Go.Proofs.YtpnnncfbodfnhaaGreatDoor

namespace Go.Proofs.YtpnnncfbodfnhaaGreatDoor
open Go.RowKit

theorem size_mk (l : List UInt8) : (⟨l.toArray⟩ : ByteArray).size = l.length := by simp [ByteArray.size]

end Go.Proofs.YtpnnncfbodfnhaaGreatDoor

namespace Go.Proofs.YtpnnncfbodfnhaaGreatDoor
open Go.RowKit
open KM
open VM
attribute [local go_sem ↓] Go.wp_at_zero Go.wp_at_succ

def shL (s : ByteArray) : List UInt8 := WM.varL s.size ++ s.data.toList
def bitL (b : Bool) : List UInt8 := if b then [1] else [0]
def rgL (rs : List Rg) : List UInt8 := rs.flatMap fun r => shL r.1 ++ shL r.2
def wrtL (ws : List Wt) : List UInt8 := ws.flatMap fun x => shL x.1 ++ (shL x.2.1 ++ bitL x.2.2)
def txL (t : Tx) : List UInt8 := WM.varL t.id.toNat ++ (WM.varL t.st.toNat ++ (WM.varL t.snap.toNat ++ (WM.varL t.cs.toNat ++ (WM.varL t.rs.length ++ (rgL t.rs ++ (WM.varL t.ws.length ++ (wrtL t.ws ++ (bitL t.out ++ shL t.nm))))))))
theorem var_len (n : Nat) (h : n ≤ 1000000000) : (WM.varL n).length ≤ 5 := WM.varL_len5 n (by omega)
theorem sh_len {s : ByteArray} (h : s.size ≤ 20000) : (shL s).length ≤ 20005 := by
 unfold shL
 rw [List.length_append]
 have := var_len s.size (by omega)
 have e : s.data.toList.length = s.size := Array.length_toList
 omega
theorem bit_len (b : Bool) : (bitL b).length = 1 := by cases b <;> rfl
theorem rg_len : ∀ rs : List Rg, (∀ r ∈ rs, r.1.size ≤ 20000 ∧ r.2.size ≤ 20000) → (rgL rs).length ≤ 40010 * rs.length
 | [], _ => by simp [rgL]
 | r :: rs, h => by
  have ih := rg_len rs (fun x hx => h x (List.mem_cons_of_mem _ hx))
  have h1 := sh_len (h r List.mem_cons_self).1
  have h2 := sh_len (h r List.mem_cons_self).2
  unfold rgL at ih ⊢
  rw [List.flatMap_cons, List.length_append, List.length_append, List.length_cons]; omega
theorem wt_len : ∀ ws : List Wt, (∀ x ∈ ws, x.1.size ≤ 20000 ∧ x.2.1.size ≤ 20000) → (wrtL ws).length ≤ 40011 * ws.length
 | [], _ => by simp [wrtL]
 | x :: ws, h => by
  have ih := wt_len ws (fun y hy => h y (List.mem_cons_of_mem _ hy))
  have h1 := sh_len (h x List.mem_cons_self).1
  have h2 := sh_len (h x List.mem_cons_self).2
  have h3 := bit_len x.2.2
  unfold wrtL at ih ⊢
  rw [List.flatMap_cons, List.length_append, List.length_append, List.length_append, List.length_cons]; omega
theorem rg_take {rs : List Rg} {k : Nat} (h : k < rs.length) : rgL (rs.take (k + 1)) = rgL (rs.take k) ++ (shL rs[k].1 ++ shL rs[k].2) := by
 unfold rgL
 rw [List.take_succ_eq_append_getElem h, List.flatMap_append]; simp
theorem wt_take {ws : List Wt} {k : Nat} (h : k < ws.length) : wrtL (ws.take (k + 1)) = wrtL (ws.take k) ++ (shL ws[k].1 ++ (shL ws[k].2.1 ++ bitL ws[k].2.2)) := by
 unfold wrtL
 rw [List.take_succ_eq_append_getElem h, List.flatMap_append]; simp

structure Wtr (w : World) (B b : Nat) (l : List UInt8) : Prop where
 is : Lib.IsBuilder 71 5 B b (bv l) w
 le : B ≤ w.heap.size
theorem bat_below {B b : Nat} {p : Value} {bs : List Value} {w w' : World} (h : Lib.BuilderAt 71 5 B b p bs w) (hb : Below w.heap.size w w') : Lib.BuilderAt 71 5 B b p bs w' := by
 have hlt := h.lt
 obtain ⟨h1, v, h2, h3, h4⟩ := h
 exact ⟨h1, v, by rw [hb.block b hlt]; exact h2, ownsBelow h3 hb, h4⟩
theorem Wtr.below {w w' : World} {B b : Nat} {l : List UInt8} (h : Wtr w B b l) (hb : Below w.heap.size w w') : Wtr w' B b l :=
 ⟨h.is.elim (fun x => Or.inl (bat_below x hb)) (fun x => Or.inr (bat_below x hb)), Nat.le_trans h.le hb.size⟩
theorem Wtr.new (w : World) : Wtr (w.alloc (.cells #[.pointer none, .slice none 0 0] 71)) w.heap.size w.heap.size [] := by
 refine ⟨Or.inl ⟨Nat.le_refl _, .slice none 0 0, ?_, World.ownsRow_nil _ _ _ _, by simp [Value.ownBlock]⟩, by simp⟩
 unfold World.alloc; simp
end Go.Proofs.YtpnnncfbodfnhaaGreatDoor

namespace Go.Proofs.YtpnnncfbodfnhaaGreatDoor
open Go.RowKit
open KM
open VM
attribute [local go_sem ↓] Go.wp_at_zero Go.wp_at_succ

theorem good_of' {xs : List Wt} (h : writesB xs = true) : xs.length ≤ 8 ∧ ∀ x ∈ xs, writeB x = true := by
 unfold writesB at h
 simp only [Bool.and_eq_true, decide_eq_true_eq] at h
 exact ⟨h.1, fun x hx => by obtain ⟨j, hj, rfl⟩ := List.getElem_of_mem hx; exact (h.2 j hj).1⟩
theorem grow_low {α : Type} {E : Enc α} {w w' : World} {a : Option Addr} {xs : List α} {B : Nat} (h : GRow E w a xs) (hb : Below B w w') (hl : ∀ b' off, a = some ⟨b', off, none⟩ → 0 < xs.length → b' < B) : GRow E w' a xs := fun h0 => by
 obtain ⟨b, off, rfl, hlt, hc⟩ := h h0
 have hB := hl b off rfl h0
 exact ⟨b, off, rfl, Nat.lt_of_lt_of_le hlt hb.size, fun j hj i hi => (hb.cell (p := ⟨b, off + j * E.size + i, none⟩) hB).trans (hc j hj i hi)⟩
structure Small (t : Tx) : Prop where
 i0 : 0 ≤ t.id
 i1 : t.id ≤ 9999
 s0 : 0 ≤ t.st
 s1 : t.st ≤ 3
 p0 : 0 ≤ t.snap
 p1 : t.snap ≤ 9999
 c0 : 0 ≤ t.cs
 c1 : t.cs ≤ 9999
 rl : t.rs.length ≤ 8
 rs : ∀ r ∈ t.rs, r.1.size ≤ 3 ∧ r.2.size ≤ 3
 wl : t.ws.length ≤ 8
 ws : ∀ x ∈ t.ws, x.1.size ≤ 3 ∧ x.2.1.size ≤ 12
 nm : t.nm.size ≤ 3
theorem key_small {s : ByteArray} (h : keyB s = true) : s.size ≤ 3 := by
 unfold keyB at h
 simp only [Bool.and_eq_true, decide_eq_true_eq] at h
 exact h.1.2
theorem empty_size {s : ByteArray} (h : s.toList.isEmpty = true) : s.size = 0 := by
 have e : s.toList = [] := List.isEmpty_iff.1 h
 rw [toList_data] at e
 have : s.data.toList.length = 0 := by rw [e]; rfl
 rw [Array.length_toList] at this
 exact this
theorem right_small {t : Tx} (h : txnB t = true) : Small t := by
 unfold txnB at h
 simp only [Bool.and_eq_true, decide_eq_true_eq] at h
 obtain ⟨⟨⟨⟨⟨⟨h1, h2⟩, h3⟩, h4⟩, h5⟩, h6⟩, h7⟩ := h
 unfold readsB at h6
 simp only [Bool.and_eq_true, decide_eq_true_eq, List.all_eq_true] at h6
 have hst : (0 ≤ t.st ∧ t.st ≤ 3) ∧ (0 ≤ t.cs ∧ t.cs ≤ 9999) ∧ t.nm.size ≤ 3 := by
  unfold stateB at h5
  simp only [Bool.or_eq_true, Bool.and_eq_true, decide_eq_true_eq] at h5
  rcases h5 with (h | h) | h
  ·have := empty_size h.2
   omega
  ·have := key_small h.2
   omega
  ·have := empty_size h.2
   omega
 have hw := good_of' h7
 refine ⟨by omega, h2, hst.1.1, hst.1.2, h3, h4, hst.2.1.1, hst.2.1.2, h6.1, fun r hr => ?_, hw.1, fun x hx => ?_, hst.2.2⟩
 ·have := h6.2 r hr
  unfold rangeB at this
  simp only [Bool.and_eq_true] at this
  exact ⟨key_small this.1.1, key_small this.1.2⟩
 ·have := hw.2 x hx
  unfold writeB at this
  simp only [Bool.and_eq_true, decide_eq_true_eq] at this
  exact ⟨key_small this.1.1, this.1.2⟩

def txtV (t : Tx) : Value := if txnB t = true then .tuple #[.string ⟨(txL t).toArray⟩, .bool true] else .tuple #[.string ⟨#[]⟩, .bool false]

end Go.Proofs.YtpnnncfbodfnhaaGreatDoor

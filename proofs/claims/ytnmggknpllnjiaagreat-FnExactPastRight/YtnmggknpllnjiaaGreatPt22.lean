/- Lists of versions that are put, right and seen: no Go. -/
import Derived.Test.YtnmggknpllnjiaaGreatPt21
import Derived.Test.YtnmggknpllnjiaaGreatPt19
import Derived.Test.YtnmggknpllnjiaaGreatPt18
import Derived.Test.YtnmggknpllnjiaaGreatPt01
import Derived.Shelf.LaysM
import Derived.Shelf.Strconv.Clone
import Derived.Test.YtnmggknpllnjiaaGreatProg
import Derived.Test.YtnmggknpllnjiaaGreatPt03
import Derived.Test.YtnmggknpllnjiaaGreatPt15
import Derived.Deep.AppendLies
import Derived.WalkSpells
import Derived.WalkLawsBesides
import Derived.Deep.QuietTactic
import Derived.BigQuiet
import Derived.Deep.RegionHeld3
import Derived.Deep.DrawnRows
import Derived.Sort.OwnSorted
import Derived.Lib.RowBridge
import Derived.Test.YtnmggknpllnjiaaGreatPt04
import Derived.Test.YtnmggknpllnjiaaGreatPt05
import Derived.Deep.RegionHeld
import Derived.Test.YtnmggknpllnjiaaGreatPt11
import Derived.Maps.OwnSet
import Derived.StringKeys
import Derived.Test.YtnmggknpllnjiaaGreatPt12
import Derived.Deep.Cut
namespace Go.Proofs.YtnmggknpllnjiaaGreat
open Go.RowKit
open KM
open VM
attribute [local go_sem ↓] Go.wp_at_zero Go.wp_at_succ

abbrev AscV (xs : List Vr) : Prop := xs.Pairwise fun a b => asc a b = true
def VsD (k : Int) (xs : List Vr) : Prop := (∀ x ∈ xs, verB x = true ∧ x.2.2.2 ≤ k ∧ x.1.size ≤ 3 ∧ x.2.1.size ≤ 3) ∧ AscV xs
theorem VsD.mono {k l : Int} {xs : List Vr} (h : VsD k xs) (hk : k ≤ l) : VsD l xs := ⟨fun x hx => by obtain ⟨a, b, c⟩ := h.1 x hx; exact ⟨a, by omega, c⟩, h.2⟩
theorem VsD.fit {k : Int} {xs : List Vr} (h : VsD k xs) : VFit xs := fun x hx => by obtain ⟨a, b, c, d⟩ := h.1 x hx; exact ⟨by omega, by omega⟩
end Go.Proofs.YtnmggknpllnjiaaGreat

namespace Go.Proofs.YtnmggknpllnjiaaGreat
open Go.RowKit
open KM
open VM

def viewB (m : List Rg) (r : Rg) : List Rg := m.filter fun c => inB r c.1
def AscC (m : List Rg) : Prop := m.Pairwise fun a b => lt a.1 b.1 = true
def putC (m : List Rg) (x : Wt) : List Rg := if x.2.2 = true then m.filter (fun c => !decide (c.1 = x.1)) else m.filter (fun c => lt c.1 x.1) ++ [(x.1, x.2.1)] ++ m.filter (fun c => lt x.1 c.1)
theorem ascC_put {m : List Rg} (h : AscC m) (x : Wt) : AscC (putC m x) := by
 unfold putC
 split
 ·exact h.filter _
 ·unfold AscC
  rw [List.pairwise_append, List.pairwise_append]
  refine ⟨⟨h.filter _, by simp, fun a ha b hb => ?_⟩, h.filter _, fun a ha b hb => ?_⟩
  ·rw [List.mem_singleton.1 hb]; exact (List.mem_filter.1 ha).2
  ·have hb' := (List.mem_filter.1 hb).2
   rcases List.mem_append.1 ha with ha | ha
   ·exact lt_tr _ _ _ (List.mem_filter.1 ha).2 hb'
   ·rw [List.mem_singleton.1 ha]; exact hb'
def playB (m : List Rg) (ws : List Wt) : List Rg := ws.foldl putC m
theorem play_asc {m : List Rg} (h : AscC m) : ∀ ws : List Wt, AscC (playB m ws) := fun ws => by
 induction ws generalizing m with
 | nil => exact h
 | cons x ws ih => exact ih (ascC_put h x)
def playL (l : List Tx) : List Rg := l.foldl (fun m t => playB m t.ws) []
theorem playL_snoc (l : List Tx) (t : Tx) : playL (l ++ [t]) = playB (playL l) t.ws := by simp [playL]
theorem snoc_ind {α : Type} {P : List α → Prop} (h0 : P []) (h1 : ∀ l x, P l → P (l ++ [x])) : ∀ l, P l := fun l => by
 have : ∀ r : List α, P r.reverse := fun r => by
  induction r with
  | nil => exact h0
  | cons x r ih => rw [List.reverse_cons]; exact h1 _ _ ih
 have h := this l.reverse
 rwa [List.reverse_reverse] at h
theorem playL_asc (l : List Tx) : AscC (playL l) := by
 refine snoc_ind (P := fun l => AscC (playL l)) List.Pairwise.nil (fun l t h => ?_) l
 rw [playL_snoc]
 exact play_asc h _
end Go.Proofs.YtnmggknpllnjiaaGreat

namespace Go.Proofs.YtnmggknpllnjiaaGreat
open Go.RowKit
open KM
attribute [local go_sem ↓] Go.wp_at_zero Go.wp_at_succ

theorem clone51 (s : ByteArray) (hs : s.size ≤ 281474976710656) (w : World) :
  Calls Tryz.prog 50 #[.string s] w fun e w' => e = .returned (.string s) ∧ Below w.heap.size w w' := by
 go_enter Tryz.func50, Tryz.ntmps50
 go_wp2_with fail
 refine (Tryz.stringslite_Clone s _ hs).mono ?_
 rintro e w1 ⟨rfl, hb1⟩
 go_wp2
 go_ret
 exact ⟨rfl, hb1⟩
theorem view_next (m : List Rg) (r : Rg) (k : Nat) (hk : k < m.length) : viewB (m.take (k + 1)) r = viewB (m.take k) r ++ (if inB r m[k].1 then [m[k]] else []) := by
 unfold viewB
 rw [List.take_add_one, List.getElem?_eq_getElem hk, List.filter_append]
 cases h : inB r m[k].1 <;> simp [h]
theorem view_len (m : List Rg) (r : Rg) (k : Nat) : (viewB (m.take k) r).length ≤ k := by
 unfold viewB
 refine Nat.le_trans (List.length_filter_le _ _) ?_
 rw [List.length_take]; omega
theorem bx_low {w w' : World} {b B : Nat} {cs : List Value} (h : Bx w b cs) (hb : Below B w w') (hlt : b < B) : Bx w' b cs := h.belowB hb hlt
theorem oneR {y : Rg} : ∀ u ∈ encR.enc y, u.oneCell' = true := oneP

set_option maxRecDepth 100000 in
set_option maxHeartbeats 4000000 in
theorem iview (ms : List Rg) (a : Option Addr) (c n : Nat) (rg : Rg) (hx : n = ms.length) (hn : n ≤ 1048576) (hfit : ∀ x ∈ ms, x.1.size ≤ 1048576 ∧ x.2.size ≤ 1048576) (w : World) (hp : GRow encR w a ms) :
  Calls Tryz.prog 28 #[.slice a n c, .agg #[.string rg.1, .string rg.2]] w fun e w' => ∃ (a1 : Option Addr) (c1 : Nat), e = .returned (.slice a1 (viewB ms rg).length c1) ∧ GOwn encR 83 w' w.heap.size (.slice a1 (viewB ms rg).length c1) (viewB ms rg) ∧ Below w.heap.size w w' := by
 have HP : Hid (GRow encR w a ms) := hp
 have HX : Hid (n = ms.length) := hx
 clear hp hx
 have X0 : Hid (Bx (w.alloc (.cells #[.string rg.1, .string rg.2] 69)) w.heap.size [.string rg.1, .string rg.2]) := Bx.new w [.string rg.1, .string rg.2] 69
 have HB0 : Hid (Below w.heap.size w (w.alloc (.cells #[.string rg.1, .string rg.2] 69))) := (belowRefl w).alloc (Nat.le_refl _) _
 go_enter Tryz.func28, Tryz.ntmps28
 go_wp2
 go_loopw [5, 10] (fun v s wr => ∃ k : Nat, k ≤ n ∧ s = .int .i64 k ∧ Hid (GOwn encR 83 wr (w.heap.size + 1) v (viewB (ms.take k) rg)) ∧ Hid (Bx wr w.heap.size [.string rg.1, .string rg.2]) ∧ Hid (Below w.heap.size w wr)) (fun _ s _ => n - (intOf s).toNat)
 case atStart => exact ⟨0, Nat.zero_le _, rfl, GOwn.nil _ _, X0, HB0⟩
 case round =>
  obtain ⟨k, hk, rfl, HO, HXr, HB⟩ := hrel
  by_cases hlt : k < n
  ·have hlt' : (k : Int) < (n : Int) := by omega
   have h0 : (0 : Int) ≤ (k : Int) := by omega
   have hkx : k < ms.length := by rw [← HX.out]; exact hlt
   obtain ⟨b, off, rfl, hbl, hc⟩ := (HP.out.below HB.out) (by omega)
   have r0 := (rat hc k hkx).1
   have r1 := (rat hc k hkx).2
   obtain ⟨b9, o9, e9, hbw, hc9⟩ := HP.out (by omega)
   cases e9
   clear hc9
   have HN := hide (view_next ms rg k hkx)
   have hvl : (viewB (ms.take k) rg).length ≤ 100000000 := Nat.le_trans (view_len ms rg k) (by omega)
   have HZ := hide (hfit ms[k] (List.getElem_mem hkx))
   obtain ⟨x, hx⟩ : ∃ x, x = ms[k] := ⟨_, rfl⟩
   rw [← hx] at r0 r1 HN HZ
   clear hx hkx hc
   have HB1 : Hid (Below w.heap.size w (wr.alloc (.cells #[.string x.1, .string x.2] 98))) := HB.out.alloc HB.out.size _
   have Y1 : Hid (Bx (wr.alloc (.cells #[.string x.1, .string x.2] 98)) wr.heap.size [.string x.1, .string x.2]) := Bx.new wr [.string x.1, .string x.2] 98
   have X1 : Hid (Bx (wr.alloc (.cells #[.string x.1, .string x.2] 98)) w.heap.size [.string rg.1, .string rg.2]) := HXr.out.alloc _
   have O1 := hide (HO.out.alloc (.cells #[.string x.1, .string x.2] 98))
   have HAw : Hid (∀ e, u5.ownBlock = some e → e < wr.heap.size) := fun e h => (World.ownsRow.lt HO.out e h).2
   go_upto_region 5 with fail
   clear r0 r1 HO HXr HB
   generalize (wr.alloc (.cells #[.string x.1, .string x.2] 98)) = w1 at *
   have y0 := Y1.out.c0
   have x0 := X1.out.c0
   have x1 := X1.out.c1
   cases hin : inB rg x.1
   ·rw [hin] at HN
    go_wp2_with fail
    refine (iin rg.1 rg.2 x.1 _).mono ?_
    rintro e w2 ⟨rfl, hb2⟩
    rw [show inB (rg.1, rg.2) x.1 = false from hin]
    have HB2 : Hid (Below w.heap.size w w2) := HB1.out.trans (hb2.mono HB1.out.size)
    have X2 : Hid (Bx w2 w.heap.size [.string rg.1, .string rg.2]) := X1.out.below hb2
    have O2 : Hid (GOwn encR 83 w2 (w.heap.size + 1) u5 (viewB (ms.take (k + 1)) rg)) := by
     show GOwn _ _ _ _ _ _
     rw [HN.out]
     simp only [Bool.false_eq_true, if_false, List.append_nil]
     exact O1.out.below hb2
    clear hb2 y0 x0 x1 hin HN
    go_wp2
    go_roundw
    case rel => exact ⟨k + 1, by omega, by go_num, O2, X2, HB2⟩
    case measure => simp [intOf]; omega
   ·rw [hin] at HN
    go_wp2_with fail
    refine (iin rg.1 rg.2 x.1 _).mono ?_
    rintro e w2 ⟨rfl, hb2⟩
    rw [show inB (rg.1, rg.2) x.1 = true from hin]
    have HB2 : Hid (Below w.heap.size w w2) := HB1.out.trans (hb2.mono HB1.out.size)
    have X2 : Hid (Bx w2 w.heap.size [.string rg.1, .string rg.2]) := X1.out.below hb2
    have Y2 : Hid (Bx w2 wr.heap.size [.string x.1, .string x.2]) := Y1.out.below hb2
    have O2 := hide (O1.out.below hb2)
    clear hb2 y0 x0 x1 hin
    have y0 := Y2.out.c0
    have y1 := Y2.out.c1
    go_wp2
    refine wp_region_held_drew (S := fun w' => w'.cell? ⟨wr.heap.size, 0, none⟩ = some (.string x.1) ∧ w'.cell? ⟨wr.heap.size, 1, none⟩ = some (.string x.2)) (by kernel_rfl) ⟨y0, y1⟩ (fun hHeld => ?_)
    (refine tk 0 ?_ rfl (Or.inl ⟨by rfl, ?_⟩) ?_; rotate_left; (focus (intro w h; (try dsimp only at h); go_simp; (try with_reducible rfl))); simp only [Act.put, tA, tB, tD, tE, tF])
    (refine tk 1 ?_ rfl (Or.inl ⟨by rfl, ?_⟩) ?_; rotate_left; (focus (intro w h; (try dsimp only at h); go_simp; (try with_reducible rfl))); simp only [Act.put, tA, tB, tC, tD, tE, tF])
    (refine tk 2 ?_ rfl (Or.inl ⟨by rfl, ?_⟩) ?_; rotate_left; (focus (intro w h; (try dsimp only at h); go_simp; (try with_reducible rfl))); simp only [Act.put, tA, tB, tC, tD, tE, tF])
    (refine tk 4 ?_ rfl (Or.inl ⟨by rfl, ?_⟩) ?_; rotate_left; (focus (intro w h; (try dsimp only at h); go_simp; (try with_reducible rfl))); simp only [Act.put, tA, tB, tC, tD, tE, tF])
    (refine tk 5 ?_ rfl (Or.inl ⟨by rfl, ?_⟩) ?_; rotate_left; (focus (intro w h; (try dsimp only at h); go_simp; (try with_reducible rfl))); simp only [Act.put, tA, tB, tC, tD, tE, tF])
    refine wpAnyH_ready (rs := [3]) (by kernel_rfl) (by simp) ?_
    refine AllReadyH.cons rfl (fun K hK => ?_) AllReadyH.nil
    go_simp
    go_wp2_with fail
    refine (clone51 x.1 (by have := HZ.out; omega) _).mono ?_
    rintro e w3 ⟨rfl, hb3⟩
    have hbu3 := undrew hb3
    have HB3 : Hid (Below w.heap.size w w3) := HB2.out.trans (hbu3.mono HB2.out.size)
    have X3 : Hid (Bx w3 w.heap.size [.string rg.1, .string rg.2]) := X2.out.below hbu3
    have Y3 : Hid (Bx w3 wr.heap.size [.string x.1, .string x.2]) := Y2.out.below hbu3
    have O3 := hide (O2.out.below hbu3)
    go_wp2_with fail
    refine hK.out _ _ ⟨Y3.out.c0, Y3.out.c1⟩ (fun hHeld3 => ?_)
    clear hK K hb3 hbu3
    refine wpAnyH_ready (rs := [6]) (by kernel_rfl) (by simp) ?_
    refine AllReadyH.cons rfl (fun K hK => ?_) AllReadyH.nil
    go_simp
    go_wp2_with fail
    refine (clone51 x.2 (by have := HZ.out; omega) _).mono ?_
    rintro e w4 ⟨rfl, hb4⟩
    have hbu4 := hb4
    have HB4 : Hid (Below w.heap.size w w4) := HB3.out.trans (hbu4.mono HB3.out.size)
    have X4 : Hid (Bx w4 w.heap.size [.string rg.1, .string rg.2]) := X3.out.below hbu4
    have Y4 : Hid (Bx w4 wr.heap.size [.string x.1, .string x.2]) := Y3.out.below hbu4
    have O4 := hide (O3.out.below hbu4)
    go_wp2_with fail
    refine hK.out _ _ ⟨Y4.out.c0, Y4.out.c1⟩ (fun hHeld4 => ?_)
    clear hK K hb4 hbu4
    (refine tk 7 ?_ rfl (Or.inl ⟨by rfl, ?_⟩) ?_; rotate_left; (focus (intro w h; (try dsimp only at h); go_simp; (try with_reducible rfl))); simp only [Act.put, tA, tB, tC, tD, tE, tF])
    have Y5 : Hid (Bx (w4.alloc (.cells #[.string x.1, .string x.2] 83)) wr.heap.size [.string x.1, .string x.2]) := Y4.out.alloc _
    have X5 : Hid (Bx (w4.alloc (.cells #[.string x.1, .string x.2] 83)) w.heap.size [.string rg.1, .string rg.2]) := X4.out.alloc _
    have O5 := hide (O4.out.alloc (.cells #[.string x.1, .string x.2] 83))
    have hxl := X4.out.lt
    refine wpAnyH_ready (rs := [8]) (by kernel_rfl) (by simp) ?_
    refine AllReadyH.cons rfl (fun K hK => ?_) AllReadyH.nil
    go_simp
    refine hK.out _ _ ⟨Y5.out.c0, Y5.out.c1⟩ (fun hHeld5 => ?_)
    clear hK K
    refine wpAnyH_ready (rs := [9]) (by kernel_rfl) (by simp) ?_
    refine AllReadyH.cons rfl (fun K hK => ?_) AllReadyH.nil
    refine stepAppK (E := encR) 66 83 32 _ Tryz.underlying66 Tryz.info83 rfl (by omega) rfl _ _ rfl (base := w.heap.size + 1) (v := u5) (xs := viewB (ms.take k) rg) x oneR rfl O5.out rfl (heap_alloc_new w4 _) hvl (by simp; omega) ?_
    intro g' cap' w6 ho6 hg6 hg7 hlt6
    have hb6 : Below (w.heap.size + 1) w4 w6 := ((Below.refl _ _).alloc (Nat.succ_le_of_lt hxl) _).trans ((Below.refl _ _).grown hg6 (by simp; omega) (fun j hj => (World.ownsRow.lt O5.out j hj).1))
    have HB6 : Hid (Below w.heap.size w w6) := HB4.out.trans (hb6.mono (Nat.le_succ _))
    have X6 : Hid (Bx w6 w.heap.size [.string rg.1, .string rg.2]) := bx_low X4.out hb6 (Nat.lt_succ_self _)
    have hyn : (Value.slice none 0 0).ownBlock = none := rfl
    have Y6 : Hid (Bx w6 wr.heap.size [.string x.1, .string x.2]) := bx_marked Y5.out hg6 (fun e => by have := (HAw.out _ e); omega)
    have O6 : Hid (GOwn encR 83 w6 (w.heap.size + 1) (.slice (some ⟨g', 0, none⟩) ((viewB (ms.take k) rg).length + 1) cap') (viewB (ms.take (k + 1)) rg)) := by
     show GOwn _ _ _ _ _ _
     rw [HN.out]
     exact ho6
    refine hK.out _ _ ⟨Y6.out.c0, Y6.out.c1⟩ (fun hHeld6 => ?_)
    clear hK K ho6 hg6 hg7 hlt6 hb6
    (refine tk 10 ?_ rfl (Or.inl ⟨by rfl, ?_⟩) ?_; rotate_left; (focus (intro w h; (try dsimp only at h); go_simp; (try with_reducible rfl))); simp only [Act.put, tA, tB, tC, tD, tE, tF])
    refine wpAnyH_done (by kernel_rfl) ?_ _
    clear y0 y1 HN
    go_wp2
    go_roundw
    case rel => exact ⟨k + 1, by omega, by go_num, O6, X6, HB6⟩
    case measure => simp [intOf]; omega
  ·have hd : ¬ (k : Int) < (n : Int) := by omega
   have ho := HO.out
   rw [List.take_of_length_le (by rw [← HX.out]; omega)] at ho
   obtain ⟨a1, c1, rfl, _⟩ := ho.row
   have O1 := hide (ho.mono (Nat.le_succ _))
   clear ho
   go_wp2
   go_ret
   exact ⟨a1, c1, rfl, O1.out, HB.out⟩

end Go.Proofs.YtnmggknpllnjiaaGreat

namespace Go.Proofs.YtnmggknpllnjiaaGreat
open Go.RowKit
open KM
open VM
attribute [local go_sem ↓] Go.wp_at_zero Go.wp_at_succ

theorem DonesD.take {ts : List Tx} {c : Nat} (h : DonesD ts c) (k : Nat) : DonesD (ts.take k) c :=
 ⟨fun t ht => h.each t (List.mem_of_mem_take ht), fun i hi => by rw [List.getElem_take]; exact h.ids i (by rw [List.length_take] at hi; omega), h.asc.sublist (List.take_sublist _ _)⟩
end Go.Proofs.YtnmggknpllnjiaaGreat

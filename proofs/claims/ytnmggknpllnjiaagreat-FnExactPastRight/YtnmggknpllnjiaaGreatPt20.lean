/- What chainOf does. -/
import Derived.Test.YtnmggknpllnjiaaGreatPt18
import Derived.Test.YtnmggknpllnjiaaGreatPt01
import Derived.Deep.LoopGhost
import Derived.Test.YtnmggknpllnjiaaGreatPt03
namespace Go.Proofs.YtnmggknpllnjiaaGreat
open Go.RowKit
open KM
open VM
attribute [local go_sem ↓] Go.wp_at_zero Go.wp_at_succ

def zV : Vr := (⟨#[]⟩, ⟨#[]⟩, false, 0)
theorem chn_first (w : World) : Chn ((w.alloc (.cells #[.string ⟨#[]⟩, .string ⟨#[]⟩, .bool false, .int .i64 0, .pointer none] 129)).alloc (.cells #[.pointer (some ⟨w.heap.size, 0, none⟩)] 131)) w.heap.size (w.heap.size + 1) ([] ++ [(w.heap.size, zV)]) := by
 have h1 : Bx (w.alloc (.cells #[.string ⟨#[]⟩, .string ⟨#[]⟩, .bool false, .int .i64 0, .pointer none] 129)) w.heap.size (ndc zV none) := Bx.new w (ndc zV none) 129
 have h2 := Bx.new (w.alloc (.cells #[.string ⟨#[]⟩, .string ⟨#[]⟩, .bool false, .int .i64 0, .pointer none] 129)) [.pointer (some ⟨w.heap.size, 0, none⟩)] 131
 rw [World.size_alloc] at h2
 refine ⟨h2, ⟨h1.alloc _, trivial⟩, by simp, by simp⟩
theorem fst_ne {w : World} {base c : Nat} {A : List Nd} {m : Nd} (h : Chn w base c (A ++ [m])) (b : Nat) (v : Vr) (hb : w.heap.size ≤ b) : (c :: (A ++ m :: [(b, v)]).map (·.1)).Nodup := by
 have e : (c :: (A ++ m :: [(b, v)]).map (·.1)) = (c :: (A ++ [m]).map (·.1)) ++ [b] := by simp
 rw [e, List.nodup_append]
 refine ⟨h.nd, by simp, fun x hx y hy => ?_⟩
 have := h.lt x hx
 simp at hy
 omega
theorem chn_more {w : World} {base c : Nat} {A : List Nd} {m : Nd} (h : Chn w base c (A ++ [m])) (hb : base ≤ w.heap.size) (v : Vr) :
  Chn (((w.alloc (.cells #[.string v.1, .string v.2.1, .bool v.2.2.1, .int .i64 v.2.2.2] 121)).alloc (.cells #[.string v.1, .string v.2.1, .bool v.2.2.1, .int .i64 v.2.2.2, .pointer none] 129)).setCell ⟨m.1, 4, none⟩ (.pointer (some ⟨w.heap.size + 1, 0, none⟩))) base c ((A ++ [m]) ++ [(w.heap.size + 1, v)]) := by
 have h1 := (h.below ((belowRefl w).alloc (Nat.le_refl _) (.cells #[.string v.1, .string v.2.1, .bool v.2.2.1, .int .i64 v.2.2.2] 121))).below ((belowRefl _).alloc (Nat.le_refl _) (.cells #[.string v.1, .string v.2.1, .bool v.2.2.1, .int .i64 v.2.2.2, .pointer none] 129))
 have h2 := Bx.new (w.alloc (.cells #[.string v.1, .string v.2.1, .bool v.2.2.1, .int .i64 v.2.2.2] 121)) (ndc v none) 129
 rw [World.size_alloc] at h2
 have h3 := h1.next (C := [(w.heap.size + 1, v)]) ⟨h2, trivial⟩ (fst_ne h (w.heap.size + 1) v (by omega)) (fun n hn => by rw [List.mem_singleton.1 hn]; show base ≤ w.heap.size + 1; omega)
 rw [List.append_assoc]
 exact h3

set_option maxRecDepth 100000 in
set_option maxHeartbeats 2000000 in
theorem chain45 (xs : List Vr) (a : Option Addr) (c : Nat) (hn : xs.length ≤ 100000000) (w : World) (hp : GRow encV w a xs) :
  Calls Tryz.prog 47 #[.slice a xs.length c] w fun e w' => e = .returned (.pointer (some ⟨w.heap.size + 1, 0, none⟩)) ∧ (∃ (r : Nat) (ns : List Nd), Chn w' w.heap.size (w.heap.size + 1) ((r, zV) :: ns) ∧ ns.map (·.2) = xs) ∧ Below w.heap.size w w' := by
 have HP : Hid (GRow encV w a xs) := hp
 clear hp
 have H0 : Hid (Chn ((w.alloc (.cells #[.string ⟨#[]⟩, .string ⟨#[]⟩, .bool false, .int .i64 0, .pointer none] 129)).alloc (.cells #[.pointer (some ⟨w.heap.size, 0, none⟩)] 131)) w.heap.size (w.heap.size + 1) ([] ++ [(w.heap.size, zV)])) := chn_first w
 have B0 : Hid (Below w.heap.size w ((w.alloc (.cells #[.string ⟨#[]⟩, .string ⟨#[]⟩, .bool false, .int .i64 0, .pointer none] 129)).alloc (.cells #[.pointer (some ⟨w.heap.size, 0, none⟩)] 131))) := ((belowRefl w).alloc (Nat.le_refl _) _).alloc (by simp) _
 go_enter Tryz.func47, Tryz.ntmps47
 go_wp2
 go_loopw [4, 17] (fun t4 t wr => ∃ (k : Nat) (A : List Nd) (m : Nd), k ≤ xs.length ∧ t = .int .i64 k ∧ t4 = .pointer (some ⟨m.1, 0, none⟩) ∧ Hid (Chn wr w.heap.size (w.heap.size + 1) (A ++ [m])) ∧ Hid ((A ++ [m]).map (·.2) = zV :: xs.take k) ∧ Hid (Below w.heap.size w wr)) (fun _ t _ => xs.length - (intOf t).toNat)
 case atStart => exact ⟨0, [], (w.heap.size, zV), Nat.zero_le _, rfl, rfl, H0, rfl, B0⟩
 case round =>
  obtain ⟨k, A, m, hk, rfl, rfl, HC, HV, HB⟩ := hrel
  by_cases hlt : k < xs.length
  ·have hlt' : (k : Int) < (xs.length : Int) := by omega
   have h0 : (0 : Int) ≤ (k : Int) := by omega
   obtain ⟨b, off, rfl, hbl, hc⟩ := (HP.out.below HB.out) (by omega)
   have c0 := (vat hc k hlt).1
   have c1 := (vat hc k hlt).2.1
   have c2 := (vat hc k hlt).2.2.1
   have c3 := (vat hc k hlt).2.2.2
   clear hc
   have m4 := HC.out.at'.c4
   have mf := HC.out.at'.fz
   have mlt := HC.out.at'.lt
   simp only [ptq_nil] at m4
   have HC2 : Hid (Chn (((wr.setCell ⟨m.1, 4, none⟩ (.pointer (some ⟨wr.heap.size + 1, 0, none⟩))).alloc (.cells #[.string xs[k].1, .string xs[k].2.1, .bool xs[k].2.2.1, .int .i64 xs[k].2.2.2] 121)).alloc (.cells #[.string xs[k].1, .string xs[k].2.1, .bool xs[k].2.2.1, .int .i64 xs[k].2.2.2, .pointer none] 129)) w.heap.size (w.heap.size + 1) ((A ++ [m]) ++ [(wr.heap.size + 1, xs[k])])) := by
    have h := chn_more HC.out HB.out.size xs[k]
    rw [World.setCell_alloc_past _ _ _ _ (by simp; omega), World.setCell_alloc_past _ _ _ _ mlt] at h
    exact h
   have HV2 : Hid (((A ++ [m]) ++ [(wr.heap.size + 1, xs[k])]).map (·.2) = zV :: xs.take (k + 1)) := by
    show _ = _
    rw [List.map_append, HV.out, List.take_succ_eq_append_getElem hlt]; rfl
   have HB2 : Hid (Below w.heap.size w (((wr.setCell ⟨m.1, 4, none⟩ (.pointer (some ⟨wr.heap.size + 1, 0, none⟩))).alloc (.cells #[.string xs[k].1, .string xs[k].2.1, .bool xs[k].2.2.1, .int .i64 xs[k].2.2.2] 121)).alloc (.cells #[.string xs[k].1, .string xs[k].2.1, .bool xs[k].2.2.1, .int .i64 xs[k].2.2.2, .pointer none] 129))) := by
    have hs : w.heap.size ≤ (wr.setCell ⟨m.1, 4, none⟩ (.pointer (some ⟨wr.heap.size + 1, 0, none⟩))).heap.size := by simpa [World.setCell] using HB.out.size
    exact ((HB.out.setCell (HC.out.lo m.1 (by simp)) _).alloc hs _).alloc (by rw [World.size_alloc]; omega) _
   go_wp2
   go_roundw
   case rel => exact ⟨k + 1, A ++ [m], _, by omega, by go_num, rfl, HC2, HV2, HB2⟩
   case measure => simp [intOf]; omega
  ·have hlt' : ¬ (k : Int) < (xs.length : Int) := by omega
   have HE : Hid (∃ (r : Nat) (ns : List Nd), Chn wr w.heap.size (w.heap.size + 1) ((r, zV) :: ns) ∧ ns.map (·.2) = xs) := by
    have hv := HV.out
    have hc := HC.out
    rw [List.take_of_length_le (by omega)] at hv
    show ∃ _ _, _
    cases hl : A ++ [m] with
    | nil => simp at hl
    | cons x l =>
     rw [hl] at hv hc
     simp only [List.map_cons, List.cons.injEq] at hv
     obtain ⟨r, v⟩ := x
     have e : v = zV := hv.1
     subst e
     exact ⟨r, l, hc, hv.2⟩
   go_wp2
   go_ret
   exact ⟨rfl, HE.out, HB.out⟩
end Go.Proofs.YtnmggknpllnjiaaGreat

namespace Go.Proofs.YtnmggknpllnjiaaGreat
open Go.RowKit
open KM
open VM
attribute [local go_sem ↓] Go.wp_at_zero Go.wp_at_succ

def ptO (o : Option Nd) : Option Addr := o.map fun n => ⟨n.1, 0, none⟩
theorem ptO_none : ptO none = none := rfl
theorem ptO_some (n : Nd) : ptO (some n) = some ⟨n.1, 0, none⟩ := rfl
theorem seg_at {w : World} {base c : Nat} {r : Nd} {ns A B : List Nd} {n : Nd} (h : Chn w base c (r :: ns)) (e : ns = A ++ n :: B) : Bx w n.1 (ndc n.2 (ptq B none)) := by
 subst e
 exact Chn.at' (A := r :: A) (by simpa using h)
theorem step_no {k : ByteArray} {s : Int} {a : Option Nd} {n : Nd} (h : isOf k s n.2 = false) : stp k s a n = a := by unfold stp; rw [h]; simp
theorem step_less {k : ByteArray} {s : Int} {m n : Nd} (h : ¬ m.2.2.2.2 < n.2.2.2.2) : stp k s (some m) n = some m := by
 unfold stp
 rw [if_neg]
 simp [more]
 intro _; omega
theorem step_yes {k : ByteArray} {s : Int} {a : Option Nd} {n : Nd} (h : isOf k s n.2 = true) (h2 : more a n = true) : stp k s a n = some n := by unfold stp; rw [h, h2]; rfl
theorem isOf_key {k : ByteArray} {s : Int} {v : Vr} (h : (v.1.toList == k.toList) = false) : isOf k s v = false := by
 rw [beq_text] at h
 unfold isOf
 rw [h]; rfl
theorem isOf_cs {k : ByteArray} {s : Int} {v : Vr} (h : s < v.2.2.2) : isOf k s v = false := by
 unfold isOf
 rw [decide_eq_false (by omega : ¬ v.2.2.2 ≤ s), Bool.and_false]
theorem isOf_yes {k : ByteArray} {s : Int} {v : Vr} (h : (v.1.toList == k.toList) = true) (h2 : ¬ s < v.2.2.2) : isOf k s v = true := by
 rw [beq_text] at h
 unfold isOf
 rw [h, decide_eq_true (by omega : v.2.2.2 ≤ s)]; rfl

set_option maxRecDepth 100000 in
set_option maxHeartbeats 2000000 in
theorem last48 (k : ByteArray) (s : Int) (base c : Nat) (r : Nd) (ns : List Nd) (w : World) (hc : Chn w base c (r :: ns)) :
  Calls Tryz.prog 66 #[.pointer (some ⟨c, 0, none⟩), .string k, .int .i64 s] w fun e w' => e = .returned (.pointer (ptO (lst k s ns))) ∧ Below w.heap.size w w' := by
 have HC : Hid (Chn w base c (r :: ns)) := hc
 have b0 := hc.bx.c0
 have r4 := (Chn.at' (A := []) hc).c4
 simp only [ptq_cons] at b0
 clear hc
 obtain ⟨u0, hu0⟩ : ∃ u, u = ptq ns none := ⟨_, rfl⟩
 rw [← hu0] at r4
 have HU : Hid (u0 = ptq ns none) := hu0
 clear hu0
 go_enter Tryz.func66, Tryz.ntmps66
 go_wp2
 clear b0 r4
 go_loopg [7, 8] ns.length (fun g t7 t8 wr => ∃ A B : List Nd, Hid (ns = A ++ B) ∧ Hid (B.length = g) ∧ t7 = .pointer (ptO (lst k s A)) ∧ t8 = .pointer (ptq B none) ∧ Hid (Below w.heap.size w wr))
 case atStart => exact ⟨[], ns, rfl, rfl, rfl, by rw [HU.out], belowRefl w⟩
 case round =>
  obtain ⟨A, B, HE, HG, h7, h8, HB⟩ := hrel
  cases B with
  | nil =>
   rw [ptq_nil] at h8
   have HE2 : Hid (lst k s A = lst k s ns) := by show _ = _; rw [HE.out, List.append_nil]
   obtain ⟨o, ho⟩ : ∃ o, o = ptO (lst k s A) := ⟨_, rfl⟩
   rw [← ho] at h7
   have HO : Hid (ptO (lst k s ns) = o) := by show _ = _; rw [ho, HE2.out]
   clear ho
   subst h7 h8
   go_wp2
   go_ret
   exact ⟨by rw [HO.out]; rfl, HB.out⟩
  | cons n B =>
   rw [ptq_cons] at h8
   have hx := seg_at (HC.out.below HB.out) HE.out
   have n0 := hx.c0
   have n3 := hx.c3
   have n4 := hx.c4
   clear hx
   obtain ⟨q, hq⟩ : ∃ q, q = ptq B none := ⟨_, rfl⟩
   rw [← hq] at n4
   have HQ : Hid (Value.pointer q = .pointer (ptq B none)) := by show _ = _; rw [hq]
   clear hq
   have HE2 : Hid (ns = (A ++ [n]) ++ B) := by show _ = _; rw [HE.out]; simp
   have HG2 : Hid (B.length < gk) := by show _ < _; rw [← HG.out]; simp
   cases hk : (n.2.1.toList == k.toList)
   ·have hk2 : (!(n.2.1.toList == k.toList)) = true := by rw [hk]; rfl
    obtain ⟨o, ho⟩ : ∃ o, o = ptO (lst k s A) := ⟨_, rfl⟩
    rw [← ho] at h7
    have HO : Hid (o = ptO (lst k s A)) := ho
    clear ho
    subst h7 h8
    have HS : Hid (Value.pointer o = .pointer (ptO (lst k s (A ++ [n])))) := by show _ = _; rw [lst_snoc, step_no (isOf_key hk), ← HO.out]
    go_wp2
    go_roundg B.length
    case measure => exact HG2.out
    case rel => exact ⟨A ++ [n], B, HE2, rfl, HS.out, HQ.out, HB.out⟩
   ·have hk2 : (!(n.2.1.toList == k.toList)) = false := by rw [hk]; rfl
    by_cases hs : s < n.2.2.2.2
    ·obtain ⟨o, ho⟩ : ∃ o, o = ptO (lst k s A) := ⟨_, rfl⟩
     rw [← ho] at h7
     have HO : Hid (o = ptO (lst k s A)) := ho
     clear ho
     subst h7 h8
     have HS : Hid (Value.pointer o = .pointer (ptO (lst k s (A ++ [n])))) := by show _ = _; rw [lst_snoc, step_no (isOf_cs hs), ← HO.out]
     go_wp2
     go_roundg B.length
     case measure => exact HG2.out
     case rel => exact ⟨A ++ [n], B, HE2, rfl, HS.out, HQ.out, HB.out⟩
    ·have hs' : decide (s < n.2.2.2.2) = false := by simpa using hs
     have HI : Hid (isOf k s n.2 = true) := isOf_yes hk hs
     clear hs
     cases hl : lst k s A with
     | none =>
      rw [hl, ptO_none] at h7
      subst h7 h8
      have HS : Hid (Value.pointer (some ⟨n.1, 0, none⟩) = .pointer (ptO (lst k s (A ++ [n])))) := by show _ = _; rw [lst_snoc, hl, step_yes HI.out rfl]; rfl
      clear hl
      go_wp2
      refine wp_region_held_drew (S := fun w' => w'.cell? ⟨n.1, 3, none⟩ = some (.int .i64 n.2.2.2.2)) (by kernel_rfl) n3 (fun hHeld => ?_)
      (refine tk 0 ?_ rfl (Or.inl ⟨by rfl, ?_⟩) ?_; rotate_left; (focus (intro w h; (try dsimp only at h); go_simp; (try with_reducible rfl))); simp only [Act.put, tA, tB, tD, tE, tF])
      (refine tk 1 ?_ rfl (Or.inl ⟨by rfl, ?_⟩) ?_; rotate_left; (focus (intro w h; (try dsimp only at h); go_simp; (try with_reducible rfl))); simp only [Act.put, tA, tB, tC, tD, tE, tF])
      (refine tk 2 ?_ rfl (Or.inl ⟨by rfl, ?_⟩) ?_; rotate_left; (focus (intro w h; (try dsimp only at h); go_simp; (try with_reducible rfl))); simp only [Act.put, tA, tB, tC, tD, tE, tF])
      (refine tk 3 undef rfl (Or.inr ⟨by rfl, rfl⟩) ?_; simp only [Act.put, tA, tB, tC, tD, tE, tF])
      (refine tk 4 undef rfl (Or.inr ⟨by rfl, rfl⟩) ?_; simp only [Act.put, tA, tB, tC, tD, tE, tF])
      (refine tk 5 undef rfl (Or.inr ⟨by rfl, rfl⟩) ?_; simp only [Act.put, tA, tB, tC, tD, tE, tF])
      (refine tk 6 undef rfl (Or.inr ⟨by rfl, rfl⟩) ?_; simp only [Act.put, tA, tB, tC, tD, tE, tF])
      (refine tk 7 undef rfl (Or.inr ⟨by rfl, rfl⟩) ?_; simp only [Act.put, tA, tB, tC, tD, tE, tF])
      (refine tk 8 undef rfl (Or.inr ⟨by rfl, rfl⟩) ?_; simp only [Act.put, tA, tB, tC, tD, tE, tF])
      (refine tk 9 undef rfl (Or.inr ⟨by rfl, rfl⟩) ?_; simp only [Act.put, tA, tB, tC, tD, tE, tF])
      (refine tk 10 undef rfl (Or.inr ⟨by rfl, rfl⟩) ?_; simp only [Act.put, tA, tB, tC, tD, tE, tF])
      (refine tk 11 undef rfl (Or.inr ⟨by rfl, rfl⟩) ?_; simp only [Act.put, tA, tB, tC, tD, tE, tF])
      (refine tk 12 undef rfl (Or.inr ⟨by rfl, rfl⟩) ?_; simp only [Act.put, tA, tB, tC, tD, tE, tF])
      (refine tk 13 undef rfl (Or.inr ⟨by rfl, rfl⟩) ?_; simp only [Act.put, tA, tB, tC, tD, tE, tF])
      (refine tk 14 ?_ rfl (Or.inl ⟨by rfl, ?_⟩) ?_; rotate_left; (focus (intro w h; (try dsimp only at h); go_simp; (try with_reducible rfl))); simp only [Act.put, tA, tB, tC, tD, tE, tF])
      refine wpAnyH_done (by kernel_rfl) ?_ _
      go_wp2
      go_roundg B.length
      case measure => exact HG2.out
      case rel => exact ⟨A ++ [n], B, HE2, rfl, HS.out, HQ.out, HB.out.drew⟩
     | some m =>
      rw [hl, ptO_some] at h7
      subst h7 h8
      have hm : m ∈ r :: ns := by rw [HE.out]; simp [(lst_mem hl).1]
      obtain ⟨qm, hx⟩ := (HC.out.below HB.out).mem hm
      have m3 := hx.c3
      clear hx hm
      by_cases hc : m.2.2.2.2 < n.2.2.2.2
      ·have HS : Hid (Value.pointer (some ⟨n.1, 0, none⟩) = .pointer (ptO (lst k s (A ++ [n])))) := by show _ = _; rw [lst_snoc, hl, step_yes HI.out (by simpa [more] using hc)]; rfl
       clear hl
       go_wp2
       refine wp_region_held_drew (S := fun w' => w'.cell? ⟨n.1, 3, none⟩ = some (.int .i64 n.2.2.2.2) ∧ w'.cell? ⟨m.1, 3, none⟩ = some (.int .i64 m.2.2.2.2)) (by kernel_rfl) ⟨n3, m3⟩ (fun hHeld => ?_)
       (refine tk 0 ?_ rfl (Or.inl ⟨by rfl, ?_⟩) ?_; rotate_left; (focus (intro w h; (try dsimp only at h); go_simp; (try with_reducible rfl))); simp only [Act.put, tA, tB, tD, tE, tF])
       (refine tk 1 ?_ rfl (Or.inl ⟨by rfl, ?_⟩) ?_; rotate_left; (focus (intro w h; (try dsimp only at h); go_simp; (try with_reducible rfl))); simp only [Act.put, tA, tB, tC, tD, tE, tF])
       (refine tk 2 ?_ rfl (Or.inl ⟨by rfl, ?_⟩) ?_; rotate_left; (focus (intro w h; (try dsimp only at h); go_simp; (try with_reducible rfl))); simp only [Act.put, tA, tB, tC, tD, tE, tF])
       (refine tk 3 ?_ rfl (Or.inl ⟨by rfl, ?_⟩) ?_; rotate_left; (focus (intro w h; (try dsimp only at h); go_simp; (try with_reducible rfl))); simp only [Act.put, tA, tB, tC, tD, tE, tF])
       (refine tk 4 ?_ rfl (Or.inl ⟨by rfl, ?_⟩) ?_; rotate_left; (focus (intro w h; (try dsimp only at h); go_simp; (try with_reducible rfl))); simp only [Act.put, tA, tB, tC, tD, tE, tF])
       (refine tk 5 ?_ rfl (Or.inl ⟨by rfl, ?_⟩) ?_; rotate_left; (focus (intro w h; (try dsimp only at h); go_simp; (try with_reducible rfl))); simp only [Act.put, tA, tB, tC, tD, tE, tF])
       (refine tk 6 ?_ rfl (Or.inl ⟨by rfl, ?_⟩) ?_; rotate_left; (focus (intro w h; (try dsimp only at h); go_simp; (try with_reducible rfl))); simp only [Act.put, tA, tB, tC, tD, tE, tF])
       (refine tk 7 ?_ rfl (Or.inl ⟨by rfl, ?_⟩) ?_; rotate_left; (focus (intro w h; (try dsimp only at h); go_simp; (try with_reducible rfl))); simp only [Act.put, tA, tB, tC, tD, tE, tF])
       (refine tk 8 ?_ rfl (Or.inl ⟨by rfl, ?_⟩) ?_; rotate_left; (focus (intro w h; (try dsimp only at h); go_simp; (try with_reducible rfl))); simp only [Act.put, tA, tB, tC, tD, tE, tF])
       (refine tk 9 ?_ rfl (Or.inl ⟨by rfl, ?_⟩) ?_; rotate_left; (focus (intro w h; (try dsimp only at h); go_simp; (try with_reducible rfl))); simp only [Act.put, tA, tB, tC, tD, tE, tF])
       (refine tk 10 ?_ rfl (Or.inl ⟨by rfl, ?_⟩) ?_; rotate_left; (focus (intro w h; (try dsimp only at h); go_simp; (try with_reducible rfl))); simp only [Act.put, tA, tB, tC, tD, tE, tF])
       (refine tk 11 ?_ rfl (Or.inl ⟨by rfl, ?_⟩) ?_; rotate_left; (focus (intro w h; (try dsimp only at h); go_simp; (try with_reducible rfl))); simp only [Act.put, tA, tB, tC, tD, tE, tF])
       (refine tk 12 ?_ rfl (Or.inl ⟨by rfl, ?_⟩) ?_; rotate_left; (focus (intro w h; (try dsimp only at h); go_simp; (try with_reducible rfl))); simp only [Act.put, tA, tB, tC, tD, tE, tF])
       (refine tk 13 ?_ rfl (Or.inl ⟨by rfl, ?_⟩) ?_; rotate_left; (focus (intro w h; (try dsimp only at h); go_simp; (try with_reducible rfl))); simp only [Act.put, tA, tB, tC, tD, tE, tF])
       (refine tk 14 ?_ rfl (Or.inl ⟨by rfl, ?_⟩) ?_; rotate_left; (focus (intro w h; (try dsimp only at h); go_simp; (try with_reducible rfl))); simp only [Act.put, tA, tB, tC, tD, tE, tF])
       refine wpAnyH_done (by kernel_rfl) ?_ _
       go_wp2
       go_roundg B.length
       case measure => exact HG2.out
       case rel => exact ⟨A ++ [n], B, HE2, rfl, HS.out, HQ.out, HB.out.drew⟩
      ·have HS : Hid (Value.pointer (some ⟨m.1, 0, none⟩) = .pointer (ptO (lst k s (A ++ [n])))) := by show _ = _; rw [lst_snoc, hl, step_less hc]; rfl
       have hc' : decide (m.2.2.2.2 < n.2.2.2.2) = false := by simpa using hc
       clear hl hc
       go_wp2
       refine wp_region_held_drew (S := fun w' => w'.cell? ⟨n.1, 3, none⟩ = some (.int .i64 n.2.2.2.2) ∧ w'.cell? ⟨m.1, 3, none⟩ = some (.int .i64 m.2.2.2.2)) (by kernel_rfl) ⟨n3, m3⟩ (fun hHeld => ?_)
       (refine tk 0 ?_ rfl (Or.inl ⟨by rfl, ?_⟩) ?_; rotate_left; (focus (intro w h; (try dsimp only at h); go_simp; (try with_reducible rfl))); simp only [Act.put, tA, tB, tD, tE, tF])
       (refine tk 1 ?_ rfl (Or.inl ⟨by rfl, ?_⟩) ?_; rotate_left; (focus (intro w h; (try dsimp only at h); go_simp; (try with_reducible rfl))); simp only [Act.put, tA, tB, tC, tD, tE, tF])
       (refine tk 2 ?_ rfl (Or.inl ⟨by rfl, ?_⟩) ?_; rotate_left; (focus (intro w h; (try dsimp only at h); go_simp; (try with_reducible rfl))); simp only [Act.put, tA, tB, tC, tD, tE, tF])
       (refine tk 3 ?_ rfl (Or.inl ⟨by rfl, ?_⟩) ?_; rotate_left; (focus (intro w h; (try dsimp only at h); go_simp; (try with_reducible rfl))); simp only [Act.put, tA, tB, tC, tD, tE, tF])
       (refine tk 4 ?_ rfl (Or.inl ⟨by rfl, ?_⟩) ?_; rotate_left; (focus (intro w h; (try dsimp only at h); go_simp; (try with_reducible rfl))); simp only [Act.put, tA, tB, tC, tD, tE, tF])
       (refine tk 5 ?_ rfl (Or.inl ⟨by rfl, ?_⟩) ?_; rotate_left; (focus (intro w h; (try dsimp only at h); go_simp; (try with_reducible rfl))); simp only [Act.put, tA, tB, tC, tD, tE, tF])
       (refine tk 6 ?_ rfl (Or.inl ⟨by rfl, ?_⟩) ?_; rotate_left; (focus (intro w h; (try dsimp only at h); go_simp; (try with_reducible rfl))); simp only [Act.put, tA, tB, tC, tD, tE, tF])
       (refine tk 7 ?_ rfl (Or.inl ⟨by rfl, ?_⟩) ?_; rotate_left; (focus (intro w h; (try dsimp only at h); go_simp; (try with_reducible rfl))); simp only [Act.put, tA, tB, tC, tD, tE, tF])
       (refine tk 8 ?_ rfl (Or.inl ⟨by rfl, ?_⟩) ?_; rotate_left; (focus (intro w h; (try dsimp only at h); go_simp; (try with_reducible rfl))); simp only [Act.put, tA, tB, tC, tD, tE, tF])
       (refine tk 9 ?_ rfl (Or.inl ⟨by rfl, ?_⟩) ?_; rotate_left; (focus (intro w h; (try dsimp only at h); go_simp; (try with_reducible rfl))); simp only [Act.put, tA, tB, tC, tD, tE, tF])
       (refine tk 10 ?_ rfl (Or.inl ⟨by rfl, ?_⟩) ?_; rotate_left; (focus (intro w h; (try dsimp only at h); go_simp; (try with_reducible rfl))); simp only [Act.put, tA, tB, tC, tD, tE, tF])
       (refine tk 11 ?_ rfl (Or.inl ⟨by rfl, ?_⟩) ?_; rotate_left; (focus (intro w h; (try dsimp only at h); go_simp; (try with_reducible rfl))); simp only [Act.put, tA, tB, tC, tD, tE, tF])
       (refine tk 12 ?_ rfl (Or.inl ⟨by rfl, ?_⟩) ?_; rotate_left; (focus (intro w h; (try dsimp only at h); go_simp; (try with_reducible rfl))); simp only [Act.put, tA, tB, tC, tD, tE, tF])
       (refine tk 13 ?_ rfl (Or.inl ⟨by rfl, ?_⟩) ?_; rotate_left; (focus (intro w h; (try dsimp only at h); go_simp; (try with_reducible rfl))); simp only [Act.put, tA, tB, tC, tD, tE, tF])
       (refine tk 14 ?_ rfl (Or.inl ⟨by rfl, ?_⟩) ?_; rotate_left; (focus (intro w h; (try dsimp only at h); go_simp; (try with_reducible rfl))); simp only [Act.put, tA, tB, tC, tD, tE, tF])
       refine wpAnyH_done (by kernel_rfl) ?_ _
       go_wp2
       go_roundg B.length
       case measure => exact HG2.out
       case rel => exact ⟨A ++ [n], B, HE2, rfl, HS.out, HQ.out, HB.out.drew⟩
end Go.Proofs.YtnmggknpllnjiaaGreat

namespace Go.Proofs.YtnmggknpllnjiaaGreat
open Go.RowKit
open KM
open VM
attribute [local go_sem ↓] Go.wp_at_zero Go.wp_at_succ

set_option maxHeartbeats 400000 in
theorem clone49 (s : ByteArray) (hs : s.size ≤ 281474976710656) (w : World) :
  Calls Tryz.prog 50 #[.string s] w fun e w' => e = .returned (.string s) ∧ Below w.heap.size w w' := by
 go_enter Tryz.func50, Tryz.ntmps50
 go_wp2_with (go_at_call 67; refine (Tryz.stringslite_Clone s _ hs).mono ?_; rintro e w2 ⟨rfl, hb2⟩)
 go_ret
 exact ⟨rfl, hb2⟩

def sawB (o : Option ByteArray) : Value := .tuple #[.string (o.getD ⟨#[]⟩), .bool o.isSome]
theorem sawB_none : sawB none = .tuple #[.string ⟨#[]⟩, .bool false] := rfl
theorem sawB_some (x : ByteArray) : sawB (some x) = .tuple #[.string x, .bool true] := rfl
theorem seen_none {k : ByteArray} {s : Int} {ns : List Nd} {vs : List Vr} (h : ns.map (·.2) = vs) (hl : lst k s ns = none) : seenB vs k s = none := by
 have := seenV_of (k := k) (s := s) h
 rw [hl] at this
 unfold seenB
 rw [← this]; rfl
theorem seen_gone {k : ByteArray} {s : Int} {ns : List Nd} {vs : List Vr} {m : Nd} (h : ns.map (·.2) = vs) (hl : lst k s ns = some m) (hg : m.2.2.2.1 = true) : seenB vs k s = none := by
 have := seenV_of (k := k) (s := s) h
 rw [hl] at this
 unfold seenB
 rw [← this]
 simp [hg]
theorem seen_some {k : ByteArray} {s : Int} {ns : List Nd} {vs : List Vr} {m : Nd} (h : ns.map (·.2) = vs) (hl : lst k s ns = some m) (hg : m.2.2.2.1 = false) : seenB vs k s = some m.2.2.1 := by
 have := seenV_of (k := k) (s := s) h
 rw [hl] at this
 unfold seenB
 rw [← this]
 simp [hg]

end Go.Proofs.YtnmggknpllnjiaaGreat

/- What lastUpTo and l06At return. -/
import Derived.Test.YtjieojfcmigcdaaGreatDoorPw01
import Derived.Test.YtjieojfcmigcdaaGreatDoorPw09
import Derived.Deep.LoopGhost
import Derived.Test.YtjieojfcmigcdaaGreatDoorPw02
namespace Go.Proofs.YtjieojfcmigcdaaGreatDoor
open Go.RowKit
open KM
open VM
attribute [local go_sem ↓] Go.wp_at_zero Go.wp_at_succ

def ptO (o : Option Nd) : Option Addr := o.map fun n => ⟨n.1, 0, none⟩
theorem ptO_none : ptO none = none := rfl
theorem ptO_some (n : Nd) : ptO (some n) = some ⟨n.1, 0, none⟩ := rfl
theorem seg_at {w : World} {base c : Nat} {r : Nd} {ns A B : List Nd} {n : Nd} (h : Chn w base c (r :: ns)) (e : ns = A ++ n :: B) : Bx w n.1 (ndc n.2 (ptq B none)) := by
 subst e
 exact Chn.at' (A := r :: A) (by simpa using h)
theorem step_no {k : ByteArray} {s : Int} {a : Option Nd} {n : Nd} (h : isOf k s n.2 = false) : stp k s a n = a := by unfold stp; rw [h]; simp
theorem step_less {k : ByteArray} {s : Int} {m n : Nd} (h : ¬ m.2.2.2.2 < n.2.2.2.2) : stp k s (some m) n = some m := by
 unfold stp
 rw [if_neg]
 simp [more]
 intro _; omega
theorem step_yes {k : ByteArray} {s : Int} {a : Option Nd} {n : Nd} (h : isOf k s n.2 = true) (h2 : more a n = true) : stp k s a n = some n := by unfold stp; rw [h, h2]; rfl
theorem isOf_key {k : ByteArray} {s : Int} {v : Vr} (h : (v.1.toList == k.toList) = false) : isOf k s v = false := by
 rw [beq_text] at h
 unfold isOf
 rw [h]; rfl
theorem isOf_cs {k : ByteArray} {s : Int} {v : Vr} (h : s < v.2.2.2) : isOf k s v = false := by
 unfold isOf
 rw [decide_eq_false (by omega : ¬ v.2.2.2 ≤ s), Bool.and_false]
theorem isOf_yes {k : ByteArray} {s : Int} {v : Vr} (h : (v.1.toList == k.toList) = true) (h2 : ¬ s < v.2.2.2) : isOf k s v = true := by
 rw [beq_text] at h
 unfold isOf
 rw [h, decide_eq_true (by omega : v.2.2.2 ≤ s)]; rfl

set_option maxRecDepth 100000 in
set_option maxHeartbeats 2000000 in
theorem last48 (k : ByteArray) (s : Int) (base c : Nat) (r : Nd) (ns : List Nd) (w : World) (hc : Chn w base c (r :: ns)) :
  Calls Tryz.prog 85 #[.pointer (some ⟨c, 0, none⟩), .string k, .int .i64 s] w fun e w' => e = .returned (.pointer (ptO (lst k s ns))) ∧ Below w.heap.size w w' := by
 have HC : Hid (Chn w base c (r :: ns)) := hc
 have b0 := hc.bx.c0
 have r4 := (Chn.at' (A := []) hc).c4
 simp only [ptq_cons] at b0
 clear hc
 obtain ⟨u0, hu0⟩ : ∃ u, u = ptq ns none := ⟨_, rfl⟩
 rw [← hu0] at r4
 have HU : Hid (u0 = ptq ns none) := hu0
 clear hu0
 go_enter Tryz.func85, Tryz.ntmps85
 go_wp2
 clear b0 r4
 go_loopg [7, 8] ns.length (fun g t7 t8 wr => ∃ A B : List Nd, Hid (ns = A ++ B) ∧ Hid (B.length = g) ∧ t7 = .pointer (ptO (lst k s A)) ∧ t8 = .pointer (ptq B none) ∧ Hid (Below w.heap.size w wr))
 case atStart => exact ⟨[], ns, rfl, rfl, rfl, by rw [HU.out], belowRefl w⟩
 case round =>
  obtain ⟨A, B, HE, HG, h7, h8, HB⟩ := hrel
  cases B with
  | nil =>
   rw [ptq_nil] at h8
   have HE2 : Hid (lst k s A = lst k s ns) := by show _ = _; rw [HE.out, List.append_nil]
   obtain ⟨o, ho⟩ : ∃ o, o = ptO (lst k s A) := ⟨_, rfl⟩
   rw [← ho] at h7
   have HO : Hid (ptO (lst k s ns) = o) := by show _ = _; rw [ho, HE2.out]
   clear ho
   subst h7 h8
   go_wp2
   go_ret
   exact ⟨by rw [HO.out]; rfl, HB.out⟩
  | cons n B =>
   rw [ptq_cons] at h8
   have hx := seg_at (HC.out.below HB.out) HE.out
   have n0 := hx.c0
   have n3 := hx.c3
   have n4 := hx.c4
   clear hx
   obtain ⟨q, hq⟩ : ∃ q, q = ptq B none := ⟨_, rfl⟩
   rw [← hq] at n4
   have HQ : Hid (Value.pointer q = .pointer (ptq B none)) := by show _ = _; rw [hq]
   clear hq
   have HE2 : Hid (ns = (A ++ [n]) ++ B) := by show _ = _; rw [HE.out]; simp
   have HG2 : Hid (B.length < gk) := by show _ < _; rw [← HG.out]; simp
   cases hk : (n.2.1.toList == k.toList)
   ·have hk2 : (!(n.2.1.toList == k.toList)) = true := by rw [hk]; rfl
    obtain ⟨o, ho⟩ : ∃ o, o = ptO (lst k s A) := ⟨_, rfl⟩
    rw [← ho] at h7
    have HO : Hid (o = ptO (lst k s A)) := ho
    clear ho
    subst h7 h8
    have HS : Hid (Value.pointer o = .pointer (ptO (lst k s (A ++ [n])))) := by show _ = _; rw [lst_snoc, step_no (isOf_key hk), ← HO.out]
    go_wp2
    go_roundg B.length
    case measure => exact HG2.out
    case rel => exact ⟨A ++ [n], B, HE2, rfl, HS.out, HQ.out, HB.out⟩
   ·have hk2 : (!(n.2.1.toList == k.toList)) = false := by rw [hk]; rfl
    by_cases hs : s < n.2.2.2.2
    ·obtain ⟨o, ho⟩ : ∃ o, o = ptO (lst k s A) := ⟨_, rfl⟩
     rw [← ho] at h7
     have HO : Hid (o = ptO (lst k s A)) := ho
     clear ho
     subst h7 h8
     have HS : Hid (Value.pointer o = .pointer (ptO (lst k s (A ++ [n])))) := by show _ = _; rw [lst_snoc, step_no (isOf_cs hs), ← HO.out]
     go_wp2
     go_roundg B.length
     case measure => exact HG2.out
     case rel => exact ⟨A ++ [n], B, HE2, rfl, HS.out, HQ.out, HB.out⟩
    ·have hs' : decide (s < n.2.2.2.2) = false := by simpa using hs
     have HI : Hid (isOf k s n.2 = true) := isOf_yes hk hs
     clear hs
     cases hl : lst k s A with
     | none =>
      rw [hl, ptO_none] at h7
      subst h7 h8
      have HS : Hid (Value.pointer (some ⟨n.1, 0, none⟩) = .pointer (ptO (lst k s (A ++ [n])))) := by show _ = _; rw [lst_snoc, hl, step_yes HI.out rfl]; rfl
      clear hl
      go_wp2
      refine wp_region_held_drew (S := fun w' => w'.cell? ⟨n.1, 3, none⟩ = some (.int .i64 n.2.2.2.2)) (by kernel_rfl) n3 (fun hHeld => ?_)
      (refine ti 0 ?_; simp only [Act.put, tA, tB, tD, tE, tF])
      (refine ti 1 ?_; simp only [Act.put, tA, tB, tC, tD, tE, tF])
      (refine ti 2 ?_; simp only [Act.put, tA, tB, tC, tD, tE, tF])
      (refine tu 3 ?_; simp only [Act.put, tA, tB, tC, tD, tE, tF])
      (refine tu 4 ?_; simp only [Act.put, tA, tB, tC, tD, tE, tF])
      (refine tu 5 ?_; simp only [Act.put, tA, tB, tC, tD, tE, tF])
      (refine tu 6 ?_; simp only [Act.put, tA, tB, tC, tD, tE, tF])
      (refine tu 7 ?_; simp only [Act.put, tA, tB, tC, tD, tE, tF])
      (refine tu 8 ?_; simp only [Act.put, tA, tB, tC, tD, tE, tF])
      (refine tu 9 ?_; simp only [Act.put, tA, tB, tC, tD, tE, tF])
      (refine tu 10 ?_; simp only [Act.put, tA, tB, tC, tD, tE, tF])
      (refine tu 11 ?_; simp only [Act.put, tA, tB, tC, tD, tE, tF])
      (refine tu 12 ?_; simp only [Act.put, tA, tB, tC, tD, tE, tF])
      (refine tu 13 ?_; simp only [Act.put, tA, tB, tC, tD, tE, tF])
      (refine ti 14 ?_; simp only [Act.put, tA, tB, tC, tD, tE, tF])
      refine wpAnyH_done (by kernel_rfl) ?_ _
      go_wp2
      go_roundg B.length
      case measure => exact HG2.out
      case rel => exact ⟨A ++ [n], B, HE2, rfl, HS.out, HQ.out, HB.out.drew⟩
     | some m =>
      rw [hl, ptO_some] at h7
      subst h7 h8
      have hm : m ∈ r :: ns := by rw [HE.out]; simp [(lst_mem hl).1]
      obtain ⟨qm, hx⟩ := (HC.out.below HB.out).mem hm
      have m3 := hx.c3
      clear hx hm
      by_cases hc : m.2.2.2.2 < n.2.2.2.2
      ·have HS : Hid (Value.pointer (some ⟨n.1, 0, none⟩) = .pointer (ptO (lst k s (A ++ [n])))) := by show _ = _; rw [lst_snoc, hl, step_yes HI.out (by simpa [more] using hc)]; rfl
       clear hl
       go_wp2
       refine wp_region_held_drew (S := fun w' => w'.cell? ⟨n.1, 3, none⟩ = some (.int .i64 n.2.2.2.2) ∧ w'.cell? ⟨m.1, 3, none⟩ = some (.int .i64 m.2.2.2.2)) (by kernel_rfl) ⟨n3, m3⟩ (fun hHeld => ?_)
       (refine ti 0 ?_; simp only [Act.put, tA, tB, tD, tE, tF])
       (refine ti 1 ?_; simp only [Act.put, tA, tB, tC, tD, tE, tF])
       (refine ti 2 ?_; simp only [Act.put, tA, tB, tC, tD, tE, tF])
       (refine ti 3 ?_; simp only [Act.put, tA, tB, tC, tD, tE, tF])
       (refine ti 4 ?_; simp only [Act.put, tA, tB, tC, tD, tE, tF])
       (refine ti 5 ?_; simp only [Act.put, tA, tB, tC, tD, tE, tF])
       (refine ti 6 ?_; simp only [Act.put, tA, tB, tC, tD, tE, tF])
       (refine ti 7 ?_; simp only [Act.put, tA, tB, tC, tD, tE, tF])
       (refine ti 8 ?_; simp only [Act.put, tA, tB, tC, tD, tE, tF])
       (refine ti 9 ?_; simp only [Act.put, tA, tB, tC, tD, tE, tF])
       (refine ti 10 ?_; simp only [Act.put, tA, tB, tC, tD, tE, tF])
       (refine ti 11 ?_; simp only [Act.put, tA, tB, tC, tD, tE, tF])
       (refine ti 12 ?_; simp only [Act.put, tA, tB, tC, tD, tE, tF])
       (refine ti 13 ?_; simp only [Act.put, tA, tB, tC, tD, tE, tF])
       (refine ti 14 ?_; simp only [Act.put, tA, tB, tC, tD, tE, tF])
       refine wpAnyH_done (by kernel_rfl) ?_ _
       go_wp2
       go_roundg B.length
       case measure => exact HG2.out
       case rel => exact ⟨A ++ [n], B, HE2, rfl, HS.out, HQ.out, HB.out.drew⟩
      ·have HS : Hid (Value.pointer (some ⟨m.1, 0, none⟩) = .pointer (ptO (lst k s (A ++ [n])))) := by show _ = _; rw [lst_snoc, hl, step_less hc]; rfl
       have hc' : decide (m.2.2.2.2 < n.2.2.2.2) = false := by simpa using hc
       clear hl hc
       go_wp2
       refine wp_region_held_drew (S := fun w' => w'.cell? ⟨n.1, 3, none⟩ = some (.int .i64 n.2.2.2.2) ∧ w'.cell? ⟨m.1, 3, none⟩ = some (.int .i64 m.2.2.2.2)) (by kernel_rfl) ⟨n3, m3⟩ (fun hHeld => ?_)
       (refine ti 0 ?_; simp only [Act.put, tA, tB, tD, tE, tF])
       (refine ti 1 ?_; simp only [Act.put, tA, tB, tC, tD, tE, tF])
       (refine ti 2 ?_; simp only [Act.put, tA, tB, tC, tD, tE, tF])
       (refine ti 3 ?_; simp only [Act.put, tA, tB, tC, tD, tE, tF])
       (refine ti 4 ?_; simp only [Act.put, tA, tB, tC, tD, tE, tF])
       (refine ti 5 ?_; simp only [Act.put, tA, tB, tC, tD, tE, tF])
       (refine ti 6 ?_; simp only [Act.put, tA, tB, tC, tD, tE, tF])
       (refine ti 7 ?_; simp only [Act.put, tA, tB, tC, tD, tE, tF])
       (refine ti 8 ?_; simp only [Act.put, tA, tB, tC, tD, tE, tF])
       (refine ti 9 ?_; simp only [Act.put, tA, tB, tC, tD, tE, tF])
       (refine ti 10 ?_; simp only [Act.put, tA, tB, tC, tD, tE, tF])
       (refine ti 11 ?_; simp only [Act.put, tA, tB, tC, tD, tE, tF])
       (refine ti 12 ?_; simp only [Act.put, tA, tB, tC, tD, tE, tF])
       (refine ti 13 ?_; simp only [Act.put, tA, tB, tC, tD, tE, tF])
       (refine ti 14 ?_; simp only [Act.put, tA, tB, tC, tD, tE, tF])
       refine wpAnyH_done (by kernel_rfl) ?_ _
       go_wp2
       go_roundg B.length
       case measure => exact HG2.out
       case rel => exact ⟨A ++ [n], B, HE2, rfl, HS.out, HQ.out, HB.out.drew⟩
end Go.Proofs.YtjieojfcmigcdaaGreatDoor

namespace Go.Proofs.YtjieojfcmigcdaaGreatDoor
open Go.RowKit
open KM
open VM
attribute [local go_sem ↓] Go.wp_at_zero Go.wp_at_succ

set_option maxHeartbeats 400000 in
theorem clone49 (s : ByteArray) (hs : s.size ≤ 281474976710656) (w : World) :
  Calls Tryz.prog 86 #[.string s] w fun e w' => e = .returned (.string s) ∧ Below w.heap.size w w' := by
 go_enter Tryz.func86, Tryz.ntmps86
 go_wp2_with (go_at_call 99; refine (Tryz.stringslite_Clone s _ hs).mono ?_; rintro e w2 ⟨rfl, hb2⟩)
 go_ret
 exact ⟨rfl, hb2⟩

def sawB (o : Option ByteArray) : Value := .tuple #[.string (o.getD ⟨#[]⟩), .bool o.isSome]
theorem sawB_none : sawB none = .tuple #[.string ⟨#[]⟩, .bool false] := rfl
theorem sawB_some (x : ByteArray) : sawB (some x) = .tuple #[.string x, .bool true] := rfl
theorem seen_none {k : ByteArray} {s : Int} {ns : List Nd} {vs : List Vr} (h : ns.map (·.2) = vs) (hl : lst k s ns = none) : seenB vs k s = none := by
 have := seenV_of (k := k) (s := s) h
 rw [hl] at this
 unfold seenB
 rw [← this]; rfl
theorem seen_gone {k : ByteArray} {s : Int} {ns : List Nd} {vs : List Vr} {m : Nd} (h : ns.map (·.2) = vs) (hl : lst k s ns = some m) (hg : m.2.2.2.1 = true) : seenB vs k s = none := by
 have := seenV_of (k := k) (s := s) h
 rw [hl] at this
 unfold seenB
 rw [← this]
 simp [hg]
theorem seen_some {k : ByteArray} {s : Int} {ns : List Nd} {vs : List Vr} {m : Nd} (h : ns.map (·.2) = vs) (hl : lst k s ns = some m) (hg : m.2.2.2.1 = false) : seenB vs k s = some m.2.2.1 := by
 have := seenV_of (k := k) (s := s) h
 rw [hl] at this
 unfold seenB
 rw [← this]
 simp [hg]

end Go.Proofs.YtjieojfcmigcdaaGreatDoor

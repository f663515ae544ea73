/- What lastUpTo and l06At return. -/
import Derived.Test.YtnefncmkhgkdnaaChG1
import Derived.Deep.LoopGhost
namespace Go.Proofs.Ytnefncmkhgkdnaa
open Go.RowKit
open KM
open VM
attribute [local go_sem ↓] Go.wp_at_zero Go.wp_at_succ

theorem toList_data (s : ByteArray) : s.toList = s.data.toList := by
  obtain ⟨⟨l⟩⟩ := s
  exact ByteArray.toList_mk l
theorem toList_inj {a b : ByteArray} (h : a.toList = b.toList) : a = b := by
  rw [toList_data, toList_data] at h
  obtain ⟨⟨a⟩⟩ := a
  obtain ⟨⟨b⟩⟩ := b
  have h' : a = b := h
  rw [h']
theorem beq_text (a b : ByteArray) : (a.toList == b.toList) = decide (a = b) := by
  by_cases h : a = b
  · subst h; simp
  · rw [decide_eq_false h, beq_eq_false_iff_ne]
    exact fun e => h (toList_inj e)

/-- the pointer to a node that may be none -/
def ptO (o : Option Nd) : Option Addr := o.map fun n => ⟨n.1, 0, none⟩
theorem ptO_none : ptO none = none := rfl
theorem ptO_some (n : Nd) : ptO (some n) = some ⟨n.1, 0, none⟩ := rfl
theorem seg_at {w : World} {base c : Nat} {r : Nd} {ns A B : List Nd} {n : Nd} (h : Chn w base c (r :: ns)) (e : ns = A ++ n :: B) : Bx w n.1 (ndc n.2 (ptq B none)) := by
  subst e
  exact Chn.at' (A := r :: A) (by simpa using h)
theorem step_no {k : ByteArray} {s : Int} {a : Option Nd} {n : Nd} (h : isOf k s n.2 = false) : stp k s a n = a := by unfold stp; rw [h]; simp
theorem step_less {k : ByteArray} {s : Int} {m n : Nd} (h : ¬ m.2.2.2.2 < n.2.2.2.2) : stp k s (some m) n = some m := by
  unfold stp
  rw [if_neg]
  simp [more]
  intro _; omega
theorem step_yes {k : ByteArray} {s : Int} {a : Option Nd} {n : Nd} (h : isOf k s n.2 = true) (h2 : more a n = true) : stp k s a n = some n := by unfold stp; rw [h, h2]; rfl
theorem isOf_key {k : ByteArray} {s : Int} {v : Vr} (h : (v.1.toList == k.toList) = false) : isOf k s v = false := by
  rw [beq_text] at h
  unfold isOf
  rw [h]; rfl
theorem isOf_cs {k : ByteArray} {s : Int} {v : Vr} (h : s < v.2.2.2) : isOf k s v = false := by
  unfold isOf
  rw [decide_eq_false (by omega : ¬ v.2.2.2 ≤ s), Bool.and_false]
theorem isOf_yes {k : ByteArray} {s : Int} {v : Vr} (h : (v.1.toList == k.toList) = true) (h2 : ¬ s < v.2.2.2) : isOf k s v = true := by
  rw [beq_text] at h
  unfold isOf
  rw [h, decide_eq_true (by omega : v.2.2.2 ≤ s)]; rfl

end Go.Proofs.Ytnefncmkhgkdnaa

/- Disks as lists: which are right, what is read, what a flush and a crash leave. -/
namespace Go.Proofs.Ytnfkecefkkdedaa
namespace DM
abbrev Wr := Int × ByteArray

/-- a right disk -/
def OkD (ss : List ByteArray) (ps : List Wr) : Prop :=
  1 ≤ ss.length ∧ ss.length ≤ 100 ∧ ps.length ≤ 60 ∧ (∀ s ∈ ss, s.size = 64) ∧ (∀ p ∈ ps, 0 ≤ p.1 ∧ p.1 < (ss.length : Int) ∧ p.2.size = 64)
instance (ss : List ByteArray) (ps : List Wr) : Decidable (OkD ss ps) := by unfold OkD; infer_instance
def okB (ss : List ByteArray) (ps : List Wr) : Bool := decide (OkD ss ps)
theorem okB_iff {ss : List ByteArray} {ps : List Wr} : okB ss ps = true ↔ OkD ss ps := by simp [okB]
theorem okB_no {ss : List ByteArray} {ps : List Wr} (h : ¬ OkD ss ps) : okB ss ps = false := by simp [okB, h]

/-- is there such a sector? -/
def hasB (at' : Int) (n : Nat) : Bool := decide (0 ≤ at' ∧ at' < (n : Int))
theorem hasB_iff {a : Int} {n : Nat} : hasB a n = true ↔ 0 ≤ a ∧ a < (n : Int) := by simp [hasB]
theorem hasB_no {a : Int} {n : Nat} (h : ¬ (0 ≤ a ∧ a < (n : Int))) : hasB a n = false := by simp only [hasB, decide_eq_false_iff_not]; exact h

/-- the last write at a place among the first k -/
def back (ps : List Wr) (a : Int) : Nat → Option ByteArray
  | 0 => none
  | k + 1 => match ps[k]? with
    | some p => if p.1 = a then some p.2 else back ps a k
    | none => back ps a k
theorem back_hit {ps : List Wr} {a : Int} {k : Nat} (h : k < ps.length) (e : ps[k].1 = a) : back ps a (k + 1) = some ps[k].2 := by
  simp [back, h, e]
theorem back_miss {ps : List Wr} {a : Int} {k : Nat} (h : k < ps.length) (e : ps[k].1 ≠ a) : back ps a (k + 1) = back ps a k := by
  simp [back, h, e]
theorem back_take (ps qs : List Wr) (a : Int) : ∀ k, k ≤ ps.length → back (ps ++ qs) a k = back ps a k
  | 0, _ => rfl
  | k + 1, h => by
    have := back_take ps qs a k (by omega)
    simp only [back]
    rw [List.getElem?_append_left (by omega), this]
theorem back_same (ps : List Wr) (a : Int) (t : ByteArray) : back (ps ++ [(a, t)]) a (ps ++ [(a, t)]).length = some t := by
  have h : ps.length < (ps ++ [(a, t)]).length := by simp
  have e : (ps ++ [(a, t)])[ps.length] = (a, t) := by simp
  rw [show (ps ++ [(a, t)]).length = ps.length + 1 by simp, back_hit h (by rw [e]), e]
theorem back_other (ps : List Wr) (a b : Int) (t : ByteArray) (hne : a ≠ b) : back (ps ++ [(a, t)]) b (ps ++ [(a, t)]).length = back ps b ps.length := by
  have h : ps.length < (ps ++ [(a, t)]).length := by simp
  have e : (ps ++ [(a, t)])[ps.length] = (a, t) := by simp
  rw [show (ps ++ [(a, t)]).length = ps.length + 1 by simp, back_miss h (by rw [e]; exact hne), back_take _ _ _ _ (Nat.le_refl _)]

/-- what is read of a sector -/
def rd (ss : List ByteArray) (ps : List Wr) (a : Int) : ByteArray := (back ps a ps.length).getD (ss.getD a.toNat ByteArray.empty)
theorem rd_hit {ss : List ByteArray} {ps : List Wr} {a : Int} {k : Nat} (hk : k < ps.length) (e : ps[k].1 = a) (h : back ps a ps.length = back ps a (k + 1)) : rd ss ps a = ps[k].2 := by
  rw [rd, h, back_hit hk e]; rfl
theorem rd_base {ss : List ByteArray} {ps : List Wr} {a : Int} (h : back ps a ps.length = back ps a 0) : rd ss ps a = ss.getD a.toNat ByteArray.empty := by
  rw [rd, h]; rfl

/-- every write into its sector -/
def flush : List ByteArray → List Wr → List ByteArray
  | ss, [] => ss
  | ss, p :: ps => flush (ss.set p.1.toNat p.2) ps
theorem flush_len : ∀ (ss : List ByteArray) (ps : List Wr), (flush ss ps).length = ss.length
  | _, [] => rfl
  | ss, p :: ps => by rw [flush, flush_len]; simp
theorem flush_app : ∀ (ss : List ByteArray) (ps qs : List Wr), flush ss (ps ++ qs) = flush (flush ss ps) qs
  | _, [], _ => rfl
  | ss, p :: ps, qs => by rw [List.cons_append, flush, flush, flush_app]
theorem flush_snoc (ss : List ByteArray) (ps : List Wr) (p : Wr) : flush ss (ps ++ [p]) = (flush ss ps).set p.1.toNat p.2 := by rw [flush_app]; rfl
end DM
end Go.Proofs.Ytnfkecefkkdedaa

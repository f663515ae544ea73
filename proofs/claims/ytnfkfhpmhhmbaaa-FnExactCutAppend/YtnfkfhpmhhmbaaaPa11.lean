/- Plain mathematics of numbers in bytes, figures and decimals: no Go in it. -/
import Derived.Lib.ItoaNum
namespace Go.Proofs.Ytnfkfhpmhhmbaaa
namespace WM

def varF : Nat → Nat → List UInt8
  | 0, n => [UInt8.ofNat n]
  | f + 1, n => if 127 < n then UInt8.ofNat (n % 128 + 128) :: varF f (n / 128) else [UInt8.ofNat n]

def varL (n : Nat) : List UInt8 := varF n n

theorem varF_eq : ∀ f n, n ≤ f → ∀ g, n ≤ g → varF f n = varF g n := by
  intro f
  induction f with
  | zero =>
    intro n hn g hg
    obtain rfl : n = 0 := by omega
    cases g <;> simp [varF]
  | succ f ih =>
    intro n hn g hg
    cases g with
    | zero =>
      obtain rfl : n = 0 := by omega
      simp [varF]
    | succ g =>
      simp only [varF]
      by_cases h : 127 < n
      · rw [if_pos h, if_pos h, ih (n / 128) (by omega) g (by omega)]
      · rw [if_neg h, if_neg h]

theorem varL_big (n : Nat) (h : 127 < n) : varL n = UInt8.ofNat (n % 128 + 128) :: varL (n / 128) := by
  unfold varL
  cases n with
  | zero => omega
  | succ m =>
    rw [varF, if_pos h, varF_eq m ((m + 1) / 128) (by omega) ((m + 1) / 128) (Nat.le_refl _)]

theorem varL_small (n : Nat) (h : n ≤ 127) : varL n = [UInt8.ofNat n] := by
  unfold varL
  cases n with
  | zero => rfl
  | succ m => rw [varF, if_neg (by omega)]

theorem varL_pos (n : Nat) : 1 ≤ (varL n).length := by
  by_cases h : 127 < n
  · rw [varL_big n h]; simp
  · rw [varL_small n (by omega)]; simp

theorem varL_len5 (n : Nat) (h : n < 34359738368) : (varL n).length ≤ 5 := by
  have step : ∀ k m, m < k * 128 → (∀ j, j < k → (varL j).length ≤ 4) → (varL m).length ≤ 5 := by
    intro k m hm hj
    by_cases h : 127 < m
    · rw [varL_big m h]; simp; exact hj _ (by omega)
    · rw [varL_small m (by omega)]; simp
  have s1 : ∀ m, m < 128 → (varL m).length ≤ 1 := fun m hm => by rw [varL_small m (by omega)]; simp
  have s2 : ∀ m, m < 16384 → (varL m).length ≤ 2 := fun m hm => by
    by_cases h : 127 < m
    · rw [varL_big m h]; have := s1 (m / 128) (by omega); simp; omega
    · have := s1 m (by omega); omega
  have s3 : ∀ m, m < 2097152 → (varL m).length ≤ 3 := fun m hm => by
    by_cases h : 127 < m
    · rw [varL_big m h]; have := s2 (m / 128) (by omega); simp; omega
    · have := s1 m (by omega); omega
  have s4 : ∀ m, m < 268435456 → (varL m).length ≤ 4 := fun m hm => by
    by_cases h : 127 < m
    · rw [varL_big m h]; have := s3 (m / 128) (by omega); simp; omega
    · have := s1 m (by omega); omega
  exact step 268435456 n h s4

def val : List UInt8 → Nat
  | [] => 0
  | b :: t => b.toNat % 128 + 128 * val t

theorem val_snoc (l : List UInt8) (b : UInt8) : val (l ++ [b]) = val l + b.toNat % 128 * 128 ^ l.length := by
  induction l with
  | nil => simp [val]
  | cons c t ih =>
    simp only [List.cons_append, val, ih, List.length_cons, Nat.pow_succ]
    rw [Nat.mul_add, Nat.mul_comm (128 ^ t.length) 128, ← Nat.mul_assoc, Nat.mul_comm 128 (b.toNat % 128), ← Nat.mul_assoc]
    omega

theorem ofNat_high (c : UInt8) (h : 128 ≤ c.toNat) : UInt8.ofNat (c.toNat % 128 + 128) = c := by
  apply UInt8.toNat_inj.1
  have := c.toNat_lt
  simp only [UInt8.toNat_ofNat']
  omega

theorem var_val : ∀ (pre : List UInt8) (b : UInt8), (∀ c ∈ pre, 128 ≤ c.toNat) → b.toNat < 128 →
    (varL (val (pre ++ [b])) = pre ++ [b] ↔ ¬ (b.toNat = 0 ∧ 0 < pre.length)) := by
  intro pre
  induction pre with
  | nil =>
    intro b _ hb
    have e : val ([] ++ [b]) = b.toNat := by simp [val]; omega
    rw [e, varL_small _ (by omega)]
    simp
  | cons c p ih =>
    intro b hc hb
    have hcc := hc c (by simp)
    have ih' := ih b (fun d hd => hc d (by simp [hd])) hb
    have hclt := c.toNat_lt
    have e : val ((c :: p) ++ [b]) = c.toNat % 128 + 128 * val (p ++ [b]) := by simp [val]
    rw [e]
    by_cases hm : val (p ++ [b]) = 0
    · rw [hm, varL_small _ (by omega)]
      have hb0 : b.toNat = 0 := by
        rw [val_snoc] at hm
        have hp : 0 < 128 ^ p.length := Nat.pow_pos (by omega)
        have : b.toNat % 128 * 128 ^ p.length = 0 := by omega
        rcases Nat.mul_eq_zero.1 this with h | h
        · omega
        · omega
      constructor
      · intro h
        have := congrArg List.length h
        simp at this
      · intro h; exact absurd ⟨hb0, by simp⟩ h
    · rw [varL_big _ (by omega)]
      have e1 : (c.toNat % 128 + 128 * val (p ++ [b])) % 128 = c.toNat % 128 := by omega
      have e2 : (c.toNat % 128 + 128 * val (p ++ [b])) / 128 = val (p ++ [b]) := by omega
      rw [e1, e2, ofNat_high c hcc]
      constructor
      · intro h
        have h' : varL (val (p ++ [b])) = p ++ [b] := by
          have := List.cons.inj h
          exact this.2
        have n1 := ih'.1 h'
        intro ⟨hb0, _⟩
        by_cases hp : p = []
        · subst hp
          simp [val, hb0] at hm
        · exact n1 ⟨hb0, by cases p with | nil => exact absurd rfl hp | cons _ _ => simp⟩
      · intro h
        have : varL (val (p ++ [b])) = p ++ [b] := by
          apply ih'.2
          intro ⟨h1, h2⟩
          exact h ⟨h1, by simp⟩
        rw [this]; rfl

def rvGo : Nat → Nat → Nat → List UInt8 → Option (Nat × Nat)
  | 0, _, _, _ => none
  | _ + 1, _, _, [] => none
  | f + 1, n, k, b :: t =>
    if b.toNat < 128 then
      (if 1000000000 < n + b.toNat % 128 * 128 ^ k ∨ (b.toNat = 0 ∧ 0 < k) then none else some (n + b.toNat % 128 * 128 ^ k, k + 1))
    else rvGo f (n + b.toNat % 128 * 128 ^ k) (k + 1) t

def rv (l : List UInt8) : Option (Nat × Nat) := rvGo 5 0 0 l

theorem rvGo_bd : ∀ f n k l r, rvGo f n k l = some r → r.1 ≤ 1000000000 ∧ k < r.2 ∧ r.2 ≤ k + l.length := by
  intro f
  induction f with
  | zero => intro n k l r h; simp [rvGo] at h
  | succ f ih =>
    intro n k l r h
    cases l with
    | nil => simp [rvGo] at h
    | cons b t =>
      simp only [rvGo] at h
      split at h
      · split at h
        · cases h
        · cases h; simp only [List.length_cons]; omega
      · have := ih _ _ _ _ h
        simp only [List.length_cons]
        omega

end WM
end Go.Proofs.Ytnfkfhpmhhmbaaa

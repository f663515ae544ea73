/- Plain mathematics of numbers in bytes, figures and decimals: no Go in it. -/
import Derived.Lib.ItoaNum
import Derived.Test.YtjieojfcmigcdaaVMk
namespace Go.Proofs.Ytjieojfcmigcdaa
namespace WM

def varF : Nat → Nat → List UInt8
  | 0, n => [UInt8.ofNat n]
  | f + 1, n => if 127 < n then UInt8.ofNat (n % 128 + 128) :: varF f (n / 128) else [UInt8.ofNat n]

def varL (n : Nat) : List UInt8 := varF n n

theorem varF_eq : ∀ f n, n ≤ f → ∀ g, n ≤ g → varF f n = varF g n := by
  intro f
  induction f with
  | zero =>
    intro n hn g hg
    obtain rfl : n = 0 := by omega
    cases g <;> simp [varF]
  | succ f ih =>
    intro n hn g hg
    cases g with
    | zero =>
      obtain rfl : n = 0 := by omega
      simp [varF]
    | succ g =>
      simp only [varF]
      by_cases h : 127 < n
      · rw [if_pos h, if_pos h, ih (n / 128) (by omega) g (by omega)]
      · rw [if_neg h, if_neg h]

theorem varL_big (n : Nat) (h : 127 < n) : varL n = UInt8.ofNat (n % 128 + 128) :: varL (n / 128) := by
  unfold varL
  cases n with
  | zero => omega
  | succ m =>
    rw [varF, if_pos h, varF_eq m ((m + 1) / 128) (by omega) ((m + 1) / 128) (Nat.le_refl _)]

theorem varL_small (n : Nat) (h : n ≤ 127) : varL n = [UInt8.ofNat n] := by
  unfold varL
  cases n with
  | zero => rfl
  | succ m => rw [varF, if_neg (by omega)]

theorem varF_len : ∀ f n, (varF f n).length ≤ f + 1 := by
  intro f
  induction f with
  | zero => intro n; simp [varF]
  | succ f ih =>
    intro n
    simp only [varF]
    split
    · simp; exact ih _
    · simp

theorem varL_pos (n : Nat) : 1 ≤ (varL n).length := by
  by_cases h : 127 < n
  · rw [varL_big n h]; simp
  · rw [varL_small n (by omega)]; simp

/-- at most five bytes below 2^35 -/
theorem varL_len5 (n : Nat) (h : n < 34359738368) : (varL n).length ≤ 5 := by
  have step : ∀ k m, m < k * 128 → (∀ j, j < k → (varL j).length ≤ 4) → (varL m).length ≤ 5 := by
    intro k m hm hj
    by_cases h : 127 < m
    · rw [varL_big m h]; simp; exact hj _ (by omega)
    · rw [varL_small m (by omega)]; simp
  have s1 : ∀ m, m < 128 → (varL m).length ≤ 1 := fun m hm => by rw [varL_small m (by omega)]; simp
  have s2 : ∀ m, m < 16384 → (varL m).length ≤ 2 := fun m hm => by
    by_cases h : 127 < m
    · rw [varL_big m h]; have := s1 (m / 128) (by omega); simp; omega
    · have := s1 m (by omega); omega
  have s3 : ∀ m, m < 2097152 → (varL m).length ≤ 3 := fun m hm => by
    by_cases h : 127 < m
    · rw [varL_big m h]; have := s2 (m / 128) (by omega); simp; omega
    · have := s1 m (by omega); omega
  have s4 : ∀ m, m < 268435456 → (varL m).length ≤ 4 := fun m hm => by
    by_cases h : 127 < m
    · rw [varL_big m h]; have := s3 (m / 128) (by omega); simp; omega
    · have := s1 m (by omega); omega
  exact step 268435456 n h s4

def val : List UInt8 → Nat
  | [] => 0
  | b :: t => b.toNat % 128 + 128 * val t

theorem val_snoc (l : List UInt8) (b : UInt8) : val (l ++ [b]) = val l + b.toNat % 128 * 128 ^ l.length := by
  induction l with
  | nil => simp [val]
  | cons c t ih =>
    simp only [List.cons_append, val, ih, List.length_cons, Nat.pow_succ]
    rw [Nat.mul_add, Nat.mul_comm (128 ^ t.length) 128, ← Nat.mul_assoc, Nat.mul_comm 128 (b.toNat % 128), ← Nat.mul_assoc]
    omega

theorem val_lt (l : List UInt8) : val l < 128 ^ l.length := by
  induction l with
  | nil => simp [val]
  | cons c t ih => simp only [val, List.length_cons, Nat.pow_succ]; omega

theorem ofNat_high (c : UInt8) (h : 128 ≤ c.toNat) : UInt8.ofNat (c.toNat % 128 + 128) = c := by
  apply UInt8.toNat_inj.1
  have := c.toNat_lt
  simp only [UInt8.toNat_ofNat']
  omega

theorem var_val : ∀ (pre : List UInt8) (b : UInt8), (∀ c ∈ pre, 128 ≤ c.toNat) → b.toNat < 128 →
    (varL (val (pre ++ [b])) = pre ++ [b] ↔ ¬ (b.toNat = 0 ∧ 0 < pre.length)) := by
  intro pre
  induction pre with
  | nil =>
    intro b _ hb
    have e : val ([] ++ [b]) = b.toNat := by simp [val]; omega
    rw [e, varL_small _ (by omega)]
    simp
  | cons c p ih =>
    intro b hc hb
    have hcc := hc c (by simp)
    have ih' := ih b (fun d hd => hc d (by simp [hd])) hb
    have hclt := c.toNat_lt
    have e : val ((c :: p) ++ [b]) = c.toNat % 128 + 128 * val (p ++ [b]) := by simp [val]
    rw [e]
    by_cases hm : val (p ++ [b]) = 0
    · rw [hm, varL_small _ (by omega)]
      have hb0 : b.toNat = 0 := by
        rw [val_snoc] at hm
        have hp : 0 < 128 ^ p.length := Nat.pow_pos (by omega)
        have : b.toNat % 128 * 128 ^ p.length = 0 := by omega
        rcases Nat.mul_eq_zero.1 this with h | h
        · omega
        · omega
      constructor
      · intro h
        have := congrArg List.length h
        simp at this
      · intro h; exact absurd ⟨hb0, by simp⟩ h
    · rw [varL_big _ (by omega)]
      have e1 : (c.toNat % 128 + 128 * val (p ++ [b])) % 128 = c.toNat % 128 := by omega
      have e2 : (c.toNat % 128 + 128 * val (p ++ [b])) / 128 = val (p ++ [b]) := by omega
      rw [e1, e2, ofNat_high c hcc]
      constructor
      · intro h
        have h' : varL (val (p ++ [b])) = p ++ [b] := by
          have := List.cons.inj h
          exact this.2
        have n1 := ih'.1 h'
        intro ⟨hb0, _⟩
        by_cases hp : p = []
        · subst hp
          simp [val, hb0] at hm
        · exact n1 ⟨hb0, by cases p with | nil => exact absurd rfl hp | cons _ _ => simp⟩
      · intro h
        have : varL (val (p ++ [b])) = p ++ [b] := by
          apply ih'.2
          intro ⟨h1, h2⟩
          exact h ⟨h1, by simp⟩
        rw [this]; rfl

/-- what ReadVar comes to: k bytes read so far (each at least 128), their value n -/
def rvGo : Nat → Nat → Nat → List UInt8 → Option (Nat × Nat)
  | 0, _, _, _ => none
  | _ + 1, _, _, [] => none
  | f + 1, n, k, b :: t =>
    if b.toNat < 128 then
      (if 1000000000 < n + b.toNat % 128 * 128 ^ k ∨ (b.toNat = 0 ∧ 0 < k) then none else some (n + b.toNat % 128 * 128 ^ k, k + 1))
    else rvGo f (n + b.toNat % 128 * 128 ^ k) (k + 1) t

def rv (l : List UInt8) : Option (Nat × Nat) := rvGo 5 0 0 l

theorem rvGo_bd : ∀ f n k l r, rvGo f n k l = some r → r.1 ≤ 1000000000 ∧ k < r.2 ∧ r.2 ≤ k + l.length := by
  intro f
  induction f with
  | zero => intro n k l r h; simp [rvGo] at h
  | succ f ih =>
    intro n k l r h
    cases l with
    | nil => simp [rvGo] at h
    | cons b t =>
      simp only [rvGo] at h
      split at h
      · split at h
        · cases h
        · cases h; simp only [List.length_cons]; omega
      · have := ih _ _ _ _ h
        simp only [List.length_cons]
        omega


def fig (x : Nat) : UInt8 := if x < 10 then UInt8.ofNat (48 + x) else UInt8.ofNat (87 + x)

def hexL (l : List UInt8) : List UInt8 := l.flatMap fun b => [fig (b.toNat / 16), fig (b.toNat % 16)]

theorem hexL_snoc (l : List UInt8) (b : UInt8) : hexL (l ++ [b]) = hexL l ++ [fig (b.toNat / 16), fig (b.toNat % 16)] := by
  simp [hexL]

theorem hexL_len (l : List UInt8) : (hexL l).length = 2 * l.length := by
  induction l with
  | nil => rfl
  | cons b t ih => simp only [hexL, List.flatMap_cons, List.length_append] at *; rw [ih]; simp; omega

/-- the worth of a figure; 99 for what is none -/
def fv (b : UInt8) : Nat :=
  if 48 ≤ b.toNat ∧ b.toNat ≤ 57 then b.toNat - 48 else if 97 ≤ b.toNat ∧ b.toNat ≤ 102 then b.toNat - 87 else 99

theorem fig_toNat (v : Nat) (h : v < 16) : (fig v).toNat = if v < 10 then 48 + v else 87 + v := by
  unfold fig
  split <;> simp only [UInt8.toNat_ofNat'] <;> omega

theorem fig_fv (v : Nat) (h : v < 16) (b : UInt8) : fig v = b ↔ fv b = v := by
  have hf := fig_toNat v h
  have hb := b.toNat_lt
  constructor
  · intro e; subst e; unfold fv; rw [hf]; split <;> (split <;> (try split) <;> omega)
  · intro e
    apply UInt8.toNat_inj.1
    rw [hf]
    unfold fv at e
    split at e
    · split <;> omega
    · split at e
      · split <;> omega
      · omega

/-- all bytes are among the first base figures -/
def figsB (base : Nat) (l : List UInt8) : Bool := l.all fun b => decide (fv b < base)

def fvs (l : List UInt8) : List UInt8 := l.map fun b => UInt8.ofNat (fv b)

theorem figsB_snoc (base : Nat) (l : List UInt8) (b : UInt8) : figsB base (l ++ [b]) = (figsB base l && decide (fv b < base)) := by
  simp [figsB]
theorem figsB_take {base : Nat} {l : List UInt8} (h : figsB base l = true) (k : Nat) : figsB base (l.take k) = true := by
  simp only [figsB, List.all_eq_true] at *
  exact fun b hb => h b (List.mem_of_mem_take hb)
theorem fvs_snoc (l : List UInt8) (b : UInt8) : fvs (l ++ [b]) = fvs l ++ [UInt8.ofNat (fv b)] := by simp [fvs]
theorem fvs_len (l : List UInt8) : (fvs l).length = l.length := by simp [fvs]

def unhexL : List UInt8 → List UInt8
  | a :: b :: t => UInt8.ofNat (fv a * 16 + fv b) :: unhexL t
  | _ => []

theorem unhexL_len : ∀ (n : Nat) (l : List UInt8), l.length = 2 * n → (unhexL l).length = n := by
  intro n
  induction n with
  | zero => intro l h; obtain rfl := List.length_eq_zero_iff.1 (by omega : l.length = 0); rfl
  | succ n ih =>
    intro l h
    match l, h with
    | a :: b :: t, h => simp only [unhexL, List.length_cons]; rw [ih t (by simp at h; omega)]

theorem unhexL_snoc : ∀ (n : Nat) (l : List UInt8) (a b : UInt8), l.length = 2 * n → unhexL (l ++ [a, b]) = unhexL l ++ [UInt8.ofNat (fv a * 16 + fv b)] := by
  intro n
  induction n with
  | zero => intro l a b h; obtain rfl := List.length_eq_zero_iff.1 (by omega : l.length = 0); rfl
  | succ n ih =>
    intro l a b h
    match l, h with
    | c :: d :: t, h => simp only [List.cons_append, unhexL]; rw [ih t a b (by simp at h; omega)]

/-- the number that decimal figures say -/
def decV (l : List UInt8) : Nat := l.foldl (fun n b => n * 10 + fv b) 0

theorem decV_snoc (l : List UInt8) (b : UInt8) : decV (l ++ [b]) = decV l * 10 + fv b := by simp [decV]

theorem decV_lt (l : List UInt8) (h : figsB 10 l = true) : decV l < 10 ^ l.length := by
  suffices H : ∀ (r p : List UInt8), r.reverse = p → figsB 10 p = true → decV p < 10 ^ p.length from H l.reverse l (by simp) h
  intro r
  induction r with
  | nil => intro p hp _; subst hp; simp [decV]
  | cons b t ih =>
    intro p hp hf
    subst hp
    simp only [List.reverse_cons] at hf ⊢
    rw [figsB_snoc] at hf
    have h2 : figsB 10 t.reverse = true := by revert hf; cases figsB 10 t.reverse <;> simp
    have h3 : fv b < 10 := by revert hf; rw [h2]; simp
    have := ih t.reverse rfl h2
    rw [decV_snoc, List.length_append, Nat.pow_add]
    simp only [List.length_cons, List.length_nil]
    omega
theorem fig_of_fv (b : UInt8) (h : fv b < 10) : UInt8.ofNat (48 + fv b) = b := by
  have := (fig_fv (fv b) (by omega) b).2 rfl
  unfold fig at this
  rwa [if_pos h] at this

theorem decV_pos : ∀ (r : List UInt8) (c : UInt8) (p : List UInt8), r.reverse = c :: p → figsB 10 (c :: p) = true → fv c ≠ 0 → 0 < decV (c :: p) := by
  intro r
  induction r with
  | nil => intro c p h; simp at h
  | cons b t ih =>
    intro c p h hf hc
    simp only [List.reverse_cons] at h
    rw [← h, decV_snoc]
    by_cases ht : t = []
    · subst ht
      simp at h
      obtain ⟨rfl, rfl⟩ := h
      omega
    · obtain ⟨d, q, hq⟩ : ∃ d q, t.reverse = d :: q := by
        cases e : t.reverse with
        | nil => simp at e; exact absurd e ht
        | cons d q => exact ⟨d, q, rfl⟩
      rw [hq] at h
      simp only [List.cons_append, List.cons.injEq] at h
      obtain ⟨rfl, rfl⟩ := h
      have hf' : figsB 10 (d :: q) = true := by
        simp only [figsB, List.all_eq_true] at *
        intro x hx; exact hf x (by simp at hx ⊢; rcases hx with h | h <;> simp [h])
      have := ih d q hq hf' hc
      rw [hq]
      omega

theorem dd_iff : ∀ (r : List UInt8) (c : UInt8) (p : List UInt8), r.reverse = c :: p → figsB 10 (c :: p) = true →
    (Go.Lib.decDigits (decV (c :: p)) = c :: p ↔ ¬ (fv c = 0 ∧ 0 < p.length)) := by
  intro r
  induction r with
  | nil => intro c p h; simp at h
  | cons b t ih =>
    intro c p h hf
    simp only [List.reverse_cons] at h
    by_cases ht : t = []
    · subst ht
      simp at h
      obtain ⟨rfl, rfl⟩ := h
      have hb : fv b < 10 := by simpa [figsB] using hf
      have e : decV [b] = fv b := by simp [decV]
      rw [e, Go.Lib.decDigits_one hb, fig_of_fv b hb]
      simp
    · obtain ⟨d, q, hq⟩ : ∃ d q, t.reverse = d :: q := by
        cases e : t.reverse with
        | nil => simp at e; exact absurd e ht
        | cons d q => exact ⟨d, q, rfl⟩
      rw [hq] at h
      simp only [List.cons_append, List.cons.injEq] at h
      obtain ⟨rfl, rfl⟩ := h
      have hfb : figsB 10 ((d :: q) ++ [b]) = true := hf
      rw [figsB_snoc] at hfb
      have hf' : figsB 10 (d :: q) = true := by revert hfb; cases figsB 10 (d :: q) <;> simp
      have hb : fv b < 10 := by revert hfb; rw [hf']; simp
      have ih' := ih d q hq hf'
      have e : decV (d :: (q ++ [b])) = decV (d :: q) * 10 + fv b := decV_snoc (d :: q) b
      rw [e]
      by_cases hz : decV (d :: q) = 0
      · rw [hz, Nat.zero_mul, Nat.zero_add, Go.Lib.decDigits_one hb]
        constructor
        · intro hh
          have := congrArg List.length hh
          simp at this
        · intro hh
          exfalso
          apply hh
          refine ⟨?_, by simp⟩
          by_cases hc : fv d = 0
          · exact hc
          · have := decV_pos t d q hq hf' hc; omega
      · have hbig : ¬ (decV (d :: q) * 10 + fv b < 10) := by omega
        have e2 : Go.Lib.decDigits (decV (d :: q) * 10 + fv b) = Go.Lib.decDigits (decV (d :: q)) ++ [b] := by
          rw [Go.Lib.decDigits, dif_neg hbig]
          have h1 : (decV (d :: q) * 10 + fv b) / 10 = decV (d :: q) := by omega
          have h2 : (decV (d :: q) * 10 + fv b) % 10 = fv b := by omega
          rw [h1, h2, fig_of_fv b hb]
        rw [e2]
        constructor
        · intro hh
          have hh' : Go.Lib.decDigits (decV (d :: q)) = d :: q := List.append_cancel_right (by rw [hh]; rfl)
          have n1 := ih'.1 hh'
          intro ⟨h1, h2⟩
          apply n1
          refine ⟨h1, ?_⟩
          cases q with
          | nil => simp [decV, h1] at hz
          | cons _ _ => simp
        · intro hh
          have : Go.Lib.decDigits (decV (d :: q)) = d :: q := ih'.2 (fun ⟨h1, _⟩ => hh ⟨h1, by simp⟩)
          rw [this]; rfl

end WM
end Go.Proofs.Ytjieojfcmigcdaa

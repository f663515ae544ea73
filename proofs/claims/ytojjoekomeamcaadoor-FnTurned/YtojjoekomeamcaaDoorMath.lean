/- Sums of 32 bits, without a word of Go: halving, four halvings by a table, texts that differ in one byte, the four bytes of a sum. -/
namespace Go.Proofs.YtojjoekomeamcaaDoor
namespace SM

def half (s : Nat) : Nat := if s % 2 = 1 then s / 2 ^^^ 3558460437 else s / 2
def halves : Nat → Nat → Nat
  | 0, s => s
  | k + 1, s => halves k (half s)
def step (s : Nat) (b : UInt8) : Nat := halves 8 (s ^^^ b.toNat)
def sum (s : Nat) (l : List UInt8) : Nat := l.foldl step s

theorem half_lt (s : Nat) (h : s < 4294967296) : half s < 4294967296 := by
  unfold half
  split
  · exact Nat.xor_lt_two_pow (n := 32) (by omega) (by omega)
  · omega
theorem halves_lt (k s : Nat) (h : s < 4294967296) : halves k s < 4294967296 := by
  induction k generalizing s with
  | zero => exact h
  | succ k ih => exact ih _ (half_lt s h)
theorem xor_lt (a b : Nat) (ha : a < 4294967296) (hb : b < 4294967296) : a ^^^ b < 4294967296 := Nat.xor_lt_two_pow (n := 32) ha hb
theorem step_lt (s : Nat) (b : UInt8) (h : s < 4294967296) : step s b < 4294967296 := by
  have := b.toNat_lt
  exact halves_lt 8 _ (xor_lt _ _ h (by omega))
theorem sum_lt (s : Nat) (l : List UInt8) (h : s < 4294967296) : sum s l < 4294967296 := by
  induction l generalizing s with
  | nil => exact h
  | cons b l ih => exact ih _ (step_lt s b h)

theorem xor_half (a b : Nat) : (a ^^^ b) / 2 = a / 2 ^^^ b / 2 := by
  apply Nat.eq_of_testBit_eq
  intro i
  simp [Nat.testBit_div_two, Nat.testBit_xor]
theorem xor_odd (a b : Nat) : (a ^^^ b) % 2 = (a % 2 + b % 2) % 2 := by
  have h : (a ^^^ b).testBit 0 = (a.testBit 0 ^^ b.testBit 0) := Nat.testBit_xor a b 0
  simp only [Nat.testBit_zero] at h
  rcases Nat.mod_two_eq_zero_or_one (a ^^^ b) with hc | hc <;> rcases Nat.mod_two_eq_zero_or_one a with ha | ha <;> rcases Nat.mod_two_eq_zero_or_one b with hb | hb <;> rw [hc, ha, hb] at h <;> rw [hc, ha, hb] <;> first | rfl | exact absurd h (by decide)
theorem xor_swap (a b p : Nat) : a ^^^ b ^^^ p = (a ^^^ p) ^^^ b := by rw [Nat.xor_assoc, Nat.xor_comm b p, ← Nat.xor_assoc]
theorem xor_twice (a b p : Nat) : (a ^^^ p) ^^^ (b ^^^ p) = a ^^^ b := by
  apply Nat.eq_of_testBit_eq
  intro i
  simp only [Nat.testBit_xor]
  cases a.testBit i <;> cases b.testBit i <;> cases p.testBit i <;> rfl
theorem half_xor (a b : Nat) : half (a ^^^ b) = half a ^^^ half b := by
  unfold half
  rw [xor_half, xor_odd]
  rcases Nat.mod_two_eq_zero_or_one a with ha | ha <;> rcases Nat.mod_two_eq_zero_or_one b with hb | hb <;> simp only [ha, hb]
  · simp
  · simp [Nat.xor_assoc]
  · simp [xor_swap]
  · simp [xor_twice]
theorem halves_xor (k a b : Nat) : halves k (a ^^^ b) = halves k a ^^^ halves k b := by
  induction k generalizing a b with
  | zero => rfl
  | succ k ih => show halves k (half (a ^^^ b)) = _; rw [half_xor, ih]; rfl
theorem half_two (q : Nat) : half (2 * q) = q := by unfold half; rw [if_neg (by omega)]; omega
theorem halves_16 (q : Nat) : halves 4 (16 * q) = q := by
  show half (half (half (half (16 * q)))) = q
  rw [show 16 * q = 2 * (2 * (2 * (2 * q))) by omega, half_two, half_two, half_two, half_two]
theorem split16 (s : Nat) : s = 16 * (s / 16) ^^^ s % 16 := by
  apply Nat.eq_of_testBit_eq
  intro i
  have e : 16 * (s / 16) = (s / 2 ^ 4) <<< 4 := by rw [Nat.shiftLeft_eq]; omega
  rw [Nat.testBit_xor, e, Nat.testBit_shiftLeft, show (16 : Nat) = 2 ^ 4 from rfl, Nat.testBit_mod_two_pow, Nat.testBit_div_two_pow]
  by_cases h : i < 4
  · have h4 : ¬ 4 ≤ i := by omega
    simp [h, h4]
  · have h4 : 4 ≤ i := by omega
    simp [h, h4]

/-- the table of four halvings -/
def tab : List Nat := [0x00000000, 0x4589ac8d, 0x8b13591a, 0xce9af597, 0xbe152a1f, 0xfb9c8692, 0x35067305, 0x708fdf88, 0xd419cc15, 0x91906098, 0x5f0a950f, 0x1a833982, 0x6a0ce60a, 0x2f854a87, 0xe11fbf10, 0xa496139d]
theorem tab_eq (r : Nat) (h : r < 16) : halves 4 r = tab.getD r 0 := by
  have : ∀ r : Fin 16, halves 4 r.1 = tab.getD r.1 0 := by decide
  exact this ⟨r, h⟩
theorem tab_lt (r : Nat) (h : r < 16) : tab.getD r 0 < 4294967296 := by
  have : ∀ r : Fin 16, tab.getD r.1 0 < 4294967296 := by decide
  exact this ⟨r, h⟩
theorem four_by_tab (s : Nat) : halves 4 s = s / 16 ^^^ tab.getD (s % 16) 0 := by
  have h := halves_xor 4 (16 * (s / 16)) (s % 16)
  rw [← split16, halves_16, tab_eq _ (Nat.mod_lt _ (by omega))] at h
  exact h
theorem halves_8 (s : Nat) : halves 8 s = halves 4 (halves 4 s) := rfl

theorem xor_zero_eq {a b : Nat} (h : a ^^^ b = 0) : a = b := by
  apply Nat.eq_of_testBit_eq
  intro i
  have := congrArg (fun n => n.testBit i) h
  simp only [Nat.testBit_xor, Nat.zero_testBit] at this
  revert this
  cases a.testBit i <;> cases b.testBit i <;> simp
theorem half_zero {x : Nat} (h : x < 4294967296) (h0 : half x = 0) : x = 0 := by
  unfold half at h0
  split at h0
  · have := xor_zero_eq h0; omega
  · omega
theorem half_inj {a b : Nat} (ha : a < 4294967296) (hb : b < 4294967296) (h : half a = half b) : a = b :=
  xor_zero_eq (half_zero (xor_lt _ _ ha hb) (by rw [half_xor, h, Nat.xor_self]))
theorem halves_inj (k : Nat) {a b : Nat} (ha : a < 4294967296) (hb : b < 4294967296) (h : halves k a = halves k b) : a = b := by
  induction k generalizing a b with
  | zero => exact h
  | succ k ih => exact half_inj ha hb (ih (half_lt a ha) (half_lt b hb) h)
theorem xor_left {a b c : Nat} (h : a ^^^ b = a ^^^ c) : b = c := by
  have : a ^^^ (a ^^^ b) = a ^^^ (a ^^^ c) := by rw [h]
  simpa [← Nat.xor_assoc] using this
theorem xor_right {a b c : Nat} (h : b ^^^ a = c ^^^ a) : b = c := xor_left (a := a) (by rw [Nat.xor_comm a b, Nat.xor_comm a c, h])
theorem step_state {s t : Nat} {b : UInt8} (hs : s < 4294967296) (ht : t < 4294967296) (h : step s b = step t b) : s = t := by
  have := b.toNat_lt
  exact xor_right (halves_inj 8 (xor_lt _ _ hs (by omega)) (xor_lt _ _ ht (by omega)) h)
theorem step_byte {s : Nat} {b c : UInt8} (hs : s < 4294967296) (h : step s b = step s c) : b = c := by
  have := b.toNat_lt
  have := c.toNat_lt
  exact UInt8.toNat_inj.1 (xor_left (halves_inj 8 (xor_lt _ _ hs (by omega)) (xor_lt _ _ hs (by omega)) h))
theorem sum_state {s t : Nat} (l : List UInt8) (hs : s < 4294967296) (ht : t < 4294967296) (h : sum s l = sum t l) : s = t := by
  induction l generalizing s t with
  | nil => exact h
  | cons b l ih => exact step_state hs ht (ih (step_lt s b hs) (step_lt t b ht) h)
theorem sum_append (s : Nat) (l m : List UInt8) : sum s (l ++ m) = sum (sum s l) m := List.foldl_append
theorem sum_snoc (s : Nat) (l : List UInt8) (b : UInt8) : sum s (l ++ [b]) = step (sum s l) b := by rw [sum_append]; rfl
/-- one byte is another: another sum -/
theorem sum_turned {s : Nat} (hs : s < 4294967296) (l : List UInt8) (i : Nat) (hi : i < l.length) (c : UInt8) (hc : c ≠ l[i]) : sum s (l.set i c) ≠ sum s l := by
  intro h
  rw [show l.set i c = l.take i ++ c :: l.drop (i + 1) from List.set_eq_take_append_cons_drop .. |>.trans (if_pos hi)] at h
  have e : l = l.take i ++ l[i] :: l.drop (i + 1) := by rw [← List.drop_eq_getElem_cons hi, List.take_append_drop]
  have h2 : sum s (l.take i ++ c :: l.drop (i + 1)) = sum s (l.take i ++ l[i] :: l.drop (i + 1)) := h.trans (congrArg _ e)
  rw [sum_append, sum_append] at h2
  have h3 := sum_lt s (l.take i) hs
  exact hc (step_byte h3 (sum_state _ (step_lt _ _ h3) (step_lt _ _ h3) h2))

/-- the four bytes of a sum -/
def four (x : Nat) : List UInt8 := [UInt8.ofNat (x / 16777216), UInt8.ofNat (x / 65536 % 256), UInt8.ofNat (x / 256 % 256), UInt8.ofNat (x % 256)]
theorem four_len (x : Nat) : (four x).length = 4 := rfl
theorem four_inj {x y : Nat} (hx : x < 4294967296) (hy : y < 4294967296) (h : four x = four y) : x = y := by
  simp only [four, List.cons.injEq, and_true] at h
  obtain ⟨h1, h2, h3, h4⟩ := h
  have k1 := congrArg UInt8.toNat h1
  have k2 := congrArg UInt8.toNat h2
  have k3 := congrArg UInt8.toNat h3
  have k4 := congrArg UInt8.toNat h4
  simp only [UInt8.toNat_ofNat'] at k1 k2 k3 k4
  omega

def sealL (l : List UInt8) : List UInt8 := l ++ four (sum 4294967295 l)
theorem seal_len (l : List UInt8) : (sealL l).length = l.length + 4 := by simp [sealL, four_len]
/-- a sealed text with one byte turned is sealed no more -/
theorem turned (l : List UInt8) (i : Nat) (hi : i < l.length + 4) (c : UInt8) (hc : some c ≠ (sealL l)[i]?) :
    four (sum 4294967295 (((sealL l).set i c).take l.length)) ≠ ((sealL l).set i c).drop l.length := by
  unfold sealL at hc ⊢
  by_cases h : i < l.length
  · rw [List.set_append_left _ _ h, show l.length = (l.set i c).length by simp, List.take_left, List.drop_left]
    intro k
    rw [List.getElem?_append_left h, List.getElem?_eq_getElem h] at hc
    exact sum_turned (by omega) l i h c (fun e => hc (congrArg some e)) (four_inj (sum_lt _ _ (by omega)) (sum_lt _ _ (by omega)) k)
  · rw [List.set_append_right _ _ (by omega), List.take_left, List.drop_left]
    intro k
    rw [List.getElem?_append_right (by omega)] at hc
    have hl : i - l.length < (four (sum 4294967295 l)).length := by rw [four_len]; omega
    apply hc
    have := congrArg (fun m => m[i - l.length]?) k
    simp only [List.getElem?_set_self hl] at this
    exact this.symm
end SM
end Go.Proofs.YtojjoekomeamcaaDoor

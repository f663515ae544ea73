/- What ActiveOf and CountIn return, on both sides. -/
import Derived.Test.YtekjpoenbcnhdaaPb02
import Derived.Lib.ItoaNum
import Derived.Lib.ItoaLen
namespace Go.Proofs.Ytekjpoenbcnhdaa
open Go.RowKit
open DM
attribute [local go_sem ↓] Go.wp_at_zero Go.wp_at_succ

def act (ss : List ByteArray) (ps : List Wr) : Int := fb (rdR ss ps 0) % 2
theorem act_01 (ss : List ByteArray) (ps : List Wr) : isA (act ss ps) = true := by
  have : 0 ≤ fb (rdR ss ps 0) % 2 ∧ fb (rdR ss ps 0) % 2 < 2 := ⟨Int.emod_nonneg _ (by decide), Int.emod_lt_of_pos _ (by decide)⟩
  rw [isA_iff, act]
  omega
def cnt (ss : List ByteArray) (ps : List Wr) (a : Int) : Int := if isA a = true then fb (rdR ss ps (af a)) else 0
theorem cnt_le (ss : List ByteArray) (ps : List Wr) (a : Int) : 0 ≤ cnt ss ps a ∧ cnt ss ps a ≤ 255 := by
  unfold cnt
  split
  · exact fb_le _
  · omega
theorem tmod2 (x : Int) (h : 0 ≤ x) : x.tmod 2 = x % 2 := Int.tmod_eq_emod_of_nonneg h

set_option maxHeartbeats 1000000 in
theorem sac25 (ss : List ByteArray) (ps : List Wr) (a1 a2 : Option Addr) (c1 c2 : Nat) (hn : ss.length ≤ 100000000) (hm : ps.length ≤ 100000000) (w : World) (hs : SRow w a1 ss) (hp : PRow w a2 ps) :
    Calls Try.prog 23 #[.agg #[.slice a1 ss.length c1, .slice a2 ps.length c2]] w fun e w' => e = .returned (.int .i64 (act ss ps)) ∧ Below w.heap.size w w' := by
  have b0 : Below w.heap.size w (w.alloc (.cells #[.slice a1 ss.length c1, .slice a2 ps.length c2] 27)) := (belowRefl w).alloc (Nat.le_refl _) _
  have HC : Hid (Calls Try.prog 49 #[.agg #[.slice a1 ss.length c1, .slice a2 ps.length c2], .int .i64 0] (w.alloc (.cells #[.slice a1 ss.length c1, .slice a2 ps.length c2] 27)) fun e w' => e = .returned (.int .i64 (fb (rdR ss ps 0))) ∧ Below (w.alloc (.cells #[.slice a1 ss.length c1, .slice a2 ps.length c2] 27)).heap.size (w.alloc (.cells #[.slice a1 ss.length c1, .slice a2 ps.length c2] 27)) w') := sby61 ss ps 0 a1 a2 c1 c2 hn hm _ (hs.below b0) (hp.below b0)
  have HB0 : Hid (Below w.heap.size w (w.alloc (.cells #[.slice a1 ss.length c1, .slice a2 ps.length c2] 27))) := b0
  have hf := fb_le (rdR ss ps 0)
  have h0 := hf.1
  have h1 := hf.2
  have HM : Hid ((fb (rdR ss ps 0)).tmod 2 = act ss ps) := tmod2 _ h0
  have HM2 : Hid (fb (rdR ss ps 0) % 2 = act ss ps) := rfl
  clear hs hp b0 hf
  generalize fb (rdR ss ps 0) = t at *
  go_enter Try.func23, Try.ntmps23
  go_wp2_with (go_at_call 49; refine HC.out.mono ?_; rintro e w2 ⟨rfl, hb2⟩)
  go_ret
  exact ⟨ret_int' (by first | exact HM2.out | exact HM.out), HB0.out.trans (hb2.mono (by simp))⟩

set_option maxHeartbeats 1000000 in
theorem iac26 (ss : List ByteArray) (ps : List Wr) (a1 a2 : Option Addr) (c1 c2 : Nat) (hn : ss.length ≤ 100000000) (hm : ps.length ≤ 100000000) (hls : ∀ s ∈ ss, s.size ≤ 1000000000) (hlp : ∀ p ∈ ps, p.2.size ≤ 1000000000) (w : World) (hs : SRow w a1 ss) (hp : PRow w a2 ps) :
    Calls Try.prog 29 #[.agg #[.slice a1 ss.length c1, .slice a2 ps.length c2]] w fun e w' => e = .returned (.int .i64 (act ss ps)) ∧ Below w.heap.size w w' := by
  have b0 : Below w.heap.size w (w.alloc (.cells #[.slice a1 ss.length c1, .slice a2 ps.length c2] 27)) := (belowRefl w).alloc (Nat.le_refl _) _
  have HC : Hid (Calls Try.prog 54 #[.agg #[.slice a1 ss.length c1, .slice a2 ps.length c2], .int .i64 0] (w.alloc (.cells #[.slice a1 ss.length c1, .slice a2 ps.length c2] 27)) fun e w' => e = .returned (.int .i64 (fb (rdR ss ps 0))) ∧ Below (w.alloc (.cells #[.slice a1 ss.length c1, .slice a2 ps.length c2] 27)).heap.size (w.alloc (.cells #[.slice a1 ss.length c1, .slice a2 ps.length c2] 27)) w') := iby62 ss ps 0 a1 a2 c1 c2 hn hm hls hlp _ (hs.below b0) (hp.below b0)
  have HB0 : Hid (Below w.heap.size w (w.alloc (.cells #[.slice a1 ss.length c1, .slice a2 ps.length c2] 27))) := b0
  have hf := fb_le (rdR ss ps 0)
  have h0 := hf.1
  have h1 := hf.2
  have HM : Hid ((fb (rdR ss ps 0)).tmod 2 = act ss ps) := tmod2 _ h0
  have HM2 : Hid (fb (rdR ss ps 0) % 2 = act ss ps) := rfl
  clear hs hp b0 hf hls hlp
  generalize fb (rdR ss ps 0) = t at *
  go_enter Try.func29, Try.ntmps29
  go_wp2_with (go_at_call 54; refine HC.out.mono ?_; rintro e w2 ⟨rfl, hb2⟩)
  go_ret
  exact ⟨ret_int' (by first | exact HM2.out | exact HM.out), HB0.out.trans (hb2.mono (by simp))⟩

set_option maxHeartbeats 2000000 in
theorem scn27 (ss : List ByteArray) (ps : List Wr) (a : Int) (a1 a2 : Option Addr) (c1 c2 : Nat) (hn : ss.length ≤ 100000000) (hm : ps.length ≤ 100000000) (w : World) (hs : SRow w a1 ss) (hp : PRow w a2 ps) :
    Calls Try.prog 69 #[.agg #[.slice a1 ss.length c1, .slice a2 ps.length c2], .int .i64 a] w fun e w' => e = .returned (.int .i64 (cnt ss ps a)) ∧ Below w.heap.size w w' := by
  have b0 : Below w.heap.size w (w.alloc (.cells #[.slice a1 ss.length c1, .slice a2 ps.length c2] 27)) := (belowRefl w).alloc (Nat.le_refl _) _
  cases hA : isA a with
  | true =>
    have HC : Hid (Calls Try.prog 49 #[.agg #[.slice a1 ss.length c1, .slice a2 ps.length c2], .int .i64 (af a)] ((w.alloc (.cells #[.slice a1 ss.length c1, .slice a2 ps.length c2] 27))).drew fun e w' => e = .returned (.int .i64 (fb (rdR ss ps (af a)))) ∧ Below ((w.alloc (.cells #[.slice a1 ss.length c1, .slice a2 ps.length c2] 27))).drew.heap.size ((w.alloc (.cells #[.slice a1 ss.length c1, .slice a2 ps.length c2] 27))).drew w') := sby61 ss ps (af a) a1 a2 c1 c2 hn hm _ (hs.below b0).drew (hp.below b0).drew
    have HB0 : Hid (Below w.heap.size w ((w.alloc (.cells #[.slice a1 ss.length c1, .slice a2 ps.length c2] 27))).drew) := b0.drew
    have HM : Hid (fb (rdR ss ps (af a)) = cnt ss ps a) := (if_pos hA).symm
    have HA : Hid (isA a = true) := hA
    have HF : Hid (∀ w : World, Calls Try.prog 68 #[.int .i64 a] w fun e w' => e = .returned (.int .i64 (af a)) ∧ w' = w) := saf14 a
    clear hs hp b0 hA
    generalize af a = q at *
    generalize fb (rdR ss ps q) = t at *
    go_enter Try.func69, Try.ntmps69
    go_wp2_with (go_at_call 47; refine (in57 _ _ _ true HA.out _).mono ?_; rintro e w2 ⟨rfl, rfl⟩)
    go_region_held3 (fun w' => w'.cell? ⟨w.heap.size, 0, none⟩ = some (.slice a1 ss.length c1) ∧ w'.cell? ⟨w.heap.size, 1, none⟩ = some (.slice a2 ps.length c2)) (first | go_keep | exact t4.out) ((first | (go_at_call 68; refine (HF.out _).mono ?_; rintro e w3 ⟨rfl, rfl⟩) | (go_at_call 49; refine HC.out.mono ?_; rintro e w4 ⟨rfl, hb4⟩; have t4 : Hid (w4.cell? ⟨w.heap.size, 0, none⟩ = some (.slice a1 ss.length c1) ∧ w4.cell? ⟨w.heap.size, 1, none⟩ = some (.slice a2 ps.length c2)) := ⟨(hb4.cell (p := ⟨w.heap.size, 0, none⟩) (by simp)).trans (by simp [go_sem]), (hb4.cell (p := ⟨w.heap.size, 1, none⟩) (by simp)).trans (by simp [go_sem])⟩)))
    all_goals
      go_wp2
      go_ret
      exact ⟨ret_int' HM.out, HB0.out.trans (hb4.mono (by simp))⟩
  | false =>
    have HM : Hid (0 = cnt ss ps a) := (if_neg (by simp [hA])).symm
    have HA : Hid (isA a = false) := hA
    have HB0 : Hid (Below w.heap.size w (w.alloc (.cells #[.slice a1 ss.length c1, .slice a2 ps.length c2] 27))) := b0
    clear hs hp b0 hA
    go_enter Try.func69, Try.ntmps69
    go_wp2_with (go_at_call 47; refine (in57 _ _ _ false HA.out _).mono ?_; rintro e w2 ⟨rfl, rfl⟩)
    go_ret
    exact ⟨ret_int' HM.out, HB0.out⟩

set_option maxHeartbeats 2000000 in
theorem icn28 (ss : List ByteArray) (ps : List Wr) (a : Int) (a1 a2 : Option Addr) (c1 c2 : Nat) (hn : ss.length ≤ 100000000) (hm : ps.length ≤ 100000000) (hls : ∀ s ∈ ss, s.size ≤ 1000000000) (hlp : ∀ p ∈ ps, p.2.size ≤ 1000000000) (w : World) (hs : SRow w a1 ss) (hp : PRow w a2 ps) :
    Calls Try.prog 33 #[.agg #[.slice a1 ss.length c1, .slice a2 ps.length c2], .int .i64 a] w fun e w' => e = .returned (.int .i64 (cnt ss ps a)) ∧ Below w.heap.size w w' := by
  have b0 : Below w.heap.size w (w.alloc (.cells #[.slice a1 ss.length c1, .slice a2 ps.length c2] 27)) := (belowRefl w).alloc (Nat.le_refl _) _
  cases hA : isA a with
  | true =>
    have HC : Hid (Calls Try.prog 54 #[.agg #[.slice a1 ss.length c1, .slice a2 ps.length c2], .int .i64 (af a)] ((w.alloc (.cells #[.slice a1 ss.length c1, .slice a2 ps.length c2] 27))).drew fun e w' => e = .returned (.int .i64 (fb (rdR ss ps (af a)))) ∧ Below ((w.alloc (.cells #[.slice a1 ss.length c1, .slice a2 ps.length c2] 27))).drew.heap.size ((w.alloc (.cells #[.slice a1 ss.length c1, .slice a2 ps.length c2] 27))).drew w') := iby62 ss ps (af a) a1 a2 c1 c2 hn hm hls hlp _ (hs.below b0).drew (hp.below b0).drew
    have HB0 : Hid (Below w.heap.size w ((w.alloc (.cells #[.slice a1 ss.length c1, .slice a2 ps.length c2] 27))).drew) := b0.drew
    have HM : Hid (fb (rdR ss ps (af a)) = cnt ss ps a) := (if_pos hA).symm
    have HA : Hid (isA a = true) := hA
    have HF : Hid (∀ w : World, Calls Try.prog 58 #[.int .i64 a] w fun e w' => e = .returned (.int .i64 (af a)) ∧ w' = w) := iaf15 a
    clear hs hp b0 hA hls hlp
    generalize af a = q at *
    generalize fb (rdR ss ps q) = t at *
    go_enter Try.func33, Try.ntmps33
    go_wp2_with (go_at_call 64; refine (isa50 _ true HA.out _).mono ?_; rintro e w2 ⟨rfl, rfl⟩)
    go_region_held3 (fun w' => w'.cell? ⟨w.heap.size, 0, none⟩ = some (.slice a1 ss.length c1) ∧ w'.cell? ⟨w.heap.size, 1, none⟩ = some (.slice a2 ps.length c2)) (first | go_keep | exact t4.out) ((first | (go_at_call 58; refine (HF.out _).mono ?_; rintro e w3 ⟨rfl, rfl⟩) | (go_at_call 54; refine HC.out.mono ?_; rintro e w4 ⟨rfl, hb4⟩; have t4 : Hid (w4.cell? ⟨w.heap.size, 0, none⟩ = some (.slice a1 ss.length c1) ∧ w4.cell? ⟨w.heap.size, 1, none⟩ = some (.slice a2 ps.length c2)) := ⟨(hb4.cell (p := ⟨w.heap.size, 0, none⟩) (by simp)).trans (by simp [go_sem]), (hb4.cell (p := ⟨w.heap.size, 1, none⟩) (by simp)).trans (by simp [go_sem])⟩)))
    all_goals
      go_wp2
      go_ret
      exact ⟨ret_int' HM.out, HB0.out.trans (hb4.mono (by simp))⟩
  | false =>
    have HM : Hid (0 = cnt ss ps a) := (if_neg (by simp [hA])).symm
    have HA : Hid (isA a = false) := hA
    have HB0 : Hid (Below w.heap.size w (w.alloc (.cells #[.slice a1 ss.length c1, .slice a2 ps.length c2] 27))) := b0
    clear hs hp b0 hA hls hlp
    go_enter Try.func33, Try.ntmps33
    go_wp2_with (go_at_call 64; refine (isa50 _ false HA.out _).mono ?_; rintro e w2 ⟨rfl, rfl⟩)
    go_ret
    exact ⟨ret_int' HM.out, HB0.out⟩
end Go.Proofs.Ytekjpoenbcnhdaa

namespace Go.Proofs.Ytekjpoenbcnhdaa
namespace WM

def varF : Nat → Nat → List UInt8
  | 0, n => [UInt8.ofNat n]
  | f + 1, n => if 127 < n then UInt8.ofNat (n % 128 + 128) :: varF f (n / 128) else [UInt8.ofNat n]

def varL (n : Nat) : List UInt8 := varF n n

theorem varF_eq : ∀ f n, n ≤ f → ∀ g, n ≤ g → varF f n = varF g n := by
  intro f
  induction f with
  | zero =>
    intro n hn g hg
    obtain rfl : n = 0 := by omega
    cases g <;> simp [varF]
  | succ f ih =>
    intro n hn g hg
    cases g with
    | zero =>
      obtain rfl : n = 0 := by omega
      simp [varF]
    | succ g =>
      simp only [varF]
      by_cases h : 127 < n
      · rw [if_pos h, if_pos h, ih (n / 128) (by omega) g (by omega)]
      · rw [if_neg h, if_neg h]

theorem varL_big (n : Nat) (h : 127 < n) : varL n = UInt8.ofNat (n % 128 + 128) :: varL (n / 128) := by
  unfold varL
  cases n with
  | zero => omega
  | succ m =>
    rw [varF, if_pos h, varF_eq m ((m + 1) / 128) (by omega) ((m + 1) / 128) (Nat.le_refl _)]

theorem varL_small (n : Nat) (h : n ≤ 127) : varL n = [UInt8.ofNat n] := by
  unfold varL
  cases n with
  | zero => rfl
  | succ m => rw [varF, if_neg (by omega)]

theorem varL_pos (n : Nat) : 1 ≤ (varL n).length := by
  by_cases h : 127 < n
  · rw [varL_big n h]; simp
  · rw [varL_small n (by omega)]; simp

theorem varL_len5 (n : Nat) (h : n < 34359738368) : (varL n).length ≤ 5 := by
  have step : ∀ k m, m < k * 128 → (∀ j, j < k → (varL j).length ≤ 4) → (varL m).length ≤ 5 := by
    intro k m hm hj
    by_cases h : 127 < m
    · rw [varL_big m h]; simp; exact hj _ (by omega)
    · rw [varL_small m (by omega)]; simp
  have s1 : ∀ m, m < 128 → (varL m).length ≤ 1 := fun m hm => by rw [varL_small m (by omega)]; simp
  have s2 : ∀ m, m < 16384 → (varL m).length ≤ 2 := fun m hm => by
    by_cases h : 127 < m
    · rw [varL_big m h]; have := s1 (m / 128) (by omega); simp; omega
    · have := s1 m (by omega); omega
  have s3 : ∀ m, m < 2097152 → (varL m).length ≤ 3 := fun m hm => by
    by_cases h : 127 < m
    · rw [varL_big m h]; have := s2 (m / 128) (by omega); simp; omega
    · have := s1 m (by omega); omega
  have s4 : ∀ m, m < 268435456 → (varL m).length ≤ 4 := fun m hm => by
    by_cases h : 127 < m
    · rw [varL_big m h]; have := s3 (m / 128) (by omega); simp; omega
    · have := s1 m (by omega); omega
  exact step 268435456 n h s4

def val : List UInt8 → Nat
  | [] => 0
  | b :: t => b.toNat % 128 + 128 * val t

theorem val_snoc (l : List UInt8) (b : UInt8) : val (l ++ [b]) = val l + b.toNat % 128 * 128 ^ l.length := by
  induction l with
  | nil => simp [val]
  | cons c t ih =>
    simp only [List.cons_append, val, ih, List.length_cons, Nat.pow_succ]
    rw [Nat.mul_add, Nat.mul_comm (128 ^ t.length) 128, ← Nat.mul_assoc, Nat.mul_comm 128 (b.toNat % 128), ← Nat.mul_assoc]
    omega

theorem ofNat_high (c : UInt8) (h : 128 ≤ c.toNat) : UInt8.ofNat (c.toNat % 128 + 128) = c := by
  apply UInt8.toNat_inj.1
  have := c.toNat_lt
  simp only [UInt8.toNat_ofNat']
  omega

theorem var_val : ∀ (pre : List UInt8) (b : UInt8), (∀ c ∈ pre, 128 ≤ c.toNat) → b.toNat < 128 →
    (varL (val (pre ++ [b])) = pre ++ [b] ↔ ¬ (b.toNat = 0 ∧ 0 < pre.length)) := by
  intro pre
  induction pre with
  | nil =>
    intro b _ hb
    have e : val ([] ++ [b]) = b.toNat := by simp [val]; omega
    rw [e, varL_small _ (by omega)]
    simp
  | cons c p ih =>
    intro b hc hb
    have hcc := hc c (by simp)
    have ih' := ih b (fun d hd => hc d (by simp [hd])) hb
    have hclt := c.toNat_lt
    have e : val ((c :: p) ++ [b]) = c.toNat % 128 + 128 * val (p ++ [b]) := by simp [val]
    rw [e]
    by_cases hm : val (p ++ [b]) = 0
    · rw [hm, varL_small _ (by omega)]
      have hb0 : b.toNat = 0 := by
        rw [val_snoc] at hm
        have hp : 0 < 128 ^ p.length := Nat.pow_pos (by omega)
        have : b.toNat % 128 * 128 ^ p.length = 0 := by omega
        rcases Nat.mul_eq_zero.1 this with h | h
        · omega
        · omega
      constructor
      · intro h
        have := congrArg List.length h
        simp at this
      · intro h; exact absurd ⟨hb0, by simp⟩ h
    · rw [varL_big _ (by omega)]
      have e1 : (c.toNat % 128 + 128 * val (p ++ [b])) % 128 = c.toNat % 128 := by omega
      have e2 : (c.toNat % 128 + 128 * val (p ++ [b])) / 128 = val (p ++ [b]) := by omega
      rw [e1, e2, ofNat_high c hcc]
      constructor
      · intro h
        have h' : varL (val (p ++ [b])) = p ++ [b] := by
          have := List.cons.inj h
          exact this.2
        have n1 := ih'.1 h'
        intro ⟨hb0, _⟩
        by_cases hp : p = []
        · subst hp
          simp [val, hb0] at hm
        · exact n1 ⟨hb0, by cases p with | nil => exact absurd rfl hp | cons _ _ => simp⟩
      · intro h
        have : varL (val (p ++ [b])) = p ++ [b] := by
          apply ih'.2
          intro ⟨h1, h2⟩
          exact h ⟨h1, by simp⟩
        rw [this]; rfl

def rvGo : Nat → Nat → Nat → List UInt8 → Option (Nat × Nat)
  | 0, _, _, _ => none
  | _ + 1, _, _, [] => none
  | f + 1, n, k, b :: t =>
    if b.toNat < 128 then
      (if 1000000000 < n + b.toNat % 128 * 128 ^ k ∨ (b.toNat = 0 ∧ 0 < k) then none else some (n + b.toNat % 128 * 128 ^ k, k + 1))
    else rvGo f (n + b.toNat % 128 * 128 ^ k) (k + 1) t

def rv (l : List UInt8) : Option (Nat × Nat) := rvGo 5 0 0 l

theorem rvGo_bd : ∀ f n k l r, rvGo f n k l = some r → r.1 ≤ 1000000000 ∧ k < r.2 ∧ r.2 ≤ k + l.length := by
  intro f
  induction f with
  | zero => intro n k l r h; simp [rvGo] at h
  | succ f ih =>
    intro n k l r h
    cases l with
    | nil => simp [rvGo] at h
    | cons b t =>
      simp only [rvGo] at h
      split at h
      · split at h
        · cases h
        · cases h; simp only [List.length_cons]; omega
      · have := ih _ _ _ _ h
        simp only [List.length_cons]
        omega

end WM
end Go.Proofs.Ytekjpoenbcnhdaa

namespace Go.Proofs.Ytekjpoenbcnhdaa
open Go.RowKit
open DM
attribute [local go_sem ↓] Go.wp_at_zero Go.wp_at_succ

theorem Own.str {w : World} {base : Nat} {v : Value} {l : List UInt8} (h : Own w base v l) :
    (convert 22 9 v).run Try.prog w = .ok (.string ⟨l.toArray⟩) w := by
  have h0 := h
  rcases h.2 with ⟨rfl, h1⟩ | ⟨g, cap, cur, rfl, hg, hh, hnc, hcp, hcs, htake⟩
  · obtain rfl : l = [] := List.length_eq_zero_iff.1 h1
    rw [run_convert_bytes_string w 22 9 5 none 0 0 Try.underlying22 Try.underlying5 Try.underlying9]
    rfl
  · refine run_convert_bytes_back (P := Try.prog) w 22 9 5 ⟨g, 0, none⟩ cap l Try.underlying22 Try.underlying5 Try.underlying9 ?_
    intro j hj
    rw [Addr.add_lit, Nat.zero_add, World.ownsRow.cellAt h0 j (by omega)]
    simp [bv, hj]
theorem toNat_ofNat (x : Nat) (h : x < 256) : ((UInt8.ofNat x).toNat : Int) = (x : Int) := by
  simp only [UInt8.toNat_ofNat']; omega

theorem conv1 (wr : World) (b : UInt8) (x : Int) (hx : x = (b.toNat : Int)) : (convert 22 9 (.slice (some ⟨wr.heap.size, 0, none⟩) 1 1)).run Try.prog (wr.alloc (.cells #[.int .u8 x] 5)) = .ok (.string ⟨#[b]⟩) (wr.alloc (.cells #[.int .u8 x] 5)) := by
  subst hx
  have h : Own (wr.alloc (.cells #[.int .u8 (b.toNat : Int)] 5)) wr.heap.size (.slice (some ⟨wr.heap.size, 0, none⟩) 1 1) [b] :=
    World.ownsRow_lit (size := 1) wr #[.int .u8 (b.toNat : Int)] 1 (Nat.le_refl _) (by unfold maxLen; omega) rfl
  exact h.str
/-! marks -/
theorem own_form {w : World} {base e size n c : Nat} {a : Option Addr} {xs : List Value} (h : w.ownsRow base e size (.slice a n c) n xs) (hn : 0 < n) : ∃ g, a = some ⟨g, 0, none⟩ ∧ base ≤ g ∧ g < w.heap.size := by
  obtain ⟨g, cap, hv, h1, h2⟩ := h.form hn
  cases hv
  exact ⟨g, rfl, h1, h2⟩
theorem grown_below {w w' : World} {row : Option Nat} (hb : Below w.heap.size w w') : w.grownBy w' row := ⟨hb.os, hb.tape, hb.output, hb.size, fun k hk _ => hb.block k hk⟩
theorem grown_trans {a b c : World} {row : Option Nat} (h : a.grownBy b row) (k : b.grownBy c row) : a.grownBy c row :=
  ⟨k.os.trans h.os, k.tape.trans h.tape, k.output.trans h.output, Nat.le_trans h.size k.size, fun j hj hne => (k.block j (Nat.lt_of_lt_of_le hj h.size) hne).trans (h.block j hj hne)⟩
theorem grown_refl (w : World) (row : Option Nat) : w.grownBy w row := ⟨rfl, rfl, rfl, Nat.le_refl _, fun _ _ _ => rfl⟩

theorem own_apart {w : World} {b b' e e' s s' n n' : Nat} {v v' : Value} {xs xs' : List Value} (h : w.ownsRow b e s v n xs) (h' : w.ownsRow b' e' s' v' n' xs') (hne : e ≠ e') : v.ownBlock = none ∨ v.ownBlock ≠ v'.ownBlock := by
  rcases h.2 with ⟨rfl, _⟩ | ⟨g, cap, cur, rfl, _, hh, _⟩
  · exact Or.inl rfl
  · right
    intro he
    rcases h'.2 with ⟨rfl, _⟩ | ⟨g', cap', cur', rfl, _, hh', _⟩
    · cases he
    · simp only [Value.ownBlock, Option.some.injEq] at he
      rw [he, hh'] at hh
      simp only [Option.some.injEq, Obj.cells.injEq] at hh
      exact hne hh.2.1.symm

structure Kept2 (w w' : World) (v1 v2 : Value) : Prop where
  os : w'.os = w.os
  tape : w'.tape = w.tape
  output : w'.output = w.output
  size : w.heap.size ≤ w'.heap.size
  block : ∀ k, k < w.heap.size → some k ≠ v1.ownBlock → some k ≠ v2.ownBlock → w'.heap[k]? = w.heap[k]?

theorem Kept2.below {w w' : World} {v1 v2 : Value} (h : Kept2 w w' v1 v2) (B : Nat) (hB : B ≤ w.heap.size) (h1 : ∀ k, v1.ownBlock = some k → B ≤ k) (h2 : ∀ k, v2.ownBlock = some k → B ≤ k) : Below B w w' :=
  ⟨h.os, h.tape, h.output, h.size, fun k hk => h.block k (Nat.lt_of_lt_of_le hk hB) (fun e => by have := h1 k e.symm; omega) (fun e => by have := h2 k e.symm; omega)⟩

/-! held -/
end Go.Proofs.Ytekjpoenbcnhdaa

/- What impl.bytesLeft and impl.chosen return. -/
import Derived.Test.YtnfkecefkkdedaaF3
namespace Go.Proofs.Ytnfkecefkkdedaa
open Go.RowKit
open DM
attribute [local go_sem ↓] Go.wp_at_zero Go.wp_at_succ

/-- numbers that are read -/
def KRow (w : World) (a : Option Addr) (ks : List Int) : Prop :=
  0 < ks.length → ∃ b off, a = some ⟨b, off, none⟩ ∧ b < w.heap.size ∧ ∀ j (hj : j < ks.length), w.cell? ⟨b, off + j, none⟩ = some (.int .i64 ks[j])
theorem KRow.below {w w' : World} {a : Option Addr} {ks : List Int} (h : KRow w a ks) (hb : Below w.heap.size w w') : KRow w' a ks := fun h0 => by
  obtain ⟨b, off, rfl, hlt, hc⟩ := h h0
  exact ⟨b, off, rfl, Nat.lt_of_lt_of_le hlt hb.size, fun j hj => (hb.cell (p := ⟨b, off + j, none⟩) hlt).trans (hc j hj)⟩

theorem tmod65 (t : Int) : (if t.tmod 65 < 0 then t.tmod 65 + 65 else t.tmod 65) = t % 65 := by
  have h1 := Int.emod_emod_of_dvd t (show (65 : Int) ∣ 65 from ⟨1, by omega⟩)
  rcases Int.le_total 0 t with h | h
  · rw [Int.tmod_eq_emod_of_nonneg h]
    have := Int.emod_nonneg t (show (65 : Int) ≠ 0 by omega)
    rw [if_neg (by omega)]
  · have h2 : t.tmod 65 = -((-t) % 65) := by
      have := Int.neg_tmod (-t) 65
      rw [Int.neg_neg] at this
      rw [this, Int.tmod_eq_emod_of_nonneg (by omega)]
    rw [h2]
    split <;> omega

set_option maxHeartbeats 400000 in
theorem left60 (t : Int) (w : World) :
    Calls Try.prog 65 #[.int .i64 t] w fun e w' => e = .returned (.int .i64 (t % 65)) ∧ w' = w := by
  have HT : Hid ((if t.tmod 65 < 0 then t.tmod 65 + 65 else t.tmod 65) = t % 65) := tmod65 t
  have hb1 : -65 < t.tmod 65 := by
    have := Int.lt_tmod_of_pos t (show (0 : Int) < 65 by omega)
    omega
  have hb2 : t.tmod 65 < 65 := Int.tmod_lt_of_pos t (by omega)
  by_cases hneg : t.tmod 65 < 0
  · have HV : Hid (t.tmod 65 + 65 = t % 65) := by have h := HT.out; rw [if_pos hneg] at h; exact h
    have e1 : IntKind.i64.wrap (t.tmod 65) = t.tmod 65 := by rw [IntKind.wrap_i64]; omega
    go_enter Try.func65, Try.ntmps65
    go_wp2
    go_ret
    exact ⟨ret_int HV.out, rfl⟩
  · have hneg' : ¬ t.tmod 65 < 0 := hneg
    have HV : Hid (t.tmod 65 = t % 65) := by have h := HT.out; rw [if_neg hneg] at h; exact h
    have e1 : IntKind.i64.wrap (t.tmod 65) = t.tmod 65 := by rw [IntKind.wrap_i64]; omega
    go_enter Try.func65, Try.ntmps65
    go_wp2
    go_ret
    exact ⟨ret_int HV.out, rfl⟩

/-- is number i there, and odd? -/
def oddAt (ks : List Int) (i : Nat) : Bool := match ks[i]? with
  | some k => decide (k.tmod 2 ≠ 0)
  | none => false
/-- the chosen of the first n writes -/
def chs (ps : List Wr) (ks : List Int) : Nat → List Wr
  | 0 => []
  | n + 1 => chs ps ks n ++ (match ps[n]? with
    | some p => if oddAt ks n = true then [p] else []
    | none => [])
theorem chs_yes {ps : List Wr} {ks : List Int} {n : Nat} (h : n < ps.length) (ho : oddAt ks n = true) : chs ps ks (n + 1) = chs ps ks n ++ [ps[n]] := by simp [chs, h, ho]
theorem chs_no {ps : List Wr} {ks : List Int} {n : Nat} (h : n < ps.length) (ho : oddAt ks n = false) : chs ps ks (n + 1) = chs ps ks n := by simp [chs, h, ho]
theorem chs_len (ps : List Wr) (ks : List Int) : ∀ n, (chs ps ks n).length ≤ n
  | 0 => by simp [chs]
  | n + 1 => by
    have := chs_len ps ks n
    simp only [chs, List.length_append]
    split
    · split <;> simp <;> omega
    · simp; omega
theorem chs_mem (ps : List Wr) (ks : List Int) : ∀ n, ∀ p ∈ chs ps ks n, p ∈ ps
  | 0, p, h => by simp [chs] at h
  | n + 1, p, h => by
    simp only [chs, List.mem_append] at h
    rcases h with h | h
    · exact chs_mem ps ks n p h
    · split at h
      · rename_i q hq
        split at h
        · rw [List.mem_singleton.1 h]; exact List.mem_of_getElem? hq
        · simp at h
      · simp at h

set_option maxRecDepth 100000 in
set_option maxHeartbeats 4000000 in
theorem chosen59 (ps : List Wr) (ks : List Int) (a2 ak : Option Addr) (c2 ck : Nat) (hm : ps.length ≤ 1000) (hk : ks.length ≤ 9223372036854775807) (w : World) (hp : PRow w a2 ps) (hkr : KRow w ak ks) :
    Calls Try.prog 64 #[.slice a2 ps.length c2, .slice ak ks.length ck] w fun e w' => ∃ b1 d1, e = .returned (.slice b1 (chs ps ks ps.length).length d1) ∧ POwn w' w.heap.size (.slice b1 (chs ps ks ps.length).length d1) (chs ps ks ps.length) ∧ Below w.heap.size w w' := by
  have HP : Hid (PRow w a2 ps) := hp
  have HK : Hid (KRow w ak ks) := hkr
  clear hp hkr
  go_enter Try.func64, Try.ntmps64
  go_wp2
  go_loopw [5, 10] (fun v t wr => ∃ (k q : Nat) (av : Option Addr) (cv : Nat), k ≤ ps.length ∧ q ≤ k ∧ t = .int .i64 k ∧ v = .slice av q cv ∧ Hid (q = (chs ps ks k).length) ∧ Hid (Below w.heap.size w wr) ∧ Hid (wr.ownsRow w.heap.size 70 2 (.slice av q cv) q (pcs (chs ps ks k)))) (fun _ t _ => ps.length - (intOf t).toNat)
  case atStart => exact ⟨0, 0, none, 0, Nat.zero_le _, Nat.le_refl _, rfl, rfl, rfl, belowRefl w, World.ownsRow_nil _ _ _ _⟩
  case round =>
    obtain ⟨k, q, av, cv, hk1, hq, rfl, rfl, HQ, HB, HO⟩ := hrel
    by_cases hlt : k < ps.length
    · have hlt' : (k : Int) < (ps.length : Int) := by omega
      have h0 : (0 : Int) ≤ (k : Int) := by omega
      obtain ⟨b, off, rfl, hbl, hc⟩ := (HP.out.below HB.out) (by omega)
      have hck := (hc k hlt).1
      have hcl := (hc k hlt).2
      clear hc
      have HB1 : Hid (Below w.heap.size w (wr.alloc (.cells #[.int .i64 ps[k].1, .string ps[k].2] 70))) := HB.out.alloc HB.out.size _
      have HO1 : Hid ((wr.alloc (.cells #[.int .i64 ps[k].1, .string ps[k].2] 70)).ownsRow w.heap.size 70 2 (.slice av q cv) q (pcs (chs ps ks k))) := World.ownsRow.alloc HO.out _
      by_cases hkl : k < ks.length
      · have hkl' : (k : Int) < (ks.length : Int) := by omega
        obtain ⟨bk, ok, rfl, hkb, hkc⟩ := (HK.out.below HB1.out) (by omega)
        have hkk := hkc k hkl
        clear hkc
        by_cases hodd : ks[k].tmod 2 = 0
        · have ho : (ks[k].tmod 2 != 0) = false := by rw [bne_eq_false_iff_eq]; exact hodd
          have HC : Hid (chs ps ks (k + 1) = chs ps ks k) := chs_no hlt (by simp [oddAt, hkl, hodd])
          clear hodd
          go_wp2
          go_roundw
          case rel => exact ⟨k + 1, q, av, cv, by omega, by omega, by go_num, rfl, by rw [HC.out]; exact HQ, HB1, by rw [HC.out]; exact HO1⟩
          case measure => simp [intOf]; omega
        · have ho : (ks[k].tmod 2 != 0) = true := by rw [bne_iff_ne]; exact hodd
          have HC : Hid (chs ps ks (k + 1) = chs ps ks k ++ [ps[k]]) := chs_yes hlt (by simp [oddAt, hkl, hodd])
          clear hodd
          go_wp2_with (at_builtin; refine wpAppH 25 70 2 24 (.agg #[.int .i64 0, .string ByteArray.empty]) Try.underlying25 Try.info70 rfl (by decide) (by omega) (by rfl) _ _ (by rfl) (base := w.heap.size) (n := q) [.int .i64 ps[k].1, .string ps[k].2] (by rfl) (World.ownsRow.alloc HO1.out _) (by rfl) (by exact hblk_new (by simp)) rfl (by simp [Value.oneCell']) (by omega) (by have := HB1.out.size; simp at this ⊢; omega) ?_)
          intro g' cap w3 hown3 hb3 hg3
          have HO3 : Hid (w3.ownsRow w.heap.size 70 2 (.slice (some ⟨g', 0, none⟩) (q + 1) cap) (q + 1) (pcs (chs ps ks (k + 1)))) := by
            rw [HC.out, pcs_app]; exact hown3
          have HQ3 : Hid (q + 1 = (chs ps ks (k + 1)).length) := by show _ = _; rw [HC.out, List.length_append, ← HQ.out]; rfl
          have HB3 : Hid (Below w.heap.size w w3) := (HB1.out.alloc HB1.out.size _).trans hb3
          clear hown3 hb3 hg3 hck hcl hkk
          go_wp2
          go_roundw
          case rel => exact ⟨k + 1, q + 1, _, _, by omega, by omega, by go_num, rfl, HQ3, HB3, HO3⟩
          case measure => simp [intOf]; omega
      · have hkl' : decide ((k : Int) < (ks.length : Int)) = false := by simp; omega
        have HC : Hid (chs ps ks (k + 1) = chs ps ks k) := chs_no hlt (by simp [oddAt, hkl])
        go_wp2
        go_roundw
        case rel => exact ⟨k + 1, q, av, cv, by omega, by omega, by go_num, rfl, by rw [HC.out]; exact HQ, HB1, by rw [HC.out]; exact HO1⟩
        case measure => simp [intOf]; omega
    · have hlt' : ¬ (k : Int) < (ps.length : Int) := by omega
      obtain rfl : k = ps.length := by omega
      have HD : Hid (POwn wr w.heap.size (.slice av (chs ps ks ps.length).length cv) (chs ps ks ps.length)) := by
        show World.ownsRow _ _ _ _ _ _ _
        rw [← HQ.out]; exact HO.out
      go_wp2
      go_ret
      exact ⟨av, cv, by rw [← HQ.out]; rfl, HD.out, HB.out⟩
end Go.Proofs.Ytnfkecefkkdedaa

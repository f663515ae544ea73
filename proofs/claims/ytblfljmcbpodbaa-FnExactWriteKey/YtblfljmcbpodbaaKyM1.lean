/- What placesOfKeys makes, and what Meets returns, on both sides. -/
import Derived.Test.YtblfljmcbpodbaaKyW1
import Derived.Test.YtblfljmcbpodbaaV2
import Derived.Maps.OwnSet
import Derived.StringKeys
namespace Go.Proofs.Ytblfljmcbpodbaa
open Go.RowKit Go.WideMaps Go.Maps
open KM
attribute [local go_sem ↓] Go.wp_at_zero Go.wp_at_succ

theorem lawK : Keyed Try.prog 9 := string_keyed Try.underlying9
theorem zero3 (w : World) : (zeroValue 3).run Try.prog w = .ok (.int .i64 0) w := by kernel_rfl

/-- a key as it is read -/
def kl (s : ByteArray) : Lit := .string s.data.toList
theorem kl_inj {s t : ByteArray} (h : kl s = kl t) : s = t := by
  unfold kl at h
  simp only [Lit.string.injEq] at h
  obtain ⟨⟨x⟩⟩ := s
  obtain ⟨⟨y⟩⟩ := t
  simp only at h
  subst h
  rfl
theorem kl_key (s : ByteArray) : WideAt.IsKeyLit (kl s) := by unfold kl WideAt.IsKeyLit; trivial
theorem keyOk {s : ByteArray} (h : s.size ≤ 1048576) : keyOf Try.prog 9 (.string s) = some (kl s) := keyOf_string_mk Try.underlying9 (by unfold maxLen; omega)

/-- where each key stands first, in a list that begins at i -/
def plc : List Wt → Nat → DataW Unit
  | [], _ => .map []
  | x :: xs, i => (plc xs (i + 1)).put (kl x.1) (.lit (.int .i64 (i : Int)))
theorem plc_isMap : ∀ (xs : List Wt) (i : Nat), IsMap (plc xs i)
  | [], _ => isMap_empty
  | _ :: xs, i => (plc_isMap xs (i + 1)).put _ _
theorem plc_tidy : ∀ (xs : List Wt) (i : Nat), Tidy (plc xs i)
  | [], _ => tidy_empty
  | _ :: xs, i => (plc_tidy xs (i + 1)).put (kl_key _) _
theorem plc_has : ∀ (xs : List Wt) (i : Nat) (s : ByteArray), Maps.has (plc xs i) (kl s) = true ↔ ∃ x ∈ xs, x.1 = s
  | [], _, s => by simp [plc, Maps.has]
  | x :: xs, i, s => by
    have ih := plc_has xs (i + 1) s
    by_cases e : s = x.1
    · subst e
      simp only [plc]
      rw [has_put_same (plc_isMap _ _) (kl_key _)]
      simp
    · simp only [plc]
      rw [has_put_other (fun h => e (kl_inj h)), ih]
      constructor
      · rintro ⟨y, hy, rfl⟩
        exact ⟨y, List.mem_cons_of_mem _ hy, rfl⟩
      · rintro ⟨y, hy, rfl⟩
        rcases List.mem_cons.1 hy with rfl | hy
        · exact absurd rfl e
        · exact ⟨y, hy, rfl⟩
theorem plc_step (xs : List Wt) (m : Nat) (h : m < xs.length) : plc (xs.drop m) m = (plc (xs.drop (m + 1)) (m + 1)).put (kl xs[m].1) (.lit (.int .i64 (m : Int))) := by
  rw [List.drop_eq_getElem_cons h]
  rfl

set_option maxRecDepth 100000 in
set_option maxHeartbeats 2000000 in
theorem places (xs : List Wt) (a : Option Addr) (c : Nat) (hn : xs.length ≤ 1048576) (hf : WFit xs) (w : World) (hp : GRow encW w a xs) :
    Calls Try.prog 120 #[.slice a xs.length c] w fun e w' => e = .returned (.map (some w.heap.size)) ∧ w'.ownsMap Try.prog 9 (plainElem Try.prog 3) w.heap.size xs.length (plc xs 0) ∧ Below w.heap.size w w' := by
  have HP : Hid (GRow encW w a xs) := hp
  have HF : Hid (WFit xs) := hf
  clear hp hf
  have hmm := @run_makeMap Try.prog
  go_enter Try.func120, Try.ntmps120
  go_wp2
  clear hmm
  go_loopw [4] (fun t wr => ∃ m : Nat, m ≤ xs.length ∧ t = .int .i64 ((m : Int) - 1) ∧ Hid (wr.ownsMap Try.prog 9 (plainElem Try.prog 3) w.heap.size (xs.length - m) (plc (xs.drop m) m)) ∧ Hid (Below w.heap.size w wr)) (fun t _ => (intOf t + 1).toNat)
  case atStart => exact ⟨xs.length, Nat.le_refl _, by go_num, by
    show World.ownsMap _ _ _ _ _ _ _
    rw [List.drop_of_length_le (Nat.le_refl _), Nat.sub_self]
    exact World.ownsMap_made _ _ _ _, (belowRefl w).alloc (Nat.le_refl _) _⟩
  case round =>
    obtain ⟨m1, hm1, rfl, HO, HB⟩ := hrel
    by_cases h0 : m1 = 0
    · have h0' : ¬ (0 : Int) ≤ (m1 : Int) - 1 := by omega
      have HO2 : Hid (wr.ownsMap Try.prog 9 (plainElem Try.prog 3) w.heap.size xs.length (plc xs 0)) := by
        have h := HO.out
        rw [h0] at h
        show World.ownsMap _ _ _ _ _ _ _
        simpa using h
      clear h0
      go_wp2
      go_ret
      exact ⟨rfl, HO2.out, HB.out⟩
    · obtain ⟨m, rfl⟩ : ∃ m, m1 = m + 1 := ⟨m1 - 1, by omega⟩
      have hlt : m < xs.length := by omega
      have hlt' : (m : Int) < (xs.length : Int) := by omega
      have hm0 : (0 : Int) ≤ (m : Int) := by omega
      have hme : ((m + 1 : Nat) : Int) - 1 = (m : Int) := by omega
      rw [hme]
      have HME : Hid (((m + 1 : Nat) : Int) - 1 = (m : Int)) := hme
      clear hme h0
      obtain ⟨b, off, rfl, hbl, hc⟩ := (HP.out.below HB.out) (by omega)
      have r0 := (wat hc m hlt).1
      clear hc
      have hkey := keyOk ((HF.out _ (List.getElem_mem hlt)).1)
      have HK : Hid (keyOf Try.prog 9 (.string xs[m].1) = some (kl xs[m].1)) := hkey
      clear hkey
      go_wp2_with (first
        | (at_mapUpdate; refine wpList_mapUpdate_own _ rfl _ _ _ 158 rfl 9 3 lawK Try.underlying158 _ w.heap.size (xs.length - (m + 1)) _ rfl HO.out (by unfold maxLen; omega) _ _ _ rfl rfl HK.out _ [] (plainElem_int Try.underlying3 (WalkArith.wf_i64 (by omega))) ?_; intro w1 hown1 hgrow1)
        | go_in)
      have R1 : Hid (w1.ownsMap Try.prog 9 (plainElem Try.prog 3) w.heap.size (xs.length - m) (plc (xs.drop m) m)) := by
        show World.ownsMap _ _ _ _ _ _ _
        rw [plc_step xs m hlt, show xs.length - m = xs.length - (m + 1) + 1 by omega]
        exact hown1
      have R2 : Hid (Below w.heap.size w w1) := HB.out.grown hgrow1 HB.out.size (fun j hj => by cases hj; exact Nat.le_refl _)
      clear hown1 hgrow1 HO
      go_wp2
      go_roundw
      case rel => exact ⟨m, by omega, by go_num, R1, R2⟩
      case measure => simp [intOf]

end Go.Proofs.Ytblfljmcbpodbaa

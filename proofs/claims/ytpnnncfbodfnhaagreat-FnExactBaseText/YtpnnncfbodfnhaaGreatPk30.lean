/- What Touches returns, on both sides. -/
import Derived.Test.YtpnnncfbodfnhaaGreatPk04
import Derived.Test.YtpnnncfbodfnhaaGreatPk01
import Derived.Deep.AppendLies
import Derived.Test.YtpnnncfbodfnhaaGreatPk02
import Derived.Test.YtpnnncfbodfnhaaGreatPk06
import Derived.WalkSpells
import Derived.WalkLawsBesides
import Derived.Deep.QuietTactic
import Derived.BigQuiet
import Derived.Deep.RegionHeld3
import Derived.Deep.DrawnRows
import Derived.Test.YtpnnncfbodfnhaaGreatPk07
import Derived.Test.YtpnnncfbodfnhaaGreatPk08
import Derived.Deep.RegionHeld
import Derived.Test.YtpnnncfbodfnhaaGreatPk09
import Derived.Maps.OwnSet
import Derived.StringKeys
import Derived.Test.YtpnnncfbodfnhaaGreatPk03
import Derived.Test.YtpnnncfbodfnhaaGreatPk11
import Derived.Sort.OwnSorted
import Derived.Lib.RowBridge
import Derived.Test.YtpnnncfbodfnhaaGreatPk12
namespace Go.Proofs.YtpnnncfbodfnhaaGreat
open Go.RowKit
open KM
attribute [local go_sem ↓] Go.wp_at_zero Go.wp_at_succ

/-- none of the first k ranges holds a key -/
def NoT (rs : List Rg) (ws : List Wt) (k : Nat) : Prop := ∀ j (hj : j < rs.length), j < k → ∀ i (hi : i < ws.length), inB rs[j] ws[i].1 = false
/-- none of the first k keys is in r -/
def NoI (r : Rg) (ws : List Wt) (k : Nat) : Prop := ∀ i (hi : i < ws.length), i < k → inB r ws[i].1 = false
theorem touch_yes {rs : List Rg} {ws : List Wt} (k m : Nat) (hk : k < rs.length) (hm : m < ws.length) (h : inB rs[k] ws[m].1 = true) : touchB rs ws = true := by
  unfold touchB
  rw [List.any_eq_true]
  exact ⟨rs[k], List.getElem_mem hk, by rw [List.any_eq_true]; exact ⟨ws[m], List.getElem_mem hm, h⟩⟩
theorem touch_no {rs : List Rg} {ws : List Wt} {k : Nat} (h : NoT rs ws k) (hk : rs.length ≤ k) : touchB rs ws = false := by
  unfold touchB
  rw [List.any_eq_false]
  intro r hr
  obtain ⟨j, hj, rfl⟩ := List.getElem_of_mem hr
  rw [Bool.not_eq_true, List.any_eq_false]
  intro x hx
  obtain ⟨i, hi, rfl⟩ := List.getElem_of_mem hx
  rw [h j hj (by omega) i hi]
  simp
theorem not_more {rs : List Rg} {ws : List Wt} {k m : Nat} (h : NoT rs ws k) (hk : k < rs.length) (h2 : NoI rs[k] ws m) (hm : ws.length ≤ m) : NoT rs ws (k + 1) := fun j hj hjk i hi => by
  by_cases e : j = k
  · subst e; exact h2 i hi (by omega)
  · exact h j hj (by omega) i hi
theorem noi_more {r : Rg} {ws : List Wt} {m : Nat} (h : NoI r ws m) (hm : m < ws.length) (h2 : inB r ws[m].1 = false) : NoI r ws (m + 1) := fun i hi him => by
  by_cases e : i = m
  · subst e; exact h2
  · exact h i hi (by omega)

set_option maxRecDepth 100000 in
set_option maxHeartbeats 4000000 in
theorem itouch (rs : List Rg) (ws : List Wt) (a1 a2 : Option Addr) (c1 c2 : Nat) (hn : rs.length ≤ 100000000) (hm : ws.length ≤ 100000000) (w : World) (hr : GRow encR w a1 rs) (hw : GRow encW w a2 ws) :
    Calls Tryz.prog 228 #[.slice a1 rs.length c1, .slice a2 ws.length c2] w fun e w' => e = .returned (.bool (touchB rs ws)) ∧ Below w.heap.size w w' := by
  have HR : Hid (GRow encR w a1 rs) := hr
  have HW : Hid (GRow encW w a2 ws) := hw
  clear hr hw
  go_enter Tryz.func228, Tryz.ntmps228
  go_wp2
  go_loopw [11] (fun t wr => ∃ k : Nat, k ≤ rs.length ∧ t = .int .i64 k ∧ Hid (NoT rs ws k) ∧ Hid (Below w.heap.size w wr)) (fun t _ => rs.length - (intOf t).toNat)
  case atStart => exact ⟨0, Nat.zero_le _, rfl, fun j hj h => by omega, belowRefl w⟩
  case round =>
    obtain ⟨k, hk, rfl, HG, HB⟩ := hrel
    by_cases hlt : k < rs.length
    · have hlt' : (k : Int) < (rs.length : Int) := by omega
      have hk0 : (0 : Int) ≤ (k : Int) := by omega
      obtain ⟨b, off, rfl, hbl, hc⟩ := (HR.out.below HB.out) (by omega)
      have r0 := (rat hc k hlt).1
      have r1 := (rat hc k hlt).2
      clear hc
      have HX : Hid (Box (wr.alloc (.cells #[.string rs[k].1, .string rs[k].2] 115)) wr.heap.size [.string rs[k].1, .string rs[k].2]) := Box.new wr [.string rs[k].1, .string rs[k].2] 115
      have HB1 : Hid (Below w.heap.size w (wr.alloc (.cells #[.string rs[k].1, .string rs[k].2] 115))) := HB.out.alloc HB.out.size _
      go_wp2
      go_loopw [17] (fun t wr2 => ∃ m : Nat, m ≤ ws.length ∧ t = .int .i64 m ∧ Hid (NoI rs[k] ws m) ∧ Hid (Below w.heap.size w wr2) ∧ Hid (Box wr2 wr.heap.size [.string rs[k].1, .string rs[k].2])) (fun t _ => ws.length - (intOf t).toNat)
      case atStart => exact ⟨0, Nat.zero_le _, rfl, fun j hj h => by omega, HB1, HX⟩
      case round =>
        clear HX HB1 r0 r1
        obtain ⟨m, hmk, rfl, HI, HB2, HX2⟩ := hrel
        by_cases hlm : m < ws.length
        · have hlm' : (m : Int) < (ws.length : Int) := by omega
          have hm0 : (0 : Int) ≤ (m : Int) := by omega
          obtain ⟨b2, off2, rfl, hbl2, hc2⟩ := (HW.out.below HB2.out) (by omega)
          have q0 := (wat hc2 m hlm).1
          have q1 := (wat hc2 m hlm).2.1
          have q2 := (wat hc2 m hlm).2.2
          clear hc2
          have x0 := HX2.out.c0
          have x1 := HX2.out.c1
          have xl := HX2.out.lt
          have HX3 : Hid (Box (wr.alloc (.cells #[.string ws[m].1, .string ws[m].2.1, .bool ws[m].2.2] 181)) _ [.string rs[k].1, .string rs[k].2]) := HX2.out.below ((belowRefl wr).alloc (Nat.le_refl _) _)
          have HB3 : Hid (Below w.heap.size w (wr.alloc (.cells #[.string ws[m].1, .string ws[m].2.1, .bool ws[m].2.2] 181))) := HB2.out.alloc HB2.out.size _
          cases hin : inB rs[k] ws[m].1
          · have C1 : Hid (∀ w, Calls Tryz.prog 248 #[.agg #[.string rs[k].1, .string rs[k].2], .string ws[m].1] w fun e w' => e = .returned (.bool false) ∧ Below w.heap.size w w') := fun w => by
              have h := iin rs[k].1 rs[k].2 ws[m].1 w
              rw [show inB (rs[k].1, rs[k].2) ws[m].1 = false from hin] at h
              exact h
            have HI2 : Hid (NoI rs[k] ws (m + 1)) := noi_more HI.out hlm hin
            clear hin
            go_wp2_with fail
            refine (C1.out _).mono ?_
            rintro e w3 ⟨rfl, hb3⟩
            have HX4 : Hid (Box w3 _ [.string rs[k].1, .string rs[k].2]) := HX3.out.below hb3
            have HB4 : Hid (Below w.heap.size w w3) := HB3.out.trans (hb3.mono HB3.out.size)
            clear hb3 x0 x1 q0 q1 q2
            go_wp2
            go_roundw
            case rel => exact ⟨m + 1, by omega, by go_num, HI2, HB4, HX4⟩
            case measure => simp [intOf]; omega
          · have C1 : Hid (∀ w, Calls Tryz.prog 248 #[.agg #[.string rs[k].1, .string rs[k].2], .string ws[m].1] w fun e w' => e = .returned (.bool true) ∧ Below w.heap.size w w') := fun w => by
              have h := iin rs[k].1 rs[k].2 ws[m].1 w
              rw [show inB (rs[k].1, rs[k].2) ws[m].1 = true from hin] at h
              exact h
            have HT : Hid (touchB rs ws = true) := touch_yes k m hlt hlm hin
            clear hin
            go_wp2_with fail
            refine (C1.out _).mono ?_
            rintro e w3 ⟨rfl, hb3⟩
            have HB4 : Hid (Below w.heap.size w w3) := HB3.out.trans (hb3.mono HB3.out.size)
            clear hb3 x0 x1 q0 q1 q2
            go_wp2
            go_ret
            exact ⟨ret_bool HT.out.symm, HB4.out⟩
        · have hlm' : ¬ (m : Int) < (ws.length : Int) := by omega
          have HG2 : Hid (NoT rs ws (k + 1)) := not_more HG.out hlt HI.out (by omega)
          go_wp2
          go_roundw
          case rel => exact ⟨k + 1, by omega, by go_num, HG2, HB2⟩
          case measure => simp [intOf]; omega
    · have hlt' : ¬ (k : Int) < (rs.length : Int) := by omega
      have HN : Hid (touchB rs ws = false) := touch_no HG.out (by omega)
      go_wp2
      go_ret
      exact ⟨ret_bool HN.out.symm, HB.out⟩

set_option maxRecDepth 100000 in
set_option maxHeartbeats 4000000 in
theorem stouch (rs : List Rg) (ws : List Wt) (a1 a2 : Option Addr) (c1 c2 : Nat) (hn : rs.length ≤ 100000000) (hm : ws.length ≤ 100000000) (w : World) (hr : GRow encR w a1 rs) (hw : GRow encW w a2 ws) :
    Calls Tryz.prog 196 #[.slice a1 rs.length c1, .slice a2 ws.length c2] w fun e w' => e = .returned (.bool (touchB rs ws)) ∧ Below w.heap.size w w' := by
  have HR : Hid (GRow encR w a1 rs) := hr
  have HW : Hid (GRow encW w a2 ws) := hw
  clear hr hw
  go_enter Tryz.func196, Tryz.ntmps196
  go_wp2
  go_loopw [5] (fun t wr => ∃ k : Nat, k ≤ rs.length ∧ t = .int .i64 k ∧ Hid (NoT rs ws k) ∧ Hid (Below w.heap.size w wr)) (fun t _ => rs.length - (intOf t).toNat)
  case atStart => exact ⟨0, Nat.zero_le _, rfl, fun j hj h => by omega, belowRefl w⟩
  case round =>
    obtain ⟨k, hk, rfl, HG, HB⟩ := hrel
    by_cases hlt : k < rs.length
    · have hlt' : (k : Int) < (rs.length : Int) := by omega
      have hk0 : (0 : Int) ≤ (k : Int) := by omega
      go_wp2
      go_loopw [6] (fun t wr2 => ∃ m : Nat, m ≤ ws.length ∧ t = .int .i64 m ∧ Hid (NoI rs[k] ws m) ∧ Hid (Below w.heap.size w wr2)) (fun t _ => ws.length - (intOf t).toNat)
      case atStart => exact ⟨0, Nat.zero_le _, rfl, fun j hj h => by omega, HB⟩
      case round =>
        obtain ⟨m, hmk, rfl, HI, HB2⟩ := hrel
        by_cases hlm : m < ws.length
        · have hlm' : (m : Int) < (ws.length : Int) := by omega
          have hm0 : (0 : Int) ≤ (m : Int) := by omega
          obtain ⟨b, off, rfl, hbl, hc⟩ := (HR.out.below HB2.out) (by omega)
          have r0 := (rat hc k hlt).1
          have r1 := (rat hc k hlt).2
          clear hc
          obtain ⟨b2, off2, rfl, hbl2, hc2⟩ := (HW.out.below HB2.out) (by omega)
          have q0 := (wat hc2 m hlm).1
          clear hc2
          cases hin : inB rs[k] ws[m].1
          · have C1 : Hid (∀ w, Calls Tryz.prog 222 #[.agg #[.string rs[k].1, .string rs[k].2], .string ws[m].1] w fun e w' => e = .returned (.bool false) ∧ Below w.heap.size w w') := fun w => by
              have h := sin rs[k].1 rs[k].2 ws[m].1 w
              rw [show inB (rs[k].1, rs[k].2) ws[m].1 = false from hin] at h
              exact h
            have HI2 : Hid (NoI rs[k] ws (m + 1)) := noi_more HI.out hlm hin
            clear hin
            go_wp2
            go_region_held3 (fun w' => w'.cell? ⟨b, off + k * 2, none⟩ = some (.string rs[k].1) ∧ w'.cell? ⟨b, off + k * 2 + 1, none⟩ = some (.string rs[k].2) ∧ w'.cell? ⟨b2, off2 + m * 3, none⟩ = some (.string ws[m].1)) (first | go_keep | exact ⟨(hb3.cell (p := ⟨b, off + k * 2, none⟩) hbl).trans r0, (hb3.cell (p := ⟨b, off + k * 2 + 1, none⟩) hbl).trans r1, (hb3.cell (p := ⟨b2, off2 + m * 3, none⟩) hbl2).trans q0⟩) ((go_at_call 222; refine (C1.out _).mono ?_; rintro e w3 ⟨rfl, hb3⟩))
            all_goals
              go_wp2
              go_roundw
              case rel => exact ⟨m + 1, by omega, by go_num, HI2, HB2.out.drew.trans (hb3.mono HB2.out.size)⟩
              case measure => simp [intOf]; omega
          · have C1 : Hid (∀ w, Calls Tryz.prog 222 #[.agg #[.string rs[k].1, .string rs[k].2], .string ws[m].1] w fun e w' => e = .returned (.bool true) ∧ Below w.heap.size w w') := fun w => by
              have h := sin rs[k].1 rs[k].2 ws[m].1 w
              rw [show inB (rs[k].1, rs[k].2) ws[m].1 = true from hin] at h
              exact h
            have HT : Hid (touchB rs ws = true) := touch_yes k m hlt hlm hin
            clear hin
            go_wp2
            go_region_held3 (fun w' => w'.cell? ⟨b, off + k * 2, none⟩ = some (.string rs[k].1) ∧ w'.cell? ⟨b, off + k * 2 + 1, none⟩ = some (.string rs[k].2) ∧ w'.cell? ⟨b2, off2 + m * 3, none⟩ = some (.string ws[m].1)) (first | go_keep | exact ⟨(hb3.cell (p := ⟨b, off + k * 2, none⟩) hbl).trans r0, (hb3.cell (p := ⟨b, off + k * 2 + 1, none⟩) hbl).trans r1, (hb3.cell (p := ⟨b2, off2 + m * 3, none⟩) hbl2).trans q0⟩) ((go_at_call 222; refine (C1.out _).mono ?_; rintro e w3 ⟨rfl, hb3⟩))
            all_goals
              go_wp2
              go_ret
              exact ⟨ret_bool HT.out.symm, HB2.out.drew.trans (hb3.mono HB2.out.size)⟩
        · have hlm' : ¬ (m : Int) < (ws.length : Int) := by omega
          have HG2 : Hid (NoT rs ws (k + 1)) := not_more HG.out hlt HI.out (by omega)
          go_wp2
          go_roundw
          case rel => exact ⟨k + 1, by omega, by go_num, HG2, HB2⟩
          case measure => simp [intOf]; omega
    · have hlt' : ¬ (k : Int) < (rs.length : Int) := by omega
      have HN : Hid (touchB rs ws = false) := touch_no HG.out (by omega)
      go_wp2
      go_ret
      exact ⟨ret_bool HN.out.symm, HB.out⟩
end Go.Proofs.YtpnnncfbodfnhaaGreat

namespace Go.Proofs.YtpnnncfbodfnhaaGreat
open Go.RowKit Go.WideMaps Go.Maps
open KM
attribute [local go_sem ↓] Go.wp_at_zero Go.wp_at_succ

theorem lawK : Keyed Tryz.prog 9 := string_keyed Tryz.underlying9
theorem zero3 (w : World) : (zeroValue 3).run Tryz.prog w = .ok (.int .i64 0) w := by kernel_rfl

/-- a key as it is read -/
def kl (s : ByteArray) : Lit := .string s.data.toList
theorem kl_inj {s t : ByteArray} (h : kl s = kl t) : s = t := by
  unfold kl at h
  simp only [Lit.string.injEq] at h
  obtain ⟨⟨x⟩⟩ := s
  obtain ⟨⟨y⟩⟩ := t
  simp only at h
  subst h
  rfl
theorem kl_key (s : ByteArray) : WideAt.IsKeyLit (kl s) := by unfold kl WideAt.IsKeyLit; trivial
theorem keyOk {s : ByteArray} (h : s.size ≤ 1048576) : keyOf Tryz.prog 9 (.string s) = some (kl s) := keyOf_string_mk Tryz.underlying9 (by unfold maxLen; omega)

/-- where each key stands first, in a list that begins at i -/
def plc : List Wt → Nat → DataW Unit
  | [], _ => .map []
  | x :: xs, i => (plc xs (i + 1)).put (kl x.1) (.lit (.int .i64 (i : Int)))
theorem plc_isMap : ∀ (xs : List Wt) (i : Nat), IsMap (plc xs i)
  | [], _ => isMap_empty
  | _ :: xs, i => (plc_isMap xs (i + 1)).put _ _
theorem plc_tidy : ∀ (xs : List Wt) (i : Nat), Tidy (plc xs i)
  | [], _ => tidy_empty
  | _ :: xs, i => (plc_tidy xs (i + 1)).put (kl_key _) _
theorem plc_has : ∀ (xs : List Wt) (i : Nat) (s : ByteArray), Maps.has (plc xs i) (kl s) = true ↔ ∃ x ∈ xs, x.1 = s
  | [], _, s => by simp [plc, Maps.has]
  | x :: xs, i, s => by
    have ih := plc_has xs (i + 1) s
    by_cases e : s = x.1
    · subst e
      simp only [plc]
      rw [has_put_same (plc_isMap _ _) (kl_key _)]
      simp
    · simp only [plc]
      rw [has_put_other (fun h => e (kl_inj h)), ih]
      constructor
      · rintro ⟨y, hy, rfl⟩
        exact ⟨y, List.mem_cons_of_mem _ hy, rfl⟩
      · rintro ⟨y, hy, rfl⟩
        rcases List.mem_cons.1 hy with rfl | hy
        · exact absurd rfl e
        · exact ⟨y, hy, rfl⟩
theorem plc_step (xs : List Wt) (m : Nat) (h : m < xs.length) : plc (xs.drop m) m = (plc (xs.drop (m + 1)) (m + 1)).put (kl xs[m].1) (.lit (.int .i64 (m : Int))) := by
  rw [List.drop_eq_getElem_cons h]
  rfl

/-- what is left of D0 when the first k keys are gone -/
structure Inv (D0 : DataW Unit) (ys : List Wt) (k : Nat) (D : DataW Unit) : Prop where
  tidy : Tidy D
  has : ∀ s, Maps.has D (kl s) = true ↔ Maps.has D0 (kl s) = true ∧ ∀ j (hj : j < ys.length), j < k → ys[j].1 ≠ s
  le : Maps.size D ≤ Maps.size D0
  lt : Maps.size D < Maps.size D0 ↔ ∃ j, ∃ hj : j < ys.length, j < k ∧ Maps.has D0 (kl ys[j].1) = true
theorem Inv.start {D0 : DataW Unit} {ys : List Wt} (h : Tidy D0) : Inv D0 ys 0 D0 :=
  ⟨h, fun s => ⟨fun h => ⟨h, fun j hj h0 => by omega⟩, fun h => h.1⟩, Nat.le_refl _, ⟨fun h => by omega, fun ⟨j, hj, h0, _⟩ => by omega⟩⟩
theorem Inv.step {D0 D : DataW Unit} {ys : List Wt} {k : Nat} (h : Inv D0 ys k D) (hk : k < ys.length) : Inv D0 ys (k + 1) (D.del (kl ys[k].1)) := by
  have hs := size_del (k := kl ys[k].1) h.tidy
  have hh := h.has ys[k].1
  refine ⟨h.tidy.del _, fun s => ?_, ?_, ?_⟩
  · by_cases e : s = ys[k].1
    · subst e
      rw [has_del_same]
      simp only [Bool.false_eq_true, false_iff, not_and]
      exact fun _ h2 => h2 k hk (by omega) rfl
    · rw [has_del_other (fun h => e (kl_inj h)), h.has s]
      constructor
      · rintro ⟨h1, h2⟩
        refine ⟨h1, fun j hj hjk => ?_⟩
        by_cases ej : j = k
        · subst ej; exact fun e' => e e'.symm
        · exact h2 j hj (by omega)
      · rintro ⟨h1, h2⟩
        exact ⟨h1, fun j hj hjk => h2 j hj (by omega)⟩
  · have := h.le; split at hs <;> omega
  · by_cases hd : Maps.has D (kl ys[k].1) = true
    · rw [if_pos hd] at hs
      have := h.le
      constructor
      · intro _
        exact ⟨k, hk, by omega, (hh.1 hd).1⟩
      · intro _; omega
    · rw [if_neg hd] at hs
      rw [show Maps.size (D.del (kl ys[k].1)) = Maps.size D by omega, h.lt]
      constructor
      · rintro ⟨j, hj, hjk, hx⟩
        exact ⟨j, hj, by omega, hx⟩
      · rintro ⟨j, hj, hjk, hx⟩
        by_cases ej : j = k
        · subst ej
          apply Classical.byContradiction
          intro hno
          exact hd (hh.2 ⟨hx, fun i hi hij e => hno ⟨i, hi, hij, by rw [e]; exact hx⟩⟩)
        · exact ⟨j, hj, by omega, hx⟩
theorem Inv.end' {xs ys : List Wt} {k : Nat} {D : DataW Unit} (h : Inv (plc xs 0) ys k D) (hk : ys.length ≤ k) : decide (Maps.size D < Maps.size (plc xs 0)) = meetB xs ys := by
  have e : (Maps.size D < Maps.size (plc xs 0)) ↔ meetB xs ys = true := by
    rw [h.lt]
    unfold meetB
    rw [List.any_eq_true]
    constructor
    · rintro ⟨j, hj, _, hx⟩
      obtain ⟨x, hx, e⟩ := (plc_has xs 0 _).1 hx
      exact ⟨x, hx, by rw [List.any_eq_true]; exact ⟨ys[j], List.getElem_mem hj, by simpa using e⟩⟩
    · rintro ⟨x, hx, hy⟩
      rw [List.any_eq_true] at hy
      obtain ⟨y, hy, e⟩ := hy
      obtain ⟨j, hj, rfl⟩ := List.getElem_of_mem hy
      exact ⟨j, hj, by omega, (plc_has xs 0 _).2 ⟨x, hx, by simpa using e⟩⟩
  cases hm : meetB xs ys
  · rw [hm] at e; simpa using e
  · rw [hm] at e; simpa using e

/-- the first k keys of xs are none of ys -/
def NoM (xs ys : List Wt) (k : Nat) : Prop := ∀ j (hj : j < xs.length), j < k → ∀ i (hi : i < ys.length), xs[j].1 ≠ ys[i].1
def NoN (s : ByteArray) (ys : List Wt) (k : Nat) : Prop := ∀ i (hi : i < ys.length), i < k → s ≠ ys[i].1
theorem meet_yes {xs ys : List Wt} (k m : Nat) (hk : k < xs.length) (hm : m < ys.length) (h : xs[k].1 = ys[m].1) : meetB xs ys = true := by
  unfold meetB
  rw [List.any_eq_true]
  exact ⟨xs[k], List.getElem_mem hk, by rw [List.any_eq_true]; exact ⟨ys[m], List.getElem_mem hm, by simpa using h⟩⟩
theorem meet_no {xs ys : List Wt} {k : Nat} (h : NoM xs ys k) (hk : xs.length ≤ k) : meetB xs ys = false := by
  unfold meetB
  rw [List.any_eq_false]
  intro r hr
  obtain ⟨j, hj, rfl⟩ := List.getElem_of_mem hr
  rw [Bool.not_eq_true, List.any_eq_false]
  intro x hx
  obtain ⟨i, hi, rfl⟩ := List.getElem_of_mem hx
  simpa using h j hj (by omega) i hi
theorem nom_more {xs ys : List Wt} {k m : Nat} (h : NoM xs ys k) (hk : k < xs.length) (h2 : NoN xs[k].1 ys m) (hm : ys.length ≤ m) : NoM xs ys (k + 1) := fun j hj hjk i hi => by
  by_cases e : j = k
  · subst e; exact h2 i hi (by omega)
  · exact h j hj (by omega) i hi
theorem non_more {s : ByteArray} {ys : List Wt} {m : Nat} (h : NoN s ys m) (hm : m < ys.length) (h2 : s ≠ ys[m].1) : NoN s ys (m + 1) := fun i hi him => by
  by_cases e : i = m
  · subst e; exact h2
  · exact h i hi (by omega)

end Go.Proofs.YtpnnncfbodfnhaaGreat

namespace Go.Proofs.YtpnnncfbodfnhaaGreat
open Go.RowKit
open KM
attribute [local go_sem ↓] Go.wp_at_zero Go.wp_at_succ

/-- whether a saw b let through when it began -/
def seesB (a b : Tx) : Bool := decide (b.st = 3) && decide (b.cs ≤ a.snap)
/-- both were there at once -/
def besB (a b : Tx) : Bool := decide (a.id ≠ b.id) && !seesB a b && !seesB b a
/-- a read what b writes -/
def ahB (a b : Tx) : Bool := besB a b && touchB a.rs b.ws
/-- t is blocked by x -/
def blkB (t x : Tx) : Bool := decide (t.id ≠ x.id) && !seesB t x && (decide (x.st = 2) || decide (x.st = 3)) && meetB t.ws x.ws
set_option maxRecDepth 100000 in
set_option maxHeartbeats 2000000 in
theorem isees (a b : Tx) (ra wa : Option Addr) (rc wc : Nat) (ra2 wa2 : Option Addr) (rc2 wc2 : Nat) (w : World) :
    Calls Tryz.prog 247 #[.agg #[.int .i64 a.id, .int .i64 a.st, .int .i64 a.snap, .int .i64 a.cs, .slice ra a.rs.length rc, .slice wa a.ws.length wc, .bool a.out, .string a.nm], .agg #[.int .i64 b.id, .int .i64 b.st, .int .i64 b.snap, .int .i64 b.cs, .slice ra2 b.rs.length rc2, .slice wa2 b.ws.length wc2, .bool b.out, .string b.nm]] w fun e w' => e = .returned (.bool (seesB a b)) ∧ Below w.heap.size w w' := by
  by_cases h1 : b.st = 3
  · by_cases h2 : b.cs ≤ a.snap
    · have HR : Hid (seesB a b = true) := by show _ = _; simp [seesB, h1, h2]
      go_enter Tryz.func247, Tryz.ntmps247
      go_wp2
      go_ret
      exact ⟨ret_bool HR.out.symm, ((belowRefl w).alloc (Nat.le_refl _) _).alloc (by simp) _⟩
    · have HR : Hid (seesB a b = false) := by show _ = _; simp [seesB, h1, h2]
      go_enter Tryz.func247, Tryz.ntmps247
      go_wp2
      go_ret
      exact ⟨ret_bool HR.out.symm, ((belowRefl w).alloc (Nat.le_refl _) _).alloc (by simp) _⟩
  · have HR : Hid (seesB a b = false) := by show _ = _; simp [seesB, h1]
    go_enter Tryz.func247, Tryz.ntmps247
    go_wp2
    go_ret
    exact ⟨ret_bool HR.out.symm, ((belowRefl w).alloc (Nat.le_refl _) _).alloc (by simp) _⟩

set_option maxRecDepth 100000 in
set_option maxHeartbeats 2000000 in
theorem ibeside (a b : Tx) (ra wa : Option Addr) (rc wc : Nat) (ra2 wa2 : Option Addr) (rc2 wc2 : Nat) (w : World) :
    Calls Tryz.prog 227 #[.agg #[.int .i64 a.id, .int .i64 a.st, .int .i64 a.snap, .int .i64 a.cs, .slice ra a.rs.length rc, .slice wa a.ws.length wc, .bool a.out, .string a.nm], .agg #[.int .i64 b.id, .int .i64 b.st, .int .i64 b.snap, .int .i64 b.cs, .slice ra2 b.rs.length rc2, .slice wa2 b.ws.length wc2, .bool b.out, .string b.nm]] w fun e w' => e = .returned (.bool (besB a b)) ∧ Below w.heap.size w w' := by
  have HB0 : Hid (Below w.heap.size w ((w.alloc (.cells #[.int .i64 a.id, .int .i64 a.st, .int .i64 a.snap, .int .i64 a.cs, .slice ra a.rs.length rc, .slice wa a.ws.length wc, .bool a.out, .string a.nm] 37)).alloc (.cells #[.int .i64 b.id, .int .i64 b.st, .int .i64 b.snap, .int .i64 b.cs, .slice ra2 b.rs.length rc2, .slice wa2 b.ws.length wc2, .bool b.out, .string b.nm] 37))) := ((belowRefl w).alloc (Nat.le_refl _) _).alloc (by simp) _
  have BA0 : Hid (Bx ((w.alloc (.cells #[.int .i64 a.id, .int .i64 a.st, .int .i64 a.snap, .int .i64 a.cs, .slice ra a.rs.length rc, .slice wa a.ws.length wc, .bool a.out, .string a.nm] 37)).alloc (.cells #[.int .i64 b.id, .int .i64 b.st, .int .i64 b.snap, .int .i64 b.cs, .slice ra2 b.rs.length rc2, .slice wa2 b.ws.length wc2, .bool b.out, .string b.nm] 37)) w.heap.size [.int .i64 a.id, .int .i64 a.st, .int .i64 a.snap, .int .i64 a.cs, .slice ra a.rs.length rc, .slice wa a.ws.length wc, .bool a.out, .string a.nm]) := (Bx.new w [.int .i64 a.id, .int .i64 a.st, .int .i64 a.snap, .int .i64 a.cs, .slice ra a.rs.length rc, .slice wa a.ws.length wc, .bool a.out, .string a.nm] 37).alloc _
  have BB0 : Hid (Bx ((w.alloc (.cells #[.int .i64 a.id, .int .i64 a.st, .int .i64 a.snap, .int .i64 a.cs, .slice ra a.rs.length rc, .slice wa a.ws.length wc, .bool a.out, .string a.nm] 37)).alloc (.cells #[.int .i64 b.id, .int .i64 b.st, .int .i64 b.snap, .int .i64 b.cs, .slice ra2 b.rs.length rc2, .slice wa2 b.ws.length wc2, .bool b.out, .string b.nm] 37)) (w.heap.size + 1) [.int .i64 b.id, .int .i64 b.st, .int .i64 b.snap, .int .i64 b.cs, .slice ra2 b.rs.length rc2, .slice wa2 b.ws.length wc2, .bool b.out, .string b.nm]) := by have h := Bx.new (w.alloc (.cells #[.int .i64 a.id, .int .i64 a.st, .int .i64 a.snap, .int .i64 a.cs, .slice ra a.rs.length rc, .slice wa a.ws.length wc, .bool a.out, .string a.nm] 37)) [.int .i64 b.id, .int .i64 b.st, .int .i64 b.snap, .int .i64 b.cs, .slice ra2 b.rs.length rc2, .slice wa2 b.ws.length wc2, .bool b.out, .string b.nm] 37; simpa [Hid] using h
  by_cases h1 : a.id = b.id
  · have h1' : (a.id != b.id) = false := by simp [h1]
    have h1'' : decide (a.id = b.id) = true := by simp [h1]
    have HR : Hid (besB a b = false) := by show _ = _; simp [besB, h1]
    clear h1
    go_enter Tryz.func227, Tryz.ntmps227
    go_wp2
    go_ret
    exact ⟨ret_bool HR.out.symm, HB0.out⟩
  · have h1' : (a.id != b.id) = true := by simp [h1]
    have h1'' : decide (a.id = b.id) = false := by simp [h1]
    have E1 : Hid (besB a b = (!seesB a b && !seesB b a)) := by show _ = _; simp [besB, h1]
    clear h1
    have H1 := hide (isees a b ra wa rc wc ra2 wa2 rc2 wc2)
    have H2 := hide (isees b a ra2 wa2 rc2 wc2 ra wa rc wc)
    cases hs : seesB a b
    · rw [hs] at H1 E1
      go_enter Tryz.func227, Tryz.ntmps227
      go_wp2_with fail
      refine (H1.out _).mono ?_
      rintro e w1 ⟨rfl, hb1⟩
      have HB1 : Hid (Below w.heap.size w w1) := HB0.out.trans (hb1.mono HB0.out.size)
      have BA1 : Hid (Bx w1 w.heap.size [.int .i64 a.id, .int .i64 a.st, .int .i64 a.snap, .int .i64 a.cs, .slice ra a.rs.length rc, .slice wa a.ws.length wc, .bool a.out, .string a.nm]) := BA0.out.below hb1
      have BB1 : Hid (Bx w1 (w.heap.size + 1) [.int .i64 b.id, .int .i64 b.st, .int .i64 b.snap, .int .i64 b.cs, .slice ra2 b.rs.length rc2, .slice wa2 b.ws.length wc2, .bool b.out, .string b.nm]) := BB0.out.below hb1
      clear hb1
      have x0 := BA1.out.c0
      have x1 := BA1.out.c1
      have x2 := BA1.out.c2
      have x3 := BA1.out.c3
      have x4 := BA1.out.c4
      have x5 := BA1.out.c5
      have x6 := BA1.out.c6
      have x7 := BA1.out.c7
      have y0 := BB1.out.c0
      have y1 := BB1.out.c1
      have y2 := BB1.out.c2
      have y3 := BB1.out.c3
      have y4 := BB1.out.c4
      have y5 := BB1.out.c5
      have y6 := BB1.out.c6
      have y7 := BB1.out.c7
      go_wp2_with fail
      refine (H2.out _).mono ?_
      rintro e w2 ⟨rfl, hb2⟩
      have HB2 : Hid (Below w.heap.size w w2) := HB1.out.trans (hb2.mono HB1.out.size)
      have BA2 : Hid (Bx w2 w.heap.size [.int .i64 a.id, .int .i64 a.st, .int .i64 a.snap, .int .i64 a.cs, .slice ra a.rs.length rc, .slice wa a.ws.length wc, .bool a.out, .string a.nm]) := BA1.out.below hb2
      have BB2 : Hid (Bx w2 (w.heap.size + 1) [.int .i64 b.id, .int .i64 b.st, .int .i64 b.snap, .int .i64 b.cs, .slice ra2 b.rs.length rc2, .slice wa2 b.ws.length wc2, .bool b.out, .string b.nm]) := BB1.out.below hb2
      go_wp2
      go_ret
      exact ⟨ret_bool (by rw [E1.out]; simp), HB2.out⟩
    · rw [hs] at H1 E1
      go_enter Tryz.func227, Tryz.ntmps227
      go_wp2_with fail
      refine (H1.out _).mono ?_
      rintro e w1 ⟨rfl, hb1⟩
      have HB1 : Hid (Below w.heap.size w w1) := HB0.out.trans (hb1.mono HB0.out.size)
      have BA1 : Hid (Bx w1 w.heap.size [.int .i64 a.id, .int .i64 a.st, .int .i64 a.snap, .int .i64 a.cs, .slice ra a.rs.length rc, .slice wa a.ws.length wc, .bool a.out, .string a.nm]) := BA0.out.below hb1
      have BB1 : Hid (Bx w1 (w.heap.size + 1) [.int .i64 b.id, .int .i64 b.st, .int .i64 b.snap, .int .i64 b.cs, .slice ra2 b.rs.length rc2, .slice wa2 b.ws.length wc2, .bool b.out, .string b.nm]) := BB0.out.below hb1
      go_wp2
      go_ret
      exact ⟨ret_bool (by rw [E1.out]; simp), HB1.out⟩


end Go.Proofs.YtpnnncfbodfnhaaGreat

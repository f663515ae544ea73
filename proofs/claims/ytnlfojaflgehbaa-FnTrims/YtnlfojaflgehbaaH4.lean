/- What spec.ScanAt does. -/
import Derived.Test.YtnlfojaflgehbaaH3
namespace Go.Proofs.Ytnlfojaflgehbaa
open Go.RowKit
open KM
open VM
attribute [local go_sem ↓] Go.wp_at_zero Go.wp_at_succ

theorem fm_no {α β : Type} {f : α → Option β} {l : List α} {i : Nat} (h : i < l.length) (hf : f l[i] = none) : (l.take (i + 1)).filterMap f = (l.take i).filterMap f := by
  rw [List.take_succ_eq_append_getElem h, List.filterMap_append]
  simp [hf]
theorem fm_yes {α β : Type} {f : α → Option β} {l : List α} {i : Nat} {p : β} (h : i < l.length) (hf : f l[i] = some p) : (l.take (i + 1)).filterMap f = (l.take i).filterMap f ++ [p] := by
  rw [List.take_succ_eq_append_getElem h, List.filterMap_append]
  simp [hf]
/-- a key and its value, if it is seen -/
def pairF (vs : List Vr) (s : Int) (k : ByteArray) : Option Rg := (seenB vs k s).map fun v => (k, v)

set_option maxRecDepth 100000 in
set_option maxHeartbeats 4000000 in
theorem sscan (vs : List Vr) (a : Option Addr) (c : Nat) (rg : Rg) (s : Int) (hn : vs.length ≤ 10000000) (w : World) (hp : GRow encV w a vs) :
    Calls Try.prog 30 #[.slice a vs.length c, .agg #[.string rg.1, .string rg.2], .int .i64 s] w fun e w' => ∃ a1 c1, e = .returned (.slice a1 (scanB vs rg s).length c1) ∧ GOwn encR 87 w' w.heap.size (.slice a1 (scanB vs rg s).length c1) (scanB vs rg s) ∧ Below w.heap.size w w' := by
  have HP : Hid (GRow encV w a vs) := hp
  clear hp
  have X0 : Hid (Bx (w.alloc (.cells #[.string rg.1, .string rg.2] 40)) w.heap.size [.string rg.1, .string rg.2]) := Bx.new w [.string rg.1, .string rg.2] 40
  have HB0 : Hid (Below w.heap.size w (w.alloc (.cells #[.string rg.1, .string rg.2] 40))) := (belowRefl w).alloc (Nat.le_refl _) _
  have HS0 : Hid ((w.alloc (.cells #[.string rg.1, .string rg.2] 40)).heap.size = w.heap.size + 1) := World.size_alloc _ _
  have HO0 : Hid (GOwn encR 87 ((w.alloc (.cells #[.string rg.1, .string rg.2] 40)).alloc (.cells #[] 87)) (w.heap.size + 1) (.slice (some ⟨w.heap.size + 1, 0, none⟩) 0 0) []) := by
    have h := GOwn.empty (E := encR) (e := 87) (w.alloc (.cells #[.string rg.1, .string rg.2] 40)) (w.heap.size + 1) (by rw [World.size_alloc]; exact Nat.le_refl _)
    rw [World.size_alloc] at h
    exact h
  have HAw : Hid (Away (.slice (some ⟨w.heap.size + 1, 0, none⟩) 0 0) (w.heap.size + 2) (w.heap.size + 2)) := fun g hg => by have := Option.some.inj hg; simp at this; omega
  have HSa : Hid (((w.alloc (.cells #[.string rg.1, .string rg.2] 40)).alloc (.cells #[] 87)).heap.size = w.heap.size + 2) := by show _ = _; simp
  have HBa : Hid (Below w.heap.size w ((w.alloc (.cells #[.string rg.1, .string rg.2] 40)).alloc (.cells #[] 87))) := HB0.out.alloc HB0.out.size _
  have Xa : Hid (Bx ((w.alloc (.cells #[.string rg.1, .string rg.2] 40)).alloc (.cells #[] 87)) w.heap.size [.string rg.1, .string rg.2]) := X0.out.alloc _
  have x0 := Xa.out.c0
  have x1 := Xa.out.c1
  go_enter Try.func30, Try.ntmps30
  go_wp2_with fail
  generalize (w.alloc (.cells #[.string rg.1, .string rg.2] 40)).alloc (.cells #[] 87) = W at *
  refine (keys69 vs a c rg hn _ (HP.out.below HBa.out)).mono ?_
  rintro e w1 ⟨ao, cap, rfl, hr, hb1⟩
  have HL : Hid (scanB vs rg s = ((keysB (vs.map (·.1))).filter (inB rg)).filterMap (pairF vs s)) := scan_filter vs rg s
  have hkl : ((keysB (vs.map (·.1))).filter (inB rg)).length ≤ 10000000 := by
    refine Nat.le_trans (List.length_filter_le _ _) (Nat.le_trans (keys_len _) ?_)
    rw [List.length_map]; exact hn
  generalize (keysB (vs.map (·.1))).filter (inB rg) = ks at hr HL hkl ⊢
  have HR : Hid (GRow encS w1 ao ks) := hr.grow
  have HRb : Hid (∀ b off, ao = some ⟨b, off, none⟩ → W.heap.size ≤ b ∧ b < w1.heap.size) := fun b off e => by
    subst e
    exact World.ownsRow.lt hr b rfl
  have HO1 := hide (HO0.out.below hb1)
  have HA1 : Hid (Away (.slice (some ⟨w.heap.size + 1, 0, none⟩) 0 0) W.heap.size w1.heap.size) := fun g hg => by have := Option.some.inj hg; have := HSa.out; simp at *; omega
  have HB1 : Hid (Below w.heap.size w w1) := HBa.out.trans (hb1.mono HBa.out.size)
  have HS1 : Hid (w.heap.size + 1 ≤ w1.heap.size) := Nat.le_trans Xa.out.lt hb1.size
  clear hr hb1 x0 x1 Xa HBa HO0 X0 HB0 HS0
  go_wp2
  go_loopw [7, 9] (fun v t wr => ∃ i : Nat, i ≤ ks.length ∧ t = .int .i64 i ∧ Hid (GOwn encR 87 wr (w.heap.size + 1) v ((ks.take i).filterMap (pairF vs s))) ∧ Hid (GRow encS wr ao ks) ∧ Hid (Away v W.heap.size w1.heap.size) ∧ Hid (w1.heap.size ≤ wr.heap.size) ∧ Hid (Below w.heap.size w wr)) (fun _ t _ => ks.length - (intOf t).toNat)
  case atStart => exact ⟨0, Nat.zero_le _, rfl, HO1, HR, HA1, Nat.le_refl _, HB1⟩
  case round =>
    obtain ⟨i, hi, rfl, HO, HRi, HAv, HSr, HB⟩ := hrel
    by_cases hlt : i < ks.length
    · have hlt' : (i : Int) < (ks.length : Int) := by omega
      have hi0 : (0 : Int) ≤ (i : Int) := by omega
      obtain ⟨b, off, rfl, hbl, hc⟩ := HRi.out (by omega)
      have k0 := sat hc i hlt
      have HK : Hid (wr.cell? ⟨b, off + i, none⟩ = some (.string ks[i])) := k0
      clear hc
      have hll : ((ks.take i).filterMap (pairF vs s)).length ≤ 100000000 := Nat.le_trans (fmap_len _ _) (by rw [List.length_take]; omega)
      go_wp2_with fail
      refine (sseen vs a c ks[i] s (by omega) _ (HP.out.below HB.out)).mono ?_
      rintro e w2 ⟨rfl, hb2⟩
      have HO2 := hide (HO.out.below hb2)
      have HR2 := hide (HRi.out.below hb2)
      have HB2 : Hid (Below w.heap.size w w2) := HB.out.trans (hb2.mono HB.out.size)
      have HS2 : Hid (w1.heap.size ≤ w2.heap.size) := Nat.le_trans HSr.out hb2.size
      have k2 := (hb2.cell (p := ⟨b, off + i, none⟩) hbl).trans HK.out
      clear hb2 k0 HK HO HRi HB
      cases hs : seenB vs ks[i] s with
      | none =>
        rw [sawB_none]
        have ho2 := HO2.out
        rw [← fm_no (f := pairF vs s) hlt (by unfold pairF; rw [hs]; rfl)] at ho2
        have HO3 := hide ho2
        clear ho2 hs
        go_wp2
        go_roundw
        case rel => exact ⟨i + 1, by omega, by go_num, HO3, HR2, HAv, HS2, HB2⟩
        case measure => simp [intOf]; omega
      | some t =>
        rw [sawB_some]
        have HP2 : Hid ((ks.take (i + 1)).filterMap (pairF vs s) = (ks.take i).filterMap (pairF vs s) ++ [(ks[i], t)]) := fm_yes hlt (by unfold pairF; rw [hs]; rfl)
        have hsz : w.heap.size + 1 ≤ w2.heap.size := Nat.le_trans HS1.out HS2.out
        clear hs
        go_wp2_with (at_builtin; refine wpAppKP rfl _ _ rfl (ks[i], t) rfl HO2.out rfl hll hsz ?_)
        intro v' w' ho' hb' hg' hv'
        have HR3 : Hid (GRow encS w' (some ⟨b, off, none⟩) ks) := HR2.out.grown hg' (fun b1 off1 e he => by
          have h1 := HRb.out b1 off1 e
          rcases HAv.out b1 he with h | h <;> omega)
        have HA3 : Hid (Away v' W.heap.size w1.heap.size) := HAv.out.next HS2.out hv'
        have HS3 : Hid (w1.heap.size ≤ w'.heap.size) := Nat.le_trans HS2.out hg'.size
        have HO3 : Hid (GOwn encR 87 w' (w.heap.size + 1) v' ((ks.take (i + 1)).filterMap (pairF vs s))) := by
          show GOwn _ _ _ _ _ _
          rw [HP2.out]; exact ho'
        have HB3 : Hid (Below w.heap.size w w') := HB2.out.trans (hb'.mono (by omega))
        clear ho' hb' hg' hv'
        go_wp2
        go_roundw
        case rel => exact ⟨i + 1, by omega, by go_num, HO3, HR3, HA3, HS3, HB3⟩
        case measure => simp [intOf]; omega
    · have hlt' : ¬ (i : Int) < (ks.length : Int) := by omega
      have ho := HO.out
      rw [List.take_of_length_le (by omega), ← HL.out] at ho
      obtain ⟨a1, c1, rfl, _⟩ := ho.row
      have HO1 : Hid (GOwn encR 87 wr w.heap.size (.slice a1 (scanB vs rg s).length c1) (scanB vs rg s)) := ho.mono (by omega)
      clear ho HO
      go_wp2
      go_ret
      exact ⟨a1, c1, rfl, HO1.out, HB.out⟩
end Go.Proofs.Ytnlfojaflgehbaa

/- What chainOf does. -/
import Derived.Test.YtbajpnbodhhmjaaPq12
namespace Go.Proofs.Ytbajpnbodhhmjaa
open Go.RowKit
open KM
open VM
attribute [local go_sem ↓] Go.wp_at_zero Go.wp_at_succ

def zV : Vr := (⟨#[]⟩, ⟨#[]⟩, false, 0)
theorem chn_first (w : World) : Chn ((w.alloc (.cells #[.string ⟨#[]⟩, .string ⟨#[]⟩, .bool false, .int .i64 0, .pointer none] 102)).alloc (.cells #[.pointer (some ⟨w.heap.size, 0, none⟩)] 104)) w.heap.size (w.heap.size + 1) ([] ++ [(w.heap.size, zV)]) := by
  have h1 : Bx (w.alloc (.cells #[.string ⟨#[]⟩, .string ⟨#[]⟩, .bool false, .int .i64 0, .pointer none] 102)) w.heap.size (ndc zV none) := Bx.new w (ndc zV none) 102
  have h2 := Bx.new (w.alloc (.cells #[.string ⟨#[]⟩, .string ⟨#[]⟩, .bool false, .int .i64 0, .pointer none] 102)) [.pointer (some ⟨w.heap.size, 0, none⟩)] 104
  rw [World.size_alloc] at h2
  refine ⟨h2, ⟨h1.alloc _, trivial⟩, by simp, by simp⟩
theorem fst_ne {w : World} {base c : Nat} {A : List Nd} {m : Nd} (h : Chn w base c (A ++ [m])) (b : Nat) (v : Vr) (hb : w.heap.size ≤ b) : (c :: (A ++ m :: [(b, v)]).map (·.1)).Nodup := by
  have e : (c :: (A ++ m :: [(b, v)]).map (·.1)) = (c :: (A ++ [m]).map (·.1)) ++ [b] := by simp
  rw [e, List.nodup_append]
  refine ⟨h.nd, by simp, fun x hx y hy => ?_⟩
  have := h.lt x hx
  simp at hy
  omega
theorem chn_more {w : World} {base c : Nat} {A : List Nd} {m : Nd} (h : Chn w base c (A ++ [m])) (hb : base ≤ w.heap.size) (v : Vr) :
    Chn (((w.alloc (.cells #[.string v.1, .string v.2.1, .bool v.2.2.1, .int .i64 v.2.2.2] 86)).alloc (.cells #[.string v.1, .string v.2.1, .bool v.2.2.1, .int .i64 v.2.2.2, .pointer none] 102)).setCell ⟨m.1, 4, none⟩ (.pointer (some ⟨w.heap.size + 1, 0, none⟩))) base c ((A ++ [m]) ++ [(w.heap.size + 1, v)]) := by
  have h1 := (h.below ((belowRefl w).alloc (Nat.le_refl _) (.cells #[.string v.1, .string v.2.1, .bool v.2.2.1, .int .i64 v.2.2.2] 86))).below ((belowRefl _).alloc (Nat.le_refl _) (.cells #[.string v.1, .string v.2.1, .bool v.2.2.1, .int .i64 v.2.2.2, .pointer none] 102))
  have h2 := Bx.new (w.alloc (.cells #[.string v.1, .string v.2.1, .bool v.2.2.1, .int .i64 v.2.2.2] 86)) (ndc v none) 102
  rw [World.size_alloc] at h2
  have h3 := h1.next (C := [(w.heap.size + 1, v)]) ⟨h2, trivial⟩ (fst_ne h (w.heap.size + 1) v (by omega)) (fun n hn => by rw [List.mem_singleton.1 hn]; show base ≤ w.heap.size + 1; omega)
  rw [List.append_assoc]
  exact h3

set_option maxRecDepth 100000 in
set_option maxHeartbeats 2000000 in
theorem chain45 (xs : List Vr) (a : Option Addr) (c : Nat) (hn : xs.length ≤ 100000000) (w : World) (hp : GRow encV w a xs) :
    Calls Try.prog 44 #[.slice a xs.length c] w fun e w' => e = .returned (.pointer (some ⟨w.heap.size + 1, 0, none⟩)) ∧ (∃ (r : Nat) (ns : List Nd), Chn w' w.heap.size (w.heap.size + 1) ((r, zV) :: ns) ∧ ns.map (·.2) = xs) ∧ Below w.heap.size w w' := by
  have HP : Hid (GRow encV w a xs) := hp
  clear hp
  have H0 : Hid (Chn ((w.alloc (.cells #[.string ⟨#[]⟩, .string ⟨#[]⟩, .bool false, .int .i64 0, .pointer none] 102)).alloc (.cells #[.pointer (some ⟨w.heap.size, 0, none⟩)] 104)) w.heap.size (w.heap.size + 1) ([] ++ [(w.heap.size, zV)])) := chn_first w
  have B0 : Hid (Below w.heap.size w ((w.alloc (.cells #[.string ⟨#[]⟩, .string ⟨#[]⟩, .bool false, .int .i64 0, .pointer none] 102)).alloc (.cells #[.pointer (some ⟨w.heap.size, 0, none⟩)] 104))) := ((belowRefl w).alloc (Nat.le_refl _) _).alloc (by simp) _
  go_enter Try.func44, Try.ntmps44
  go_wp2
  go_loopw [4, 17] (fun t4 t wr => ∃ (k : Nat) (A : List Nd) (m : Nd), k ≤ xs.length ∧ t = .int .i64 k ∧ t4 = .pointer (some ⟨m.1, 0, none⟩) ∧ Hid (Chn wr w.heap.size (w.heap.size + 1) (A ++ [m])) ∧ Hid ((A ++ [m]).map (·.2) = zV :: xs.take k) ∧ Hid (Below w.heap.size w wr)) (fun _ t _ => xs.length - (intOf t).toNat)
  case atStart => exact ⟨0, [], (w.heap.size, zV), Nat.zero_le _, rfl, rfl, H0, rfl, B0⟩
  case round =>
    obtain ⟨k, A, m, hk, rfl, rfl, HC, HV, HB⟩ := hrel
    by_cases hlt : k < xs.length
    · have hlt' : (k : Int) < (xs.length : Int) := by omega
      have h0 : (0 : Int) ≤ (k : Int) := by omega
      obtain ⟨b, off, rfl, hbl, hc⟩ := (HP.out.below HB.out) (by omega)
      have c0 := (vat hc k hlt).1
      have c1 := (vat hc k hlt).2.1
      have c2 := (vat hc k hlt).2.2.1
      have c3 := (vat hc k hlt).2.2.2
      clear hc
      have m4 := HC.out.at'.c4
      have mf := HC.out.at'.fz
      have mlt := HC.out.at'.lt
      simp only [ptq_nil] at m4
      have HC2 : Hid (Chn (((wr.setCell ⟨m.1, 4, none⟩ (.pointer (some ⟨wr.heap.size + 1, 0, none⟩))).alloc (.cells #[.string xs[k].1, .string xs[k].2.1, .bool xs[k].2.2.1, .int .i64 xs[k].2.2.2] 86)).alloc (.cells #[.string xs[k].1, .string xs[k].2.1, .bool xs[k].2.2.1, .int .i64 xs[k].2.2.2, .pointer none] 102)) w.heap.size (w.heap.size + 1) ((A ++ [m]) ++ [(wr.heap.size + 1, xs[k])])) := by
        have h := chn_more HC.out HB.out.size xs[k]
        rw [World.setCell_alloc_past _ _ _ _ (by simp; omega), World.setCell_alloc_past _ _ _ _ mlt] at h
        exact h
      have HV2 : Hid (((A ++ [m]) ++ [(wr.heap.size + 1, xs[k])]).map (·.2) = zV :: xs.take (k + 1)) := by
        show _ = _
        rw [List.map_append, HV.out, List.take_succ_eq_append_getElem hlt]; rfl
      have HB2 : Hid (Below w.heap.size w (((wr.setCell ⟨m.1, 4, none⟩ (.pointer (some ⟨wr.heap.size + 1, 0, none⟩))).alloc (.cells #[.string xs[k].1, .string xs[k].2.1, .bool xs[k].2.2.1, .int .i64 xs[k].2.2.2] 86)).alloc (.cells #[.string xs[k].1, .string xs[k].2.1, .bool xs[k].2.2.1, .int .i64 xs[k].2.2.2, .pointer none] 102))) := by
        have hs : w.heap.size ≤ (wr.setCell ⟨m.1, 4, none⟩ (.pointer (some ⟨wr.heap.size + 1, 0, none⟩))).heap.size := by simpa [World.setCell] using HB.out.size
        exact ((HB.out.setCell (HC.out.lo m.1 (by simp)) _).alloc hs _).alloc (by rw [World.size_alloc]; omega) _
      go_wp2
      go_roundw
      case rel => exact ⟨k + 1, A ++ [m], _, by omega, by go_num, rfl, HC2, HV2, HB2⟩
      case measure => simp [intOf]; omega
    · have hlt' : ¬ (k : Int) < (xs.length : Int) := by omega
      have HE : Hid (∃ (r : Nat) (ns : List Nd), Chn wr w.heap.size (w.heap.size + 1) ((r, zV) :: ns) ∧ ns.map (·.2) = xs) := by
        have hv := HV.out
        have hc := HC.out
        rw [List.take_of_length_le (by omega)] at hv
        show ∃ _ _, _
        cases hl : A ++ [m] with
        | nil => simp at hl
        | cons x l =>
          rw [hl] at hv hc
          simp only [List.map_cons, List.cons.injEq] at hv
          obtain ⟨r, v⟩ := x
          have e : v = zV := hv.1
          subst e
          exact ⟨r, l, hc, hv.2⟩
      go_wp2
      go_ret
      exact ⟨rfl, HE.out, HB.out⟩
end Go.Proofs.Ytbajpnbodhhmjaa

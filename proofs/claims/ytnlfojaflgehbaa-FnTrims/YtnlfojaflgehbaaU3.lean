/- What impl.PutVersions makes where none is alike. -/
import Derived.Test.YtnlfojaflgehbaaU2
namespace Go.Proofs.Ytnlfojaflgehbaa
open Go.RowKit
open KM
open VM
attribute [local go_sem ↓] Go.wp_at_zero Go.wp_at_succ

theorem mem_ins {l : List Vr} {v x : Vr} : x ∈ insV l v ↔ x = v ∨ x ∈ l := by
  unfold insV
  have h : x ∈ l ↔ x ∈ l.takeWhile (leV v) ∨ x ∈ l.dropWhile (leV v) := by
    rw [← List.mem_append, List.takeWhile_append_dropWhile]
  rw [h]
  simp only [List.mem_append, List.mem_cons]
  constructor
  · rintro (h | h | h)
    · exact Or.inr (Or.inl h)
    · exact Or.inl h
    · exact Or.inr (Or.inr h)
  · rintro (h | h | h)
    · exact Or.inr (Or.inl h)
    · exact Or.inl h
    · exact Or.inr (Or.inr h)
theorem mem_put {cs : Int} {x : Vr} : ∀ {ws : List Wt} {l : List Vr}, x ∈ putV l ws cs ↔ x ∈ l ∨ ∃ y ∈ ws, x = verOf cs y := by
  intro ws
  induction ws with
  | nil => intro l; simp [putV]
  | cons y ws ih =>
    intro l
    have e : putV l (y :: ws) cs = putV (insV l (verOf cs y)) ws cs := rfl
    rw [e, ih, mem_ins]
    constructor
    · rintro ((h | h) | ⟨z, hz, h⟩)
      · exact Or.inr ⟨y, by simp, h⟩
      · exact Or.inl h
      · exact Or.inr ⟨z, by simp [hz], h⟩
    · rintro (h | ⟨z, hz, h⟩)
      · exact Or.inl (Or.inr h)
      · rcases List.mem_cons.1 hz with rfl | hz
        · exact Or.inl (Or.inl h)
        · exact Or.inr ⟨z, hz, h⟩
theorem no_alike {xs : List Vr} {ws : List Wt} {cs : Int} (hx : ∀ x ∈ xs, x.2.2.2 ≠ cs) (hw : ws.Pairwise (fun a b => a.1 ≠ b.1)) (i : Nat) (h : i < ws.length) : ∀ x ∈ putV xs (ws.take i) cs, ¬ (x.1 = ws[i].1 ∧ x.2.2.2 = cs) := by
  intro x hm ⟨e1, e2⟩
  rcases mem_put.1 hm with h1 | ⟨y, hy, rfl⟩
  · exact hx x h1 e2
  · obtain ⟨j, hj, rfl⟩ := List.mem_iff_getElem.1 hy
    rw [List.length_take] at hj
    have := List.pairwise_iff_getElem.1 hw j i (by omega) h (by omega)
    rw [List.getElem_take] at e1
    exact this e1

set_option maxRecDepth 100000 in
set_option maxHeartbeats 4000000 in
theorem iputv (xs : List Vr) (ws : List Wt) (a1 a2 : Option Addr) (c1 c2 : Nat) (cs : Int) (hn : xs.length ≤ 1000000) (hm : ws.length ≤ 1000000) (hf : VFit xs) (hg : WFit ws) (hx : ∀ x ∈ xs, x.2.2.2 ≠ cs) (hw : ws.Pairwise (fun a b => a.1 ≠ b.1)) (w : World) (hp : GRow encV w a1 xs) (hq : GRow encW w a2 ws) :
    Calls Try.prog 13 #[.slice a1 xs.length c1, .slice a2 ws.length c2, .int .i64 cs] w fun e w' => ∃ a3 c3, e = .returned (.slice a3 (putV xs ws cs).length c3) ∧ GOwn encV 74 w' w.heap.size (.slice a3 (putV xs ws cs).length c3) (putV xs ws cs) ∧ Below w.heap.size w w' := by
  have HP : Hid (GRow encV w a1 xs) := hp
  have HQ : Hid (GRow encW w a2 ws) := hq
  have HNo : Hid (∀ (i : Nat) (h : i < ws.length), ∀ x ∈ putV xs (ws.take i) cs, ¬ (x.1 = ws[i].1 ∧ x.2.2.2 = cs)) := no_alike hx hw
  have HZ : Hid (∀ x ∈ putV xs ws cs, x.1.size ≤ 281474976710656 ∧ x.2.1.size ≤ 281474976710656) := fun x h => by
    rcases mem_put.1 h with h1 | ⟨y, hy, rfl⟩
    · have := hf x h1; omega
    · have := hg y hy
      show y.1.size ≤ _ ∧ y.2.1.size ≤ _
      omega
  clear hp hq hf hg hx hw
  go_enter Try.func13, Try.ntmps13
  go_wp2_with fail
  refine (chain45 xs a1 c1 (by omega) _ HP.out).mono ?_
  rintro e w1 ⟨rfl, ⟨r, ns, hc, hv⟩, hb1⟩
  obtain ⟨cc, hcc⟩ : ∃ cc, cc = w.heap.size + 1 := ⟨_, rfl⟩
  rw [← hcc] at hc ⊢
  clear hcc
  have HC1 : Hid (∃ ns : List Nd, Chn w1 w.heap.size cc ((r, zV) :: ns) ∧ ns.map (·.2) = putV xs (ws.take 0) cs) := ⟨ns, hc, hv⟩
  have HB1 : Hid (Below w.heap.size w w1) := hb1
  clear hc hv hb1 ns
  go_wp2
  go_loopw [14] (fun t wr => ∃ i : Nat, i ≤ ws.length ∧ t = .int .i64 i ∧ Hid (∃ ns : List Nd, Chn wr w.heap.size cc ((r, zV) :: ns) ∧ ns.map (·.2) = putV xs (ws.take i) cs) ∧ Hid (Below w.heap.size w wr)) (fun t _ => ws.length - (intOf t).toNat)
  case atStart => exact ⟨0, Nat.zero_le _, rfl, HC1, HB1⟩
  case round =>
    clear HC1 HB1
    obtain ⟨i, hi, rfl, HC, HB⟩ := hrel
    obtain ⟨ns, hc, hv⟩ := HC.out
    have HCn : Hid (Chn wr w.heap.size cc ((r, zV) :: ns)) := hc
    have HV : Hid (ns.map (·.2) = putV xs (ws.take i) cs) := hv
    have hnl : ns.length ≤ 10000000 := by
      rw [← List.length_map (f := fun x : Nd => x.2), hv, put_len, List.length_take]; omega
    clear hc hv HC
    by_cases hlt : i < ws.length
    · have hlt' : (i : Int) < (ws.length : Int) := by omega
      have hi0 : (0 : Int) ≤ (i : Int) := by omega
      obtain ⟨b, off, rfl, hbl, hc⟩ := (HQ.out.below HB.out) (by omega)
      have d0 := (wat hc i hlt).1
      have d1 := (wat hc i hlt).2.1
      have d2 := (wat hc i hlt).2.2
      clear hc
      have HNa : Hid (∀ n ∈ ns, ¬ (n.2.1 = (verOf cs ws[i]).1 ∧ n.2.2.2.2 = (verOf cs ws[i]).2.2.2)) := fun n hn => HNo.out i hlt n.2 (by rw [← HV.out]; exact List.mem_map.2 ⟨n, hn, rfl⟩)
      have HPs : Hid (putV xs (ws.take (i + 1)) cs = insV (putV xs (ws.take i) cs) (verOf cs ws[i])) := putV_snoc xs ws cs i hlt
      have HBx : Hid (Below w.heap.size w (wr.alloc (.cells #[.string ws[i].1, .string ws[i].2.1, .bool ws[i].2.2] 32))) := HB.out.alloc HB.out.size _
      have HCx : Hid (Chn (wr.alloc (.cells #[.string ws[i].1, .string ws[i].2.1, .bool ws[i].2.2] 32)) w.heap.size cc ((r, zV) :: ns)) := HCn.out.below ((belowRefl wr).alloc (Nat.le_refl _) _)
      go_wp2_with fail
      refine (put46 (verOf cs ws[i]) w.heap.size cc (r, zV) ns _ HCx.out HBx.out.size HNa.out).mono ?_
      rintro e w3 ⟨rfl, ⟨n2, hc2, hv2⟩, hb2⟩
      have HC2 : Hid (∃ ns : List Nd, Chn w3 w.heap.size cc ((r, zV) :: ns) ∧ ns.map (·.2) = putV xs (ws.take (i + 1)) cs) := ⟨n2, hc2, by rw [hv2, HV.out, HPs.out]⟩
      have HB2 : Hid (Below w.heap.size w w3) := HBx.out.trans hb2
      clear hc2 hv2 hb2 n2
      go_wp2
      go_roundw
      case rel => exact ⟨i + 1, by omega, by go_num, HC2, HB2⟩
      case measure => simp [intOf]; omega
    · have hlt' : ¬ (i : Int) < (ws.length : Int) := by omega
      have hil : ws.take i = ws := List.take_of_length_le (by omega)
      have HV2 : Hid (ns.map (·.2) = putV xs ws cs) := by show _ = _; rw [HV.out, hil]
      have HZ2 : Hid (∀ n ∈ ns, n.2.1.size ≤ 281474976710656 ∧ n.2.2.1.size ≤ 281474976710656) := fun n h => HZ.out n.2 (by rw [← HV2.out]; exact List.mem_map.2 ⟨n, h, rfl⟩)
      go_wp2_with fail
      refine (vers47 w.heap.size cc (r, zV) ns (by omega) HZ2.out _ HCn.out).mono ?_
      rintro e w4 ⟨a3, c3, rfl, ho, hb4⟩
      rw [HV2.out] at ho ⊢
      have HO : Hid (GOwn encV 74 w4 w.heap.size (.slice a3 (putV xs ws cs).length c3) (putV xs ws cs)) := ho.mono HB.out.size
      have HB4 : Hid (Below w.heap.size w w4) := HB.out.trans (hb4.mono HB.out.size)
      clear ho hb4
      go_wp2
      go_ret
      exact ⟨a3, c3, rfl, HO.out, HB4.out⟩
end Go.Proofs.Ytnlfojaflgehbaa

/- What impl.PutVersions makes where none is alike. -/
import Derived.Test.YtbajpnbodhhmjaaPq18
import Derived.Test.YtbajpnbodhhmjaaPq13
namespace Go.Proofs.Ytbajpnbodhhmjaa
open Go.RowKit
open KM
open VM
attribute [local go_sem ↓] Go.wp_at_zero Go.wp_at_succ

theorem mem_ins {l : List Vr} {v x : Vr} : x ∈ insV l v ↔ x = v ∨ x ∈ l := by
  unfold insV
  have h : x ∈ l ↔ x ∈ l.takeWhile (leV v) ∨ x ∈ l.dropWhile (leV v) := by
    rw [← List.mem_append, List.takeWhile_append_dropWhile]
  rw [h]
  simp only [List.mem_append, List.mem_cons]
  constructor
  · rintro (h | h | h)
    · exact Or.inr (Or.inl h)
    · exact Or.inl h
    · exact Or.inr (Or.inr h)
  · rintro (h | h | h)
    · exact Or.inr (Or.inl h)
    · exact Or.inl h
    · exact Or.inr (Or.inr h)
theorem mem_put {cs : Int} {x : Vr} : ∀ {ws : List Wt} {l : List Vr}, x ∈ putV l ws cs ↔ x ∈ l ∨ ∃ y ∈ ws, x = verOf cs y := by
  intro ws
  induction ws with
  | nil => intro l; simp [putV]
  | cons y ws ih =>
    intro l
    have e : putV l (y :: ws) cs = putV (insV l (verOf cs y)) ws cs := rfl
    rw [e, ih, mem_ins]
    constructor
    · rintro ((h | h) | ⟨z, hz, h⟩)
      · exact Or.inr ⟨y, by simp, h⟩
      · exact Or.inl h
      · exact Or.inr ⟨z, by simp [hz], h⟩
    · rintro (h | ⟨z, hz, h⟩)
      · exact Or.inl (Or.inr h)
      · rcases List.mem_cons.1 hz with rfl | hz
        · exact Or.inl (Or.inl h)
        · exact Or.inr ⟨z, hz, h⟩
theorem no_alike {xs : List Vr} {ws : List Wt} {cs : Int} (hx : ∀ x ∈ xs, x.2.2.2 ≠ cs) (hw : ws.Pairwise (fun a b => a.1 ≠ b.1)) (i : Nat) (h : i < ws.length) : ∀ x ∈ putV xs (ws.take i) cs, ¬ (x.1 = ws[i].1 ∧ x.2.2.2 = cs) := by
  intro x hm ⟨e1, e2⟩
  rcases mem_put.1 hm with h1 | ⟨y, hy, rfl⟩
  · exact hx x h1 e2
  · obtain ⟨j, hj, rfl⟩ := List.mem_iff_getElem.1 hy
    rw [List.length_take] at hj
    have := List.pairwise_iff_getElem.1 hw j i (by omega) h (by omega)
    rw [List.getElem_take] at e1
    exact this e1

set_option maxRecDepth 100000 in
set_option maxHeartbeats 4000000 in
theorem iputv (xs : List Vr) (ws : List Wt) (a1 a2 : Option Addr) (c1 c2 : Nat) (cs : Int) (hn : xs.length ≤ 1000000) (hm : ws.length ≤ 1000000) (hf : VFit xs) (hg : WFit ws) (hx : ∀ x ∈ xs, x.2.2.2 ≠ cs) (hw : ws.Pairwise (fun a b => a.1 ≠ b.1)) (w : World) (hp : GRow encV w a1 xs) (hq : GRow encW w a2 ws) :
    Calls Try.prog 30 #[.slice a1 xs.length c1, .slice a2 ws.length c2, .int .i64 cs] w fun e w' => ∃ a3 c3, e = .returned (.slice a3 (putV xs ws cs).length c3) ∧ GOwn encV 86 w' w.heap.size (.slice a3 (putV xs ws cs).length c3) (putV xs ws cs) ∧ Below w.heap.size w w' := by
  have HP : Hid (GRow encV w a1 xs) := hp
  have HQ : Hid (GRow encW w a2 ws) := hq
  have HNo : Hid (∀ (i : Nat) (h : i < ws.length), ∀ x ∈ putV xs (ws.take i) cs, ¬ (x.1 = ws[i].1 ∧ x.2.2.2 = cs)) := no_alike hx hw
  have HZ : Hid (∀ x ∈ putV xs ws cs, x.1.size ≤ 281474976710656 ∧ x.2.1.size ≤ 281474976710656) := fun x h => by
    rcases mem_put.1 h with h1 | ⟨y, hy, rfl⟩
    · have := hf x h1; omega
    · have := hg y hy
      show y.1.size ≤ _ ∧ y.2.1.size ≤ _
      omega
  clear hp hq hf hg hx hw
  go_enter Try.func30, Try.ntmps30
  go_wp2_with fail
  refine (chain45 xs a1 c1 (by omega) _ HP.out).mono ?_
  rintro e w1 ⟨rfl, ⟨r, ns, hc, hv⟩, hb1⟩
  obtain ⟨cc, hcc⟩ : ∃ cc, cc = w.heap.size + 1 := ⟨_, rfl⟩
  rw [← hcc] at hc ⊢
  clear hcc
  have HC1 : Hid (∃ ns : List Nd, Chn w1 w.heap.size cc ((r, zV) :: ns) ∧ ns.map (·.2) = putV xs (ws.take 0) cs) := ⟨ns, hc, hv⟩
  have HB1 : Hid (Below w.heap.size w w1) := hb1
  clear hc hv hb1 ns
  go_wp2
  go_loopw [14] (fun t wr => ∃ i : Nat, i ≤ ws.length ∧ t = .int .i64 i ∧ Hid (∃ ns : List Nd, Chn wr w.heap.size cc ((r, zV) :: ns) ∧ ns.map (·.2) = putV xs (ws.take i) cs) ∧ Hid (Below w.heap.size w wr)) (fun t _ => ws.length - (intOf t).toNat)
  case atStart => exact ⟨0, Nat.zero_le _, rfl, HC1, HB1⟩
  case round =>
    clear HC1 HB1
    obtain ⟨i, hi, rfl, HC, HB⟩ := hrel
    obtain ⟨ns, hc, hv⟩ := HC.out
    have HCn : Hid (Chn wr w.heap.size cc ((r, zV) :: ns)) := hc
    have HV : Hid (ns.map (·.2) = putV xs (ws.take i) cs) := hv
    have hnl : ns.length ≤ 10000000 := by
      rw [← List.length_map (f := fun x : Nd => x.2), hv, put_len, List.length_take]; omega
    clear hc hv HC
    by_cases hlt : i < ws.length
    · have hlt' : (i : Int) < (ws.length : Int) := by omega
      have hi0 : (0 : Int) ≤ (i : Int) := by omega
      obtain ⟨b, off, rfl, hbl, hc⟩ := (HQ.out.below HB.out) (by omega)
      have d0 := (wat hc i hlt).1
      have d1 := (wat hc i hlt).2.1
      have d2 := (wat hc i hlt).2.2
      clear hc
      have HNa : Hid (∀ n ∈ ns, ¬ (n.2.1 = (verOf cs ws[i]).1 ∧ n.2.2.2.2 = (verOf cs ws[i]).2.2.2)) := fun n hn => HNo.out i hlt n.2 (by rw [← HV.out]; exact List.mem_map.2 ⟨n, hn, rfl⟩)
      have HPs : Hid (putV xs (ws.take (i + 1)) cs = insV (putV xs (ws.take i) cs) (verOf cs ws[i])) := putV_snoc xs ws cs i hlt
      have HBx : Hid (Below w.heap.size w (wr.alloc (.cells #[.string ws[i].1, .string ws[i].2.1, .bool ws[i].2.2] 58))) := HB.out.alloc HB.out.size _
      have HCx : Hid (Chn (wr.alloc (.cells #[.string ws[i].1, .string ws[i].2.1, .bool ws[i].2.2] 58)) w.heap.size cc ((r, zV) :: ns)) := HCn.out.below ((belowRefl wr).alloc (Nat.le_refl _) _)
      go_wp2_with fail
      refine (put46 (verOf cs ws[i]) w.heap.size cc (r, zV) ns _ HCx.out HBx.out.size HNa.out).mono ?_
      rintro e w3 ⟨rfl, ⟨n2, hc2, hv2⟩, hb2⟩
      have HC2 : Hid (∃ ns : List Nd, Chn w3 w.heap.size cc ((r, zV) :: ns) ∧ ns.map (·.2) = putV xs (ws.take (i + 1)) cs) := ⟨n2, hc2, by rw [hv2, HV.out, HPs.out]⟩
      have HB2 : Hid (Below w.heap.size w w3) := HBx.out.trans hb2
      clear hc2 hv2 hb2 n2
      go_wp2
      go_roundw
      case rel => exact ⟨i + 1, by omega, by go_num, HC2, HB2⟩
      case measure => simp [intOf]; omega
    · have hlt' : ¬ (i : Int) < (ws.length : Int) := by omega
      have hil : ws.take i = ws := List.take_of_length_le (by omega)
      have HV2 : Hid (ns.map (·.2) = putV xs ws cs) := by show _ = _; rw [HV.out, hil]
      have HZ2 : Hid (∀ n ∈ ns, n.2.1.size ≤ 281474976710656 ∧ n.2.2.1.size ≤ 281474976710656) := fun n h => HZ.out n.2 (by rw [← HV2.out]; exact List.mem_map.2 ⟨n, h, rfl⟩)
      go_wp2_with fail
      refine (vers47 w.heap.size cc (r, zV) ns (by omega) HZ2.out _ HCn.out).mono ?_
      rintro e w4 ⟨a3, c3, rfl, ho, hb4⟩
      rw [HV2.out] at ho ⊢
      have HO : Hid (GOwn encV 86 w4 w.heap.size (.slice a3 (putV xs ws cs).length c3) (putV xs ws cs)) := ho.mono HB.out.size
      have HB4 : Hid (Below w.heap.size w w4) := HB.out.trans (hb4.mono HB.out.size)
      clear ho hb4
      go_wp2
      go_ret
      exact ⟨a3, c3, rfl, HO.out, HB4.out⟩
end Go.Proofs.Ytbajpnbodhhmjaa

namespace Go.Proofs.Ytbajpnbodhhmjaa
open Go.RowKit
open KM
open VM
attribute [local go_sem ↓] Go.wp_at_zero Go.wp_at_succ

theorem asc_tr {a b c : Vr} (h1 : asc a b = true) (h2 : asc b c = true) : asc a c = true := by
  unfold asc at *
  simp only [Bool.or_eq_true, Bool.and_eq_true, decide_eq_true_eq] at *
  rcases h1 with h1 | ⟨e1, h1⟩
  · rcases h2 with h2 | ⟨e2, h2⟩
    · exact Or.inl (lt_trans' h1 h2)
    · rw [e2] at h1; exact Or.inl h1
  · rcases h2 with h2 | ⟨e2, h2⟩
    · rw [← e1] at h2; exact Or.inl h2
    · exact Or.inr ⟨e1.trans e2, by omega⟩
theorem asc_of_not {v a : Vr} (h : leV v a = false) : asc v a = true := by
  unfold leV at h
  unfold asc
  simp only [Bool.or_eq_false_iff, Bool.and_eq_false_iff, decide_eq_false_iff_not] at h
  simp only [Bool.or_eq_true, Bool.and_eq_true, decide_eq_true_eq]
  by_cases e : a.1 = v.1
  · rcases h.2 with h2 | h2
    · exact absurd e h2
    · exact Or.inr ⟨e.symm, by omega⟩
  · rcases lt_total e with h2 | h2
    · rw [h2] at h; exact absurd h.1 (by simp)
    · exact Or.inl h2
abbrev AscV (xs : List Vr) : Prop := xs.Pairwise fun a b => asc a b = true
theorem tw_all {p : Vr → Bool} : ∀ {l : List Vr} {x : Vr}, x ∈ l.takeWhile p → p x = true
  | y :: l, x, h => by
    cases hp : p y
    · rw [List.takeWhile_cons_of_neg (by simp [hp])] at h; cases h
    · rw [List.takeWhile_cons_of_pos hp] at h
      rcases List.mem_cons.1 h with rfl | h
      · exact hp
      · exact tw_all h
theorem asc_ins {l : List Vr} {v : Vr} (h : AscV l) (hno : ∀ x ∈ l, ¬ (x.1 = v.1 ∧ x.2.2.2 = v.2.2.2)) : AscV (insV l v) := by
  unfold insV
  have e := List.takeWhile_append_dropWhile (p := leV v) (l := l)
  have hT : ∀ x ∈ l.takeWhile (leV v), asc x v = true := fun x hx => by
    have h1 : leV v x = true := tw_all hx
    rw [asc_le (hno x ((List.takeWhile_sublist _).subset hx))]
    exact h1
  rw [← e] at h
  unfold AscV at *
  rw [List.pairwise_append] at h ⊢
  obtain ⟨h1, h2, h3⟩ := h
  have hD : ∀ y ∈ l.dropWhile (leV v), asc v y = true := by
    cases hd : l.dropWhile (leV v) with
    | nil => intro y hy; cases hy
    | cons d D =>
      have hf : leV v d = false := by
        have h5 := List.head_dropWhile_not (leV v) (l := l) (by rw [hd]; simp)
        simp only [hd, List.head_cons] at h5
        exact h5
      rw [hd, List.pairwise_cons] at h2
      intro y hy
      rcases List.mem_cons.1 hy with rfl | hy
      · exact asc_of_not hf
      · exact asc_tr (asc_of_not hf) (h2.1 y hy)
  refine ⟨h1, List.pairwise_cons.2 ⟨hD, h2⟩, fun x hx y hy => ?_⟩
  rcases List.mem_cons.1 hy with rfl | hy
  · exact hT x hx
  · exact h3 x hx y hy
theorem asc_putV {xs : List Vr} {ws : List Wt} {cs : Int} (hx : ∀ x ∈ xs, x.2.2.2 ≠ cs) (hw : ws.Pairwise (fun a b => a.1 ≠ b.1)) (hA : AscV xs) : ∀ i, i ≤ ws.length → AscV (putV xs (ws.take i) cs)
  | 0, _ => hA
  | i + 1, h => by
    rw [putV_snoc xs ws cs i h]
    exact asc_ins (asc_putV hx hw hA i (by omega)) (no_alike hx hw i h)
def VsD (k : Int) (xs : List Vr) : Prop := (∀ x ∈ xs, verB x = true ∧ x.2.2.2 ≤ k ∧ x.1.size ≤ 3 ∧ x.2.1.size ≤ 3) ∧ AscV xs
theorem WsD.ne {ws : List Wt} (h : WsD ws) : ws.Pairwise (fun a b => a.1 ≠ b.1) := h.2.imp fun {a b} hl e => by rw [e, lt_irrefl'] at hl; cases hl
theorem VsD.ne {k cs : Int} {xs : List Vr} (h : VsD k xs) (hk : k < cs) : ∀ x ∈ xs, x.2.2.2 ≠ cs := fun x hx e => by have := (h.1 x hx).2.1; omega
theorem vsd_put {k cs : Int} {xs : List Vr} {ws : List Wt} (h : VsD k xs) (hw : WsD ws) (hk : k < cs) (h1 : 1 ≤ cs) (h2 : cs ≤ 9999) : VsD cs (putV xs ws cs) := by
  refine ⟨fun x hx => ?_, ?_⟩
  · rcases mem_put.1 hx with hx | ⟨y, hy, rfl⟩
    · obtain ⟨a, b, c⟩ := h.1 x hx
      exact ⟨a, by omega, c⟩
    · obtain ⟨a, b, c⟩ := hw.1 y hy
      refine ⟨?_, Int.le_refl _, b, c⟩
      show (writeB y && decide (1 ≤ cs) && decide (cs ≤ 9999)) = true
      simp [a, h1, h2]
  · have := asc_putV (h.ne hk) hw.ne h.2 ws.length (Nat.le_refl _)
    rwa [List.take_length] at this
theorem VsD.mono {k l : Int} {xs : List Vr} (h : VsD k xs) (hk : k ≤ l) : VsD l xs := ⟨fun x hx => by obtain ⟨a, b, c⟩ := h.1 x hx; exact ⟨a, by omega, c⟩, h.2⟩
theorem VsD.fit {k : Int} {xs : List Vr} (h : VsD k xs) : VFit xs := fun x hx => by obtain ⟨a, b, c, d⟩ := h.1 x hx; exact ⟨by omega, by omega⟩
theorem vsd_nil : VsD 0 [] := ⟨by simp, List.Pairwise.nil⟩

theorem fold_filter {k : ByteArray} {s : Int} (p : Nd → Bool) : ∀ (P : List Nd) (a : Option Nd), (∀ n ∈ P, p n = false → isOf k s n.2 = false) → P.foldl (stp k s) a = (P.filter p).foldl (stp k s) a
  | [], _, _ => rfl
  | n :: P, a, h => by
    cases hp : p n
    · have hs : stp k s a n = a := by unfold stp; rw [h n (by simp) hp]; simp
      rw [List.filter_cons_of_neg (by simp [hp]), List.foldl_cons, hs]
      exact fold_filter p P a (fun m hm => h m (by simp [hm]))
    · rw [List.filter_cons_of_pos hp, List.foldl_cons, List.foldl_cons]
      exact fold_filter p P _ (fun m hm => h m (by simp [hm]))
theorem seenV_filter {vs : List Vr} {k : ByteArray} {s : Int} (p : Vr → Bool) (h : ∀ v ∈ vs, p v = false → isOf k s v = false) : seenV vs k s = seenV (vs.filter p) k s := by
  unfold seenV lst
  rw [fold_filter (fun n : Nd => p n.2) (vs.map fun v => (0, v)) none]
  · rw [List.filter_map]; rfl
  · intro n hn hp
    obtain ⟨v, hv, rfl⟩ := List.mem_map.1 hn
    exact h v hv hp
theorem filter_ins {l : List Vr} {v : Vr} {p : Vr → Bool} (h : p v = false) : (insV l v).filter p = l.filter p := by
  unfold insV
  rw [List.filter_append, List.filter_cons_of_neg (by simp [h]), ← List.filter_append, List.takeWhile_append_dropWhile]
theorem filter_put {cs : Int} {p : Vr → Bool} : ∀ {ws : List Wt} {l : List Vr}, (∀ y ∈ ws, p (verOf cs y) = false) → (putV l ws cs).filter p = l.filter p
  | [], _, _ => rfl
  | y :: ws, l, h => by
    have e : putV l (y :: ws) cs = putV (insV l (verOf cs y)) ws cs := rfl
    rw [e, filter_put (fun z hz => h z (by simp [hz])), filter_ins (h y (by simp))]
theorem seenB_of {vs us : List Vr} {k : ByteArray} {s t : Int} (h : seenV vs k s = seenV us k t) : seenB vs k s = seenB us k t := by unfold seenB; rw [h]
theorem seen_below {xs : List Vr} {ws : List Wt} {cs s : Int} (hs : s < cs) (k : ByteArray) : seenV (putV xs ws cs) k s = seenV xs k s := by
  rw [seenV_filter (fun v => decide (v.2.2.2 ≤ s)) (vs := putV xs ws cs), seenV_filter (fun v => decide (v.2.2.2 ≤ s)) (vs := xs), filter_put]
  · intro y _; show decide (cs ≤ s) = false; simp; omega
  · intro v _ h; unfold isOf; rw [h]; simp
  · intro v _ h; unfold isOf; rw [h]; simp
theorem seen_top {vs : List Vr} {x : Vr} (hA : AscV vs) (hx : x ∈ vs) : seenV vs x.1 x.2.2.2 = some x := by
  obtain ⟨A, B, rfl⟩ := List.append_of_mem hx
  unfold AscV at hA
  rw [List.pairwise_append] at hA
  obtain ⟨_, h2, h3⟩ := hA
  rw [List.pairwise_cons] at h2
  have hlt : ∀ a b : Vr, asc a b = true → a.1 = b.1 → a.2.2.2 < b.2.2.2 := fun a b h e => by
    unfold asc at h
    rw [e, lt_irrefl'] at h
    simpa using h
  unfold seenV
  rw [List.map_append, List.map_cons]
  rw [lst_of (n := (0, x))]
  · rfl
  · refine ⟨by unfold isOf; simp, fun m hm hi => ?_, fun m hm hi => ?_⟩
    · obtain ⟨a, ha, rfl⟩ := List.mem_map.1 hm
      unfold isOf at hi
      simp only [Bool.and_eq_true, decide_eq_true_eq] at hi
      exact hlt a x (h3 a ha x (by simp)) hi.1
    · obtain ⟨a, ha, rfl⟩ := List.mem_map.1 hm
      unfold isOf at hi
      simp only [Bool.and_eq_true, decide_eq_true_eq] at hi
      exact hi.2
theorem seen_put {xs : List Vr} {ws : List Wt} {k cs : Int} (h : VsD k xs) (hw : WsD ws) (hk : k < cs) (h1 : 1 ≤ cs) (h2 : cs ≤ 9999) {y : Wt} (hy : y ∈ ws) : seenV (putV xs ws cs) y.1 cs = some (verOf cs y) :=
  seen_top (x := verOf cs y) (vsd_put h hw hk h1 h2).2 (mem_put.2 (Or.inr ⟨y, hy, rfl⟩))
theorem seen_no {vs : List Vr} {k : ByteArray} {s : Int} (h : k ∉ vs.map (·.1)) : seenB vs k s = none := by
  have e : seenV vs k s = none := by
    unfold seenV
    cases hl : lst k s (vs.map fun v => (0, v)) with
    | none => rfl
    | some x =>
      obtain ⟨h1, h2⟩ := lst_mem hl
      obtain ⟨v, hv, rfl⟩ := List.mem_map.1 h1
      unfold isOf at h2
      simp only [Bool.and_eq_true, decide_eq_true_eq] at h2
      exact absurd (List.mem_map.2 ⟨v, hv, h2.1⟩) h
  unfold seenB; rw [e]
end Go.Proofs.Ytbajpnbodhhmjaa

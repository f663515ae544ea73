/- What impl.PutVersions makes where none is alike. -/
import Derived.Test.YtbajpnbodhhmjaaGreatPs14
import Derived.Test.YtbajpnbodhhmjaaGreatPs10
import Derived.Test.YtbajpnbodhhmjaaGreatPs09
namespace Go.Proofs.YtbajpnbodhhmjaaGreat
open Go.RowKit
open KM
open VM
attribute [local go_sem ↓] Go.wp_at_zero Go.wp_at_succ

theorem mem_ins {l : List Vr} {v x : Vr} : x ∈ insV l v ↔ x = v ∨ x ∈ l := by
 unfold insV
 have h : x ∈ l ↔ x ∈ l.takeWhile (leV v) ∨ x ∈ l.dropWhile (leV v) := by
  rw [← List.mem_append, List.takeWhile_append_dropWhile]
 rw [h]
 simp only [List.mem_append, List.mem_cons]
 constructor
 ·rintro (h | h | h)
  ·exact Or.inr (Or.inl h)
  ·exact Or.inl h
  ·exact Or.inr (Or.inr h)
 ·rintro (h | h | h)
  ·exact Or.inr (Or.inl h)
  ·exact Or.inl h
  ·exact Or.inr (Or.inr h)
theorem mem_put {cs : Int} {x : Vr} : ∀ {ws : List Wt} {l : List Vr}, x ∈ putV l ws cs ↔ x ∈ l ∨ ∃ y ∈ ws, x = verOf cs y := by
 intro ws
 induction ws with
 | nil => intro l; simp [putV]
 | cons y ws ih =>
  intro l
  have e : putV l (y :: ws) cs = putV (insV l (verOf cs y)) ws cs := rfl
  rw [e, ih, mem_ins]
  constructor
  ·rintro ((h | h) | ⟨z, hz, h⟩)
   ·exact Or.inr ⟨y, by simp, h⟩
   ·exact Or.inl h
   ·exact Or.inr ⟨z, by simp [hz], h⟩
  ·rintro (h | ⟨z, hz, h⟩)
   ·exact Or.inl (Or.inr h)
   ·rcases List.mem_cons.1 hz with rfl | hz
    ·exact Or.inl (Or.inl h)
    ·exact Or.inr ⟨z, hz, h⟩
theorem no_alike {xs : List Vr} {ws : List Wt} {cs : Int} (hx : ∀ x ∈ xs, x.2.2.2 ≠ cs) (hw : ws.Pairwise (fun a b => a.1 ≠ b.1)) (i : Nat) (h : i < ws.length) : ∀ x ∈ putV xs (ws.take i) cs, ¬ (x.1 = ws[i].1 ∧ x.2.2.2 = cs) := by
 intro x hm ⟨e1, e2⟩
 rcases mem_put.1 hm with h1 | ⟨y, hy, rfl⟩
 ·exact hx x h1 e2
 ·obtain ⟨j, hj, rfl⟩ := List.mem_iff_getElem.1 hy
  rw [List.length_take] at hj
  have := List.pairwise_iff_getElem.1 hw j i (by omega) h (by omega)
  rw [List.getElem_take] at e1
  exact this e1

set_option maxRecDepth 100000 in
set_option maxHeartbeats 4000000 in
theorem iputv (xs : List Vr) (ws : List Wt) (a1 a2 : Option Addr) (c1 c2 : Nat) (cs : Int) (hn : xs.length ≤ 1000000) (hm : ws.length ≤ 1000000) (hf : VFit xs) (hg : WFit ws) (hx : ∀ x ∈ xs, x.2.2.2 ≠ cs) (hw : ws.Pairwise (fun a b => a.1 ≠ b.1)) (w : World) (hp : GRow encV w a1 xs) (hq : GRow encW w a2 ws) :
  Calls Tryz.prog 65 #[.slice a1 xs.length c1, .slice a2 ws.length c2, .int .i64 cs] w fun e w' => ∃ a3 c3, e = .returned (.slice a3 (putV xs ws cs).length c3) ∧ GOwn encV 69 w' w.heap.size (.slice a3 (putV xs ws cs).length c3) (putV xs ws cs) ∧ Below w.heap.size w w' := by
 have HP : Hid (GRow encV w a1 xs) := hp
 have HQ : Hid (GRow encW w a2 ws) := hq
 have HNo : Hid (∀ (i : Nat) (h : i < ws.length), ∀ x ∈ putV xs (ws.take i) cs, ¬ (x.1 = ws[i].1 ∧ x.2.2.2 = cs)) := no_alike hx hw
 have HZ : Hid (∀ x ∈ putV xs ws cs, x.1.size ≤ 281474976710656 ∧ x.2.1.size ≤ 281474976710656) := fun x h => by
  rcases mem_put.1 h with h1 | ⟨y, hy, rfl⟩
  ·have := hf x h1; omega
  ·have := hg y hy
   show y.1.size ≤ _ ∧ y.2.1.size ≤ _
   omega
 clear hp hq hf hg hx hw
 go_enter Tryz.func65, Tryz.ntmps65
 go_wp2_with fail
 refine (chain45 xs a1 c1 (by omega) _ HP.out).mono ?_
 rintro e w1 ⟨rfl, ⟨r, ns, hc, hv⟩, hb1⟩
 obtain ⟨cc, hcc⟩ : ∃ cc, cc = w.heap.size + 1 := ⟨_, rfl⟩
 rw [← hcc] at hc ⊢
 clear hcc
 have HC1 : Hid (∃ ns : List Nd, Chn w1 w.heap.size cc ((r, zV) :: ns) ∧ ns.map (·.2) = putV xs (ws.take 0) cs) := ⟨ns, hc, hv⟩
 have HB1 : Hid (Below w.heap.size w w1) := hb1
 clear hc hv hb1 ns
 go_wp2
 go_loopw [14] (fun t wr => ∃ i : Nat, i ≤ ws.length ∧ t = .int .i64 i ∧ Hid (∃ ns : List Nd, Chn wr w.heap.size cc ((r, zV) :: ns) ∧ ns.map (·.2) = putV xs (ws.take i) cs) ∧ Hid (Below w.heap.size w wr)) (fun t _ => ws.length - (intOf t).toNat)
 case atStart => exact ⟨0, Nat.zero_le _, rfl, HC1, HB1⟩
 case round =>
  clear HC1 HB1
  obtain ⟨i, hi, rfl, HC, HB⟩ := hrel
  obtain ⟨ns, hc, hv⟩ := HC.out
  have HCn : Hid (Chn wr w.heap.size cc ((r, zV) :: ns)) := hc
  have HV : Hid (ns.map (·.2) = putV xs (ws.take i) cs) := hv
  have hnl : ns.length ≤ 10000000 := by
   rw [← List.length_map (f := fun x : Nd => x.2), hv, put_len, List.length_take]; omega
  clear hc hv HC
  by_cases hlt : i < ws.length
  ·have hlt' : (i : Int) < (ws.length : Int) := by omega
   have hi0 : (0 : Int) ≤ (i : Int) := by omega
   obtain ⟨b, off, rfl, hbl, hc⟩ := (HQ.out.below HB.out) (by omega)
   have d0 := (wat hc i hlt).1
   have d1 := (wat hc i hlt).2.1
   have d2 := (wat hc i hlt).2.2
   clear hc
   have HNa : Hid (∀ n ∈ ns, ¬ (n.2.1 = (verOf cs ws[i]).1 ∧ n.2.2.2.2 = (verOf cs ws[i]).2.2.2)) := fun n hn => HNo.out i hlt n.2 (by rw [← HV.out]; exact List.mem_map.2 ⟨n, hn, rfl⟩)
   have HPs : Hid (putV xs (ws.take (i + 1)) cs = insV (putV xs (ws.take i) cs) (verOf cs ws[i])) := putV_snoc xs ws cs i hlt
   have HBx : Hid (Below w.heap.size w (wr.alloc (.cells #[.string ws[i].1, .string ws[i].2.1, .bool ws[i].2.2] 55))) := HB.out.alloc HB.out.size _
   have HCx : Hid (Chn (wr.alloc (.cells #[.string ws[i].1, .string ws[i].2.1, .bool ws[i].2.2] 55)) w.heap.size cc ((r, zV) :: ns)) := HCn.out.below ((belowRefl wr).alloc (Nat.le_refl _) _)
   go_wp2_with fail
   refine (put46 (verOf cs ws[i]) w.heap.size cc (r, zV) ns _ HCx.out HBx.out.size HNa.out).mono ?_
   rintro e w3 ⟨rfl, ⟨n2, hc2, hv2⟩, hb2⟩
   have HC2 : Hid (∃ ns : List Nd, Chn w3 w.heap.size cc ((r, zV) :: ns) ∧ ns.map (·.2) = putV xs (ws.take (i + 1)) cs) := ⟨n2, hc2, by rw [hv2, HV.out, HPs.out]⟩
   have HB2 : Hid (Below w.heap.size w w3) := HBx.out.trans hb2
   clear hc2 hv2 hb2 n2
   go_wp2
   go_roundw
   case rel => exact ⟨i + 1, by omega, by go_num, HC2, HB2⟩
   case measure => simp [intOf]; omega
  ·have hlt' : ¬ (i : Int) < (ws.length : Int) := by omega
   have hil : ws.take i = ws := List.take_of_length_le (by omega)
   have HV2 : Hid (ns.map (·.2) = putV xs ws cs) := by show _ = _; rw [HV.out, hil]
   have HZ2 : Hid (∀ n ∈ ns, n.2.1.size ≤ 281474976710656 ∧ n.2.2.1.size ≤ 281474976710656) := fun n h => HZ.out n.2 (by rw [← HV2.out]; exact List.mem_map.2 ⟨n, h, rfl⟩)
   go_wp2_with fail
   refine (vers47 w.heap.size cc (r, zV) ns (by omega) HZ2.out _ HCn.out).mono ?_
   rintro e w4 ⟨a3, c3, rfl, ho, hb4⟩
   rw [HV2.out] at ho ⊢
   have HO : Hid (GOwn encV 69 w4 w.heap.size (.slice a3 (putV xs ws cs).length c3) (putV xs ws cs)) := ho.mono HB.out.size
   have HB4 : Hid (Below w.heap.size w w4) := HB.out.trans (hb4.mono HB.out.size)
   clear ho hb4
   go_wp2
   go_ret
   exact ⟨a3, c3, rfl, HO.out, HB4.out⟩
end Go.Proofs.YtbajpnbodhhmjaaGreat

namespace Go.Proofs.YtbajpnbodhhmjaaGreat
open Go.RowKit
open KM
open VM
attribute [local go_sem ↓] Go.wp_at_zero Go.wp_at_succ

theorem asc_tr {a b c : Vr} (h1 : asc a b = true) (h2 : asc b c = true) : asc a c = true := by
 unfold asc at *
 simp only [Bool.or_eq_true, Bool.and_eq_true, decide_eq_true_eq] at *
 rcases h1 with h1 | ⟨e1, h1⟩
 ·rcases h2 with h2 | ⟨e2, h2⟩
  ·exact Or.inl (lt_trans' h1 h2)
  ·rw [e2] at h1; exact Or.inl h1
 ·rcases h2 with h2 | ⟨e2, h2⟩
  ·rw [← e1] at h2; exact Or.inl h2
  ·exact Or.inr ⟨e1.trans e2, by omega⟩
theorem asc_of_not {v a : Vr} (h : leV v a = false) : asc v a = true := by
 unfold leV at h
 unfold asc
 simp only [Bool.or_eq_false_iff, Bool.and_eq_false_iff, decide_eq_false_iff_not] at h
 simp only [Bool.or_eq_true, Bool.and_eq_true, decide_eq_true_eq]
 by_cases e : a.1 = v.1
 ·rcases h.2 with h2 | h2
  ·exact absurd e h2
  ·exact Or.inr ⟨e.symm, by omega⟩
 ·rcases lt_total e with h2 | h2
  ·rw [h2] at h; exact absurd h.1 (by simp)
  ·exact Or.inl h2
abbrev AscV (xs : List Vr) : Prop := xs.Pairwise fun a b => asc a b = true
theorem tw_all {p : Vr → Bool} : ∀ {l : List Vr} {x : Vr}, x ∈ l.takeWhile p → p x = true
 | y :: l, x, h => by
  cases hp : p y
  ·rw [List.takeWhile_cons_of_neg (by simp [hp])] at h; cases h
  ·rw [List.takeWhile_cons_of_pos hp] at h
   rcases List.mem_cons.1 h with rfl | h
   ·exact hp
   ·exact tw_all h
theorem asc_ins {l : List Vr} {v : Vr} (h : AscV l) (hno : ∀ x ∈ l, ¬ (x.1 = v.1 ∧ x.2.2.2 = v.2.2.2)) : AscV (insV l v) := by
 unfold insV
 have e := List.takeWhile_append_dropWhile (p := leV v) (l := l)
 have hT : ∀ x ∈ l.takeWhile (leV v), asc x v = true := fun x hx => by
  have h1 : leV v x = true := tw_all hx
  rw [asc_le (hno x ((List.takeWhile_sublist _).subset hx))]
  exact h1
 rw [← e] at h
 unfold AscV at *
 rw [List.pairwise_append] at h ⊢
 obtain ⟨h1, h2, h3⟩ := h
 have hD : ∀ y ∈ l.dropWhile (leV v), asc v y = true := by
  cases hd : l.dropWhile (leV v) with
  | nil => intro y hy; cases hy
  | cons d D =>
   have hf : leV v d = false := by
    have h5 := List.head_dropWhile_not (leV v) (l := l) (by rw [hd]; simp)
    simp only [hd, List.head_cons] at h5
    exact h5
   rw [hd, List.pairwise_cons] at h2
   intro y hy
   rcases List.mem_cons.1 hy with rfl | hy
   ·exact asc_of_not hf
   ·exact asc_tr (asc_of_not hf) (h2.1 y hy)
 refine ⟨h1, List.pairwise_cons.2 ⟨hD, h2⟩, fun x hx y hy => ?_⟩
 rcases List.mem_cons.1 hy with rfl | hy
 ·exact hT x hx
 ·exact h3 x hx y hy
theorem asc_putV {xs : List Vr} {ws : List Wt} {cs : Int} (hx : ∀ x ∈ xs, x.2.2.2 ≠ cs) (hw : ws.Pairwise (fun a b => a.1 ≠ b.1)) (hA : AscV xs) : ∀ i, i ≤ ws.length → AscV (putV xs (ws.take i) cs)
 | 0, _ => hA
 | i + 1, h => by
  rw [putV_snoc xs ws cs i h]
  exact asc_ins (asc_putV hx hw hA i (by omega)) (no_alike hx hw i h)
def VsD (k : Int) (xs : List Vr) : Prop := (∀ x ∈ xs, verB x = true ∧ x.2.2.2 ≤ k ∧ x.1.size ≤ 3 ∧ x.2.1.size ≤ 3) ∧ AscV xs
theorem WsD.ne {ws : List Wt} (h : WsD ws) : ws.Pairwise (fun a b => a.1 ≠ b.1) := h.2.imp fun {a b} hl e => by rw [e, lt_irrefl'] at hl; cases hl
theorem VsD.ne {k cs : Int} {xs : List Vr} (h : VsD k xs) (hk : k < cs) : ∀ x ∈ xs, x.2.2.2 ≠ cs := fun x hx e => by have := (h.1 x hx).2.1; omega
theorem vsd_put {k cs : Int} {xs : List Vr} {ws : List Wt} (h : VsD k xs) (hw : WsD ws) (hk : k < cs) (h1 : 1 ≤ cs) (h2 : cs ≤ 9999) : VsD cs (putV xs ws cs) := by
 refine ⟨fun x hx => ?_, ?_⟩
 ·rcases mem_put.1 hx with hx | ⟨y, hy, rfl⟩
  ·obtain ⟨a, b, c⟩ := h.1 x hx
   exact ⟨a, by omega, c⟩
  ·obtain ⟨a, b, c⟩ := hw.1 y hy
   refine ⟨?_, Int.le_refl _, b, c⟩
   show (writeB y && decide (1 ≤ cs) && decide (cs ≤ 9999)) = true
   simp [a, h1, h2]
 ·have := asc_putV (h.ne hk) hw.ne h.2 ws.length (Nat.le_refl _)
  rwa [List.take_length] at this
theorem VsD.mono {k l : Int} {xs : List Vr} (h : VsD k xs) (hk : k ≤ l) : VsD l xs := ⟨fun x hx => by obtain ⟨a, b, c⟩ := h.1 x hx; exact ⟨a, by omega, c⟩, h.2⟩
theorem VsD.fit {k : Int} {xs : List Vr} (h : VsD k xs) : VFit xs := fun x hx => by obtain ⟨a, b, c, d⟩ := h.1 x hx; exact ⟨by omega, by omega⟩
theorem vsd_nil : VsD 0 [] := ⟨by simp, List.Pairwise.nil⟩

theorem fold_filter {k : ByteArray} {s : Int} (p : Nd → Bool) : ∀ (P : List Nd) (a : Option Nd), (∀ n ∈ P, p n = false → isOf k s n.2 = false) → P.foldl (stp k s) a = (P.filter p).foldl (stp k s) a
 | [], _, _ => rfl
 | n :: P, a, h => by
  cases hp : p n
  ·have hs : stp k s a n = a := by unfold stp; rw [h n (by simp) hp]; simp
   rw [List.filter_cons_of_neg (by simp [hp]), List.foldl_cons, hs]
   exact fold_filter p P a (fun m hm => h m (by simp [hm]))
  ·rw [List.filter_cons_of_pos hp, List.foldl_cons, List.foldl_cons]
   exact fold_filter p P _ (fun m hm => h m (by simp [hm]))
theorem seenV_filter {vs : List Vr} {k : ByteArray} {s : Int} (p : Vr → Bool) (h : ∀ v ∈ vs, p v = false → isOf k s v = false) : seenV vs k s = seenV (vs.filter p) k s := by
 unfold seenV lst
 rw [fold_filter (fun n : Nd => p n.2) (vs.map fun v => (0, v)) none]
 ·rw [List.filter_map]; rfl
 ·intro n hn hp
  obtain ⟨v, hv, rfl⟩ := List.mem_map.1 hn
  exact h v hv hp
theorem filter_ins {l : List Vr} {v : Vr} {p : Vr → Bool} (h : p v = false) : (insV l v).filter p = l.filter p := by
 unfold insV
 rw [List.filter_append, List.filter_cons_of_neg (by simp [h]), ← List.filter_append, List.takeWhile_append_dropWhile]
theorem filter_put {cs : Int} {p : Vr → Bool} : ∀ {ws : List Wt} {l : List Vr}, (∀ y ∈ ws, p (verOf cs y) = false) → (putV l ws cs).filter p = l.filter p
 | [], _, _ => rfl
 | y :: ws, l, h => by
  have e : putV l (y :: ws) cs = putV (insV l (verOf cs y)) ws cs := rfl
  rw [e, filter_put (fun z hz => h z (by simp [hz])), filter_ins (h y (by simp))]
theorem seenB_of {vs us : List Vr} {k : ByteArray} {s t : Int} (h : seenV vs k s = seenV us k t) : seenB vs k s = seenB us k t := by unfold seenB; rw [h]
theorem seen_below {xs : List Vr} {ws : List Wt} {cs s : Int} (hs : s < cs) (k : ByteArray) : seenV (putV xs ws cs) k s = seenV xs k s := by
 rw [seenV_filter (fun v => decide (v.2.2.2 ≤ s)) (vs := putV xs ws cs), seenV_filter (fun v => decide (v.2.2.2 ≤ s)) (vs := xs), filter_put]
 ·intro y _; show decide (cs ≤ s) = false; simp; omega
 ·intro v _ h; unfold isOf; rw [h]; simp
 ·intro v _ h; unfold isOf; rw [h]; simp
theorem seen_top {vs : List Vr} {x : Vr} (hA : AscV vs) (hx : x ∈ vs) : seenV vs x.1 x.2.2.2 = some x := by
 obtain ⟨A, B, rfl⟩ := List.append_of_mem hx
 unfold AscV at hA
 rw [List.pairwise_append] at hA
 obtain ⟨_, h2, h3⟩ := hA
 rw [List.pairwise_cons] at h2
 have hlt : ∀ a b : Vr, asc a b = true → a.1 = b.1 → a.2.2.2 < b.2.2.2 := fun a b h e => by
  unfold asc at h
  rw [e, lt_irrefl'] at h
  simpa using h
 unfold seenV
 rw [List.map_append, List.map_cons]
 rw [lst_of (n := (0, x))]
 ·rfl
 ·refine ⟨by unfold isOf; simp, fun m hm hi => ?_, fun m hm hi => ?_⟩
  ·obtain ⟨a, ha, rfl⟩ := List.mem_map.1 hm
   unfold isOf at hi
   simp only [Bool.and_eq_true, decide_eq_true_eq] at hi
   exact hlt a x (h3 a ha x (by simp)) hi.1
  ·obtain ⟨a, ha, rfl⟩ := List.mem_map.1 hm
   unfold isOf at hi
   simp only [Bool.and_eq_true, decide_eq_true_eq] at hi
   exact hi.2
theorem seen_put {xs : List Vr} {ws : List Wt} {k cs : Int} (h : VsD k xs) (hw : WsD ws) (hk : k < cs) (h1 : 1 ≤ cs) (h2 : cs ≤ 9999) {y : Wt} (hy : y ∈ ws) : seenV (putV xs ws cs) y.1 cs = some (verOf cs y) :=
 seen_top (x := verOf cs y) (vsd_put h hw hk h1 h2).2 (mem_put.2 (Or.inr ⟨y, hy, rfl⟩))
theorem seen_no {vs : List Vr} {k : ByteArray} {s : Int} (h : k ∉ vs.map (·.1)) : seenB vs k s = none := by
 have e : seenV vs k s = none := by
  unfold seenV
  cases hl : lst k s (vs.map fun v => (0, v)) with
  | none => rfl
  | some x =>
   obtain ⟨h1, h2⟩ := lst_mem hl
   obtain ⟨v, hv, rfl⟩ := List.mem_map.1 h1
   unfold isOf at h2
   simp only [Bool.and_eq_true, decide_eq_true_eq] at h2
   exact absurd (List.mem_map.2 ⟨v, hv, h2.1⟩) h
 unfold seenB; rw [e]
end Go.Proofs.YtbajpnbodhhmjaaGreat

namespace Go.Proofs.YtbajpnbodhhmjaaGreat
open Go.RowKit
open KM
open VM

def viewB (m : List Rg) (r : Rg) : List Rg := m.filter fun c => inB r c.1
def AscC (m : List Rg) : Prop := m.Pairwise fun a b => lt a.1 b.1 = true
def putC (m : List Rg) (x : Wt) : List Rg := if x.2.2 = true then m.filter (fun c => !decide (c.1 = x.1)) else m.filter (fun c => lt c.1 x.1) ++ [(x.1, x.2.1)] ++ m.filter (fun c => lt x.1 c.1)
theorem ascC_put {m : List Rg} (h : AscC m) (x : Wt) : AscC (putC m x) := by
 unfold putC
 split
 ·exact h.filter _
 ·unfold AscC
  rw [List.pairwise_append, List.pairwise_append]
  refine ⟨⟨h.filter _, by simp, fun a ha b hb => ?_⟩, h.filter _, fun a ha b hb => ?_⟩
  ·rw [List.mem_singleton.1 hb]; exact (List.mem_filter.1 ha).2
  ·have hb' := (List.mem_filter.1 hb).2
   rcases List.mem_append.1 ha with ha | ha
   ·exact lt_tr _ _ _ (List.mem_filter.1 ha).2 hb'
   ·rw [List.mem_singleton.1 ha]; exact hb'
theorem ascC_uniq {m : List Rg} (h : AscC m) {a b : Rg} (ha : a ∈ m) (hb : b ∈ m) (he : a.1 = b.1) : a = b := by
 induction m with
 | nil => cases ha
 | cons c m ih =>
  unfold AscC at h
  rw [List.pairwise_cons] at h
  rcases List.mem_cons.1 ha with ea | ha2
  ·rcases List.mem_cons.1 hb with eb | hb2
   ·rw [ea, eb]
   ·have := h.1 b hb2
    rw [← ea, he] at this
    exact absurd this (lt_irr _)
  ·rcases List.mem_cons.1 hb with eb | hb2
   ·have := h.1 a ha2
    rw [← eb, he] at this
    exact absurd this (lt_irr _)
   ·exact ih h.2 ha2 hb2
def look (m : List Rg) (k : ByteArray) : Option ByteArray := (m.find? fun c => decide (c.1 = k)).map (·.2)
theorem look_iff {m : List Rg} (h : AscC m) (k v : ByteArray) : look m k = some v ↔ (k, v) ∈ m := by
 unfold look
 constructor
 ·intro hl
  rw [Option.map_eq_some_iff] at hl
  obtain ⟨c, hc, rfl⟩ := hl
  have h1 := List.mem_of_find?_eq_some hc
  have h2 := List.find?_some hc
  simp only [decide_eq_true_eq] at h2
  rw [← h2]
  exact h1
 ·intro hm
  cases hf : m.find? fun c => decide (c.1 = k) with
  | none =>
   rw [List.find?_eq_none] at hf
   have := hf _ hm
   simp at this
  | some c =>
   have h1 := List.mem_of_find?_eq_some hf
   have h2 := List.find?_some hf
   simp only [decide_eq_true_eq] at h2
   have := ascC_uniq h h1 hm h2
   rw [this]
   rfl
def stx (k : ByteArray) (acc : Option ByteArray) (x : Wt) : Option ByteArray := if x.1 = k then (if x.2.2 = true then none else some x.2.1) else acc
theorem look_put {m : List Rg} (h : AscC m) (x : Wt) (k : ByteArray) : look (putC m x) k = stx k (look m k) x := by
 apply Option.ext
 intro v
 show look (putC m x) k = some v ↔ stx k (look m k) x = some v
 rw [look_iff (ascC_put h x)]
 unfold stx putC
 by_cases hk : x.1 = k
 ·rw [if_pos hk]
  by_cases hg : x.2.2 = true
  ·rw [if_pos hg, if_pos hg]
   simp [List.mem_filter, hk]
  ·rw [if_neg hg, if_neg hg]
   simp only [List.mem_append, List.mem_filter, List.mem_singleton, Option.some.injEq, Prod.mk.injEq]
   constructor
   ·rintro ((⟨_, h1⟩ | ⟨_, h1⟩) | ⟨_, h1⟩)
    ·rw [hk] at h1; exact absurd h1 (lt_irr _)
    ·exact h1.symm
    ·rw [hk] at h1; exact absurd h1 (lt_irr _)
   ·intro h1
    exact Or.inl (Or.inr ⟨hk.symm, h1.symm⟩)
 ·rw [if_neg hk, look_iff h]
  have hk' : ¬ k = x.1 := fun e => hk e.symm
  by_cases hg : x.2.2 = true
  ·rw [if_pos hg]
   simp [List.mem_filter, hk']
  ·rw [if_neg hg]
   simp only [List.mem_append, List.mem_filter, List.mem_singleton, Prod.mk.injEq]
   constructor
   ·rintro ((⟨h1, _⟩ | ⟨h1, _⟩) | ⟨h1, _⟩)
    ·exact h1
    ·exact absurd h1 hk'
    ·exact h1
   ·intro h1
    rcases lt_total hk' with h2 | h2
    ·exact Or.inl (Or.inl ⟨h1, h2⟩)
    ·exact Or.inr ⟨h1, h2⟩
def playB (m : List Rg) (ws : List Wt) : List Rg := ws.foldl putC m
theorem play_asc {m : List Rg} (h : AscC m) : ∀ ws : List Wt, AscC (playB m ws) := fun ws => by
 induction ws generalizing m with
 | nil => exact h
 | cons x ws ih => exact ih (ascC_put h x)
theorem play_look {m : List Rg} (h : AscC m) (k : ByteArray) : ∀ ws : List Wt, look (playB m ws) k = ws.foldl (stx k) (look m k) := fun ws => by
 induction ws generalizing m with
 | nil => rfl
 | cons x ws ih =>
  show look (playB (putC m x) ws) k = ws.foldl (stx k) (stx k (look m k) x)
  rw [ih (ascC_put h x), look_put h]
def playL (l : List Tx) : List Rg := l.foldl (fun m t => playB m t.ws) []
def stK (k : ByteArray) (l : List Tx) : Option ByteArray := l.foldl (fun acc t => t.ws.foldl (stx k) acc) none
theorem playL_snoc (l : List Tx) (t : Tx) : playL (l ++ [t]) = playB (playL l) t.ws := by simp [playL]
theorem stK_snoc (k : ByteArray) (l : List Tx) (t : Tx) : stK k (l ++ [t]) = t.ws.foldl (stx k) (stK k l) := by simp [stK]
theorem snoc_ind {α : Type} {P : List α → Prop} (h0 : P []) (h1 : ∀ l x, P l → P (l ++ [x])) : ∀ l, P l := fun l => by
 have : ∀ r : List α, P r.reverse := fun r => by
  induction r with
  | nil => exact h0
  | cons x r ih => rw [List.reverse_cons]; exact h1 _ _ ih
 have h := this l.reverse
 rwa [List.reverse_reverse] at h
theorem playL_asc (l : List Tx) : AscC (playL l) := by
 refine snoc_ind (P := fun l => AscC (playL l)) List.Pairwise.nil (fun l t h => ?_) l
 rw [playL_snoc]
 exact play_asc h _
theorem playL_look (k : ByteArray) (l : List Tx) : look (playL l) k = stK k l := by
 refine snoc_ind (P := fun l => look (playL l) k = stK k l) rfl (fun l t h => ?_) l
 rw [playL_snoc, stK_snoc, play_look (playL_asc l), h]
def wrt (k : ByteArray) (t : Tx) : Bool := t.ws.any fun x => decide (x.1 = k)
theorem stx_no {k : ByteArray} {acc : Option ByteArray} : ∀ {ws : List Wt}, (∀ x ∈ ws, x.1 ≠ k) → ws.foldl (stx k) acc = acc := fun {ws} h => by
 induction ws generalizing acc with
 | nil => rfl
 | cons x ws ih =>
  show ws.foldl (stx k) (stx k acc x) = acc
  rw [show stx k acc x = acc by unfold stx; rw [if_neg (h x (by simp))]]
  exact ih (fun y hy => h y (by simp [hy]))
theorem stx_mem {k : ByteArray} {acc : Option ByteArray} {y : Wt} : ∀ {ws : List Wt}, ws.Pairwise (fun a b => a.1 ≠ b.1) → y ∈ ws → y.1 = k → ws.foldl (stx k) acc = (if y.2.2 = true then none else some y.2.1) := fun {ws} hp hm hk => by
 induction ws generalizing acc with
 | nil => cases hm
 | cons x ws ih =>
  rw [List.pairwise_cons] at hp
  show ws.foldl (stx k) (stx k acc x) = _
  rcases List.mem_cons.1 hm with rfl | hm
  ·rw [stx_no (fun z hz e => hp.1 z hz (hk.trans e.symm))]
   unfold stx
   rw [if_pos hk]
  ·exact ih hp.2 hm
theorem wrt_no {k : ByteArray} {t : Tx} (h : wrt k t = false) (acc : Option ByteArray) : t.ws.foldl (stx k) acc = acc := stx_no (fun x hx e => by
 unfold wrt at h
 rw [List.any_eq_false] at h
 exact h x hx (by simp [e]))
theorem stK_filter (k : ByteArray) (l : List Tx) : stK k l = stK k (l.filter (wrt k)) := by
 refine snoc_ind (P := fun l => stK k l = stK k (l.filter (wrt k))) rfl (fun l t h => ?_) l
 rw [List.filter_append]
 cases hw : wrt k t
 ·rw [stK_snoc, wrt_no hw, h]
  simp [hw]
 ·rw [stK_snoc, h]
  simp only [List.filter_cons, hw, if_true, List.filter_nil]
  rw [stK_snoc]
def allV (ts : List Tx) : List Vr := ts.foldl (fun vs t => putV vs t.ws t.cs) []
theorem allV_snoc (ts : List Tx) (t : Tx) : allV (ts ++ [t]) = putV (allV ts) t.ws t.cs := by simp [allV]
theorem seenV_cap {vs : List Vr} {k : ByteArray} {c s : Int} (h : ∀ v ∈ vs, v.2.2.2 ≤ c) (hs : c ≤ s) : seenV vs k s = seenV vs k c := by
 have e : ∀ (l : List Vr) (a : Option Nd), (∀ v ∈ l, v.2.2.2 ≤ c) → (l.map fun v => ((0, v) : Nd)).foldl (stp k s) a = (l.map fun v => ((0, v) : Nd)).foldl (stp k c) a := fun l => by
  induction l with
  | nil => intro a _; rfl
  | cons v l ih =>
   intro a hl
   have hv := hl v (by simp)
   have : stp k s a (0, v) = stp k c a (0, v) := by
    unfold stp isOf
    rw [decide_eq_true (show v.2.2.2 ≤ s by omega), decide_eq_true hv]
   simp only [List.map_cons, List.foldl_cons]
   rw [this]
   exact ih _ (fun u hu => hl u (by simp [hu]))
 unfold seenV lst
 rw [e vs none h]
theorem seenB_put {xs : List Vr} {ws : List Wt} {c cs s : Int} (h : VsD c xs) (hw : WsD ws) (hk : c < cs) (h1 : 1 ≤ cs) (h2 : cs ≤ 9999) (hs : cs ≤ s) (k : ByteArray) : seenB (putV xs ws cs) k s = ws.foldl (stx k) (seenB xs k s) := by
 have hv := vsd_put h hw hk h1 h2
 by_cases hm : ∃ y ∈ ws, y.1 = k
 ·obtain ⟨y, hy, rfl⟩ := hm
  rw [stx_mem hw.ne hy rfl]
  have e : seenV (putV xs ws cs) y.1 s = some (verOf cs y) := by
   rw [seenV_cap (c := cs) (fun v hv' => (hv.1 v hv').2.1) hs]
   exact seen_put h hw hk h1 h2 hy
  unfold seenB
  rw [e]
  rfl
 ·have hno : ∀ x ∈ ws, x.1 ≠ k := fun x hx e => hm ⟨x, hx, e⟩
  rw [stx_no hno]
  refine seenB_of ?_
  rw [seenV_filter (fun v => decide (v.1 = k)) (vs := putV xs ws cs), seenV_filter (fun v => decide (v.1 = k)) (vs := xs), filter_put]
  ·intro y hy; show decide (y.1 = k) = false; rw [decide_eq_false_iff_not]; exact hno y hy
  ·intro v _ h; unfold isOf; rw [h]; rfl
  ·intro v _ h; unfold isOf; rw [h]; rfl
theorem seenB_below {xs : List Vr} {ws : List Wt} {cs s : Int} (hs : s < cs) (k : ByteArray) : seenB (putV xs ws cs) k s = seenB xs k s := seenB_of (seen_below hs k)
theorem DonesD.init {ts : List Tx} {t : Tx} {c : Nat} (h : DonesD (ts ++ [t]) c) : DonesD ts c ∧ DoneD t ∧ t.cs ≤ (c : Int) ∧ ∀ u ∈ ts, u.cs < t.cs := by
 have ha := h.asc
 rw [List.pairwise_append] at ha
 refine ⟨⟨fun u hu => h.each u (by simp [hu]), fun i hi => ?_, ha.1⟩, (h.each t (by simp)).1, (h.each t (by simp)).2, fun u hu => ha.2.2 u hu t (by simp)⟩
 have := h.ids i (by simp; omega)
 rw [List.getElem_append_left hi] at this
 exact this
theorem allV_vsd {c : Nat} (hc : c ≤ 9999) : ∀ (ts : List Tx), DonesD ts c → ∀ d : Int, 0 ≤ d → (∀ t ∈ ts, t.cs ≤ d) → VsD d (allV ts) := fun ts => by
 refine snoc_ind (P := fun ts => DonesD ts c → ∀ d : Int, 0 ≤ d → (∀ t ∈ ts, t.cs ≤ d) → VsD d (allV ts)) (fun _ d hd _ => vsd_nil.mono hd) (fun ts t ih h d hd hl => ?_) ts
 obtain ⟨h1, h2, h3, h4⟩ := h.init
 have hs0 := h2.s0
 have hsc := h2.sc
 have hv := ih h1 (t.cs - 1) (by omega) (fun u hu => by have := h4 u hu; omega)
 rw [allV_snoc]
 exact (vsd_put hv h2.ws (by omega) (by omega) (by omega)).mono (hl t (by simp))
theorem allV_seen {c : Nat} (hc : c ≤ 9999) (k : ByteArray) (s : Int) : ∀ (ts : List Tx), DonesD ts c → seenB (allV ts) k s = stK k (ts.filter fun t => decide (t.cs ≤ s)) := fun ts => by
 refine snoc_ind (P := fun ts => DonesD ts c → seenB (allV ts) k s = stK k (ts.filter fun t => decide (t.cs ≤ s))) (fun _ => rfl) (fun ts t ih h => ?_) ts
 obtain ⟨h1, h2, h3, h4⟩ := h.init
 have hs0 := h2.s0
 have hsc := h2.sc
 rw [allV_snoc, List.filter_append]
 by_cases hts : t.cs ≤ s
 ·have hv := allV_vsd hc ts h1 (t.cs - 1) (by omega) (fun u hu => by have := h4 u hu; omega)
  rw [seenB_put hv h2.ws (by omega) (by omega) (by omega) hts, ih h1]
  simp only [List.filter_cons, decide_eq_true hts, if_true, List.filter_nil]
  rw [stK_snoc]
 ·rw [seenB_below (by omega), ih h1]
  simp [hts]
def tx0 : Tx := ⟨0, 0, 0, 0, [], [], false, ⟨#[]⟩⟩
def tpl (ts : List Tx) (j : Nat) : Tx := ts[j]?.getD tx0
theorem tpl_eq (ts : List Tx) (j : Nat) (h : j < ts.length) : tpl ts j = ts[j] := by unfold tpl; rw [List.getElem?_eq_getElem h]; rfl
theorem tpl_all (ts : List Tx) : (List.range ts.length).map (tpl ts) = ts := by
 apply List.ext_getElem
 ·simp
 ·intro j h1 h2
  simp only [List.getElem_map, List.getElem_range]
  exact tpl_eq ts j h2
theorem view_scan {m : List Rg} {vs : List Vr} {r : Rg} {s : Int} (hm : AscC m) (h : ∀ k, inB r k = true → look m k = seenB vs k s) : viewB m r = scanB vs r s := by
 refine asc_ext (R := fun a b : Rg => lt a.1 b.1 = true) (fun a => lt_irr a.1) (fun a b c h1 h2 => lt_tr _ _ _ h1 h2) _ _ (hm.filter _) ?_ (fun x => ?_)
 ·unfold scanB
  have hk := (keys_spec (vs.map (·.1))).2
  refine List.Pairwise.filterMap _ (fun a b hab x hx y hy => ?_) hk
  unfold scanF at hx hy
  split at hx
  ·split at hy
   ·rw [Option.map_eq_some_iff] at hx hy
    obtain ⟨_, _, rfl⟩ := hx
    obtain ⟨_, _, rfl⟩ := hy
    exact hab
   ·cases hy
  ·cases hx
 ·unfold viewB scanB
  rw [List.mem_filter, List.mem_filterMap]
  constructor
  ·rintro ⟨hx, hin⟩
   have hl : look m x.1 = some x.2 := (look_iff hm x.1 x.2).2 hx
   rw [h x.1 hin] at hl
   refine ⟨x.1, ((keys_spec _).1 x.1).2 ?_, ?_⟩
   ·cases Classical.em (x.1 ∈ vs.map (·.1)) with
    | inl h1 => exact h1
    | inr h1 => rw [seen_no h1] at hl; cases hl
   ·unfold scanF
    rw [if_pos hin, hl]
    rfl
  ·rintro ⟨k, _, hs⟩
   unfold scanF at hs
   split at hs
   ·rename_i hin
    rw [Option.map_eq_some_iff] at hs
    obtain ⟨v, hv, rfl⟩ := hs
    refine ⟨(look_iff hm k v).1 (by rw [h k hin]; exact hv), hin⟩
   ·cases hs
theorem bef_tpl {ts : List Tx} {c i j : Nat} (h : DonesD ts c) (hi : i < ts.length) (hj : j < ts.length) (hne : i ≠ j) : bef ts i j = (decide ((tpl ts i).cs ≤ (tpl ts j).snap) && touchB (tpl ts j).rs (tpl ts i).ws || decide ((tpl ts i).cs < (tpl ts j).cs) && meetB (tpl ts i).ws (tpl ts j).ws || decide ((tpl ts i).snap < (tpl ts j).cs) && touchB (tpl ts i).rs (tpl ts j).ws) := by
 rw [bef_at ts i j hi hj, tpl_eq _ _ hi, tpl_eq _ _ hj]
 have h1 := (h.each _ (List.getElem_mem hi)).1.st
 have h2 := (h.each _ (List.getElem_mem hj)).1.st
 have h3 : ts[i].id ≠ ts[j].id := by rw [h.ids i hi, h.ids j hj]; omega
 unfold befB
 rw [decide_eq_true h1, decide_eq_true h2, decide_eq_true h3]
 rfl
theorem touch_of {k : ByteArray} {r : Rg} {rs : List Rg} {t : Tx} (hr : r ∈ rs) (hin : inB r k = true) (hw : wrt k t = true) : touchB rs t.ws = true := by
 unfold wrt at hw
 rw [List.any_eq_true] at hw
 obtain ⟨x, hx, hk⟩ := hw
 simp only [decide_eq_true_eq] at hk
 unfold touchB
 rw [List.any_eq_true]
 refine ⟨r, hr, ?_⟩
 rw [List.any_eq_true]
 exact ⟨x, hx, by rw [hk]; exact hin⟩
theorem meet_of {k : ByteArray} {a b : Tx} (ha : wrt k a = true) (hb : wrt k b = true) : meetB a.ws b.ws = true := by
 unfold wrt at ha hb
 rw [List.any_eq_true] at ha hb
 obtain ⟨x, hx, h1⟩ := ha
 obtain ⟨y, hy, h2⟩ := hb
 simp only [decide_eq_true_eq] at h1 h2
 unfold meetB
 rw [List.any_eq_true]
 refine ⟨x, hx, ?_⟩
 rw [List.any_eq_true]
 exact ⟨y, hy, by simp [h1, h2]⟩
theorem tpl_asc {ts : List Tx} {c i j : Nat} (h : DonesD ts c) (hj : j < ts.length) (hij : i < j) : (tpl ts i).cs < (tpl ts j).cs := by
 have hi : i < ts.length := Nat.lt_trans hij hj
 rw [tpl_eq _ _ hi, tpl_eq _ _ hj]
 exact (List.pairwise_iff_getElem.1 h.asc) i j hi hj hij
theorem order_sees {ts : List Tx} {c : Nat} (hc : c ≤ 9999) (h : DonesD ts c) {o pre post : List Nat} {i : Nat} (ho : serB ts = some o) (he : o = pre ++ i :: post) {r : Rg} (hr : r ∈ (tpl ts i).rs) : viewB (playL (pre.map (tpl ts))) r = scanB (allV ts) r (tpl ts i).snap := by
 obtain ⟨hO, hP, hlen⟩ := serB_pw ho
 have hnd := hO.nd
 have hlt := hO.lt
 unfold Pw at hP
 rw [he] at hP hnd hlt
 have hi : i < ts.length := hlt i (by simp)
 have hall : ∀ j, j < ts.length → j ∈ pre ++ i :: post := by
  intro j hj
  have hsub : ∀ x ∈ pre ++ i :: post, x < ts.length := hlt
  cases Classical.em (j ∈ pre ++ i :: post) with
  | inl h1 => exact h1
  | inr h1 =>
   exfalso
   have h2 : ((pre ++ i :: post) ++ [j]).Nodup := by
    rw [List.nodup_append]
    exact ⟨hnd, by simp, fun a ha b hb e => h1 (by rw [List.mem_singleton.1 hb] at e; rw [← e]; exact ha)⟩
   have h3 := nodup_le ts.length _ h2 (fun x hx => by
    rcases List.mem_append.1 hx with hx | hx
    ·exact hsub x hx
    ·rw [List.mem_singleton.1 hx]; exact hj)
   rw [List.length_append, ← he, hlen] at h3
   simp at h3
   omega
 rw [List.pairwise_append] at hP
 obtain ⟨hP1, hP2, hP3⟩ := hP
 rw [List.pairwise_cons] at hP2
 rw [List.nodup_append] at hnd
 obtain ⟨hn1, hn2, hn3⟩ := hnd
 rw [List.nodup_cons] at hn2
 refine view_scan (playL_asc _) (fun k hin => ?_)
 rw [playL_look, allV_seen hc k _ ts h]
 have e1 : (ts.filter fun t => decide (t.cs ≤ (tpl ts i).snap)) = ((List.range ts.length).filter fun j => decide ((tpl ts j).cs ≤ (tpl ts i).snap)).map (tpl ts) := by
  have h1 := tpl_all ts
  have h2 := List.filter_map (f := tpl ts) (p := fun t : Tx => decide (t.cs ≤ (tpl ts i).snap)) (l := List.range ts.length)
  rw [h1] at h2
  exact h2
 rw [e1, stK_filter k (pre.map (tpl ts)), stK_filter k (List.map _ _), List.filter_map, List.filter_map]
 congr 1
 congr 1
 refine asc_ext (R := fun a b : Nat => a < b) (fun a => Nat.lt_irrefl a) (fun a b c => Nat.lt_trans) _ _ ?_ ?_ (fun j => ?_)
 ·have hPn : pre.Pairwise (fun a b => bef ts b a = false ∧ a ≠ b) := by
   rw [List.pairwise_iff_getElem] at hP1 ⊢
   have hn1' := List.pairwise_iff_getElem.1 hn1
   exact fun x y hx hy hxy => ⟨hP1 x y hx hy hxy, hn1' x y hx hy hxy⟩
  refine (hPn.filter (wrt k ∘ tpl ts)).imp_of_mem (S := fun a b : Nat => a < b) ?_
  ·intro a b ha hb hab2
   obtain ⟨hab, hnab⟩ := hab2
   have ha1 := List.mem_filter.1 ha
   have hb1 := List.mem_filter.1 hb
   have hla : a < ts.length := hlt a (by simp [ha1.1])
   have hlb : b < ts.length := hlt b (by simp [hb1.1])
   rcases Nat.lt_trichotomy a b with h1 | h1 | h1
   ·exact h1
   ·exact absurd h1 hnab
   ·exfalso
    rw [bef_tpl h hlb hla (by omega)] at hab
    rw [decide_eq_true (tpl_asc h hla h1), meet_of (k := k) hb1.2 ha1.2] at hab
    simp at hab
 ·exact (List.pairwise_lt_range.filter _).filter _
 ·rw [List.mem_filter, List.mem_filter, List.mem_filter, List.mem_range]
  simp only [Function.comp_apply, decide_eq_true_eq]
  constructor
  ·rintro ⟨hj, hw⟩
   have hlj : j < ts.length := hlt j (by simp [hj])
   have hne : i ≠ j := fun e => hn3 j hj i (by simp) e.symm
   refine ⟨⟨hlj, ?_⟩, hw⟩
   have hb := hP3 j hj i (by simp)
   rw [bef_tpl h hi hlj hne] at hb
   rcases Int.lt_or_le (tpl ts i).snap (tpl ts j).cs with h1 | h1
   ·rw [decide_eq_true h1, touch_of hr hin hw] at hb
    simp at hb
   ·exact h1
  ·rintro ⟨⟨hlj, hcs⟩, hw⟩
   refine ⟨?_, hw⟩
   have hne : j ≠ i := fun e => by
    subst e
    have := (h.each _ (List.getElem_mem hlj)).1.sc
    rw [tpl_eq _ _ hlj] at hcs
    omega
   rcases List.mem_append.1 (hall j hlj) with h1 | h1
   ·exact h1
   ·rcases List.mem_cons.1 h1 with h2 | h2
    ·exact absurd h2 hne
    ·exfalso
     have hb := hP2.1 j h2
     rw [bef_tpl h hlj hi hne] at hb
     rw [decide_eq_true hcs, touch_of hr hin hw] at hb
     simp at hb
end Go.Proofs.YtbajpnbodhhmjaaGreat

/- What one that looks and changes sees of what it wrote: no Go. -/
import Derived.Test.YtblfljmcbpodbaaP1
import Derived.Test.YtblfljmcbpodbaaB3
namespace Go.Proofs.Ytblfljmcbpodbaa
open Go.RowKit
open KM
open VM
attribute [local go_sem ↓] Go.wp_at_zero Go.wp_at_succ

theorem gone_empty {x : Wt} (h : writeB x = true) (hg : x.2.2 = true) : x.2.1 = ⟨#[]⟩ := by
  unfold writeB at h
  rw [hg] at h
  simp only [Bool.and_eq_true, Bool.not_true, Bool.false_or] at h
  have e : x.2.1.toList = [] := List.isEmpty_iff.1 h.2
  exact toList_inj (e.trans (by rw [toList_data]))
theorem own_get {t : Tx} (vs : List Vr) (h : WsD t.ws) {i : Nat} (hi : i < t.ws.length) : sawB (ownB t vs t.ws[i].1) = .tuple #[.string t.ws[i].2.1, .bool (!t.ws[i].2.2)] := by
  have hno : NoK t.ws t.ws[i].1 i := fun j hj hji e => by
    have := List.pairwise_iff_getElem.1 h.2 j i hj hi hji
    rw [toList_inj e, lt_irrefl'] at this
    cases this
  rw [ownB_some (ownW_at hno hi rfl)]
  have hw := (h.1 _ (List.getElem_mem hi)).1
  cases hg : t.ws[i].2.2
  · rfl
  · have he : t.ws[i].2.1 = ⟨#[]⟩ := gone_empty hw hg
    rw [if_pos rfl, he]
    rfl
theorem scan_mem {t : Tx} {vs : List Vr} {rg : Rg} {x : Rg} (h : x ∈ scanO t vs rg) : ownB t vs x.1 = some x.2 := by
  unfold scanO at h
  obtain ⟨k, _, hk⟩ := List.mem_filterMap.1 h
  unfold ownF at hk
  obtain ⟨v, hv, e⟩ := Option.map_eq_some_iff.1 hk
  cases e
  exact hv
theorem scan_at {t : Tx} {vs : List Vr} {rg : Rg} {l : List Rg} (hl : l = scanO t vs rg) {j : Nat} (hj : j < l.length) : sawB (ownB t vs l[j].1) = .tuple #[.string l[j].2, .bool true] := by
  subst hl
  rw [scan_mem (List.getElem_mem hj)]
  rfl
theorem scan_asc (t : Tx) (vs : List Vr) (rg : Rg) : (scanO t vs rg).Pairwise (fun a b => lt a.1 b.1 = true) := by
  unfold scanO
  refine List.Pairwise.filterMap _ (R := fun a b => lt a b = true) ?_ ((keys_spec _).2.filter _)
  intro a a' haa b hb b' hb'
  unfold ownF at hb hb'
  obtain ⟨v, _, e⟩ := Option.map_eq_some_iff.1 hb
  obtain ⟨v', _, e'⟩ := Option.map_eq_some_iff.1 hb'
  cases e
  cases e'
  exact haa
theorem scan_lt {t : Tx} {vs : List Vr} {rg : Rg} {l : List Rg} (hl : l = scanO t vs rg) {j : Nat} (hj : j + 1 < l.length) : Op.bytesLess l[j].1.toList l[j + 1].1.toList = true := by
  subst hl
  exact List.pairwise_iff_getElem.1 (scan_asc t vs rg) j (j + 1) (by omega) hj (by omega)
theorem scan_none (t : Tx) (vs : List Vr) (rg : Rg) : scanO ⟨t.id, t.st, t.snap, t.cs, t.rs, [], t.out, t.nm⟩ vs rg = scanB vs rg t.snap := by
  rw [scan_filter]
  unfold scanO
  simp only [List.map_nil, List.append_nil]
  rfl
theorem scanO_len (t : Tx) (vs : List Vr) (rg : Rg) : (scanO t vs rg).length ≤ t.ws.length + vs.length := by
  rw [scanO_own]
  refine Nat.le_trans (List.length_filterMap_le _ _) ?_
  refine Nat.le_trans ?_ (ownK_len t vs rg)
  exact keys_len _
end Go.Proofs.Ytblfljmcbpodbaa

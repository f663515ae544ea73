/- What a crash leaves, as the specification reckons it. -/
import Derived.Test.YtnfkecefkkdedaaH2
import Derived.Test.YtnfkecefkkdedaaF4
namespace Go.Proofs.Ytnfkecefkkdedaa
open Go.RowKit
open DM

/-- the last odd place among the first n, or -1 -/
def lst (ks : List Int) : Nat → Int
  | 0 => -1
  | n + 1 => if oddAt ks n = true then (n : Int) else lst ks n
theorem lst_yes {ks : List Int} {n : Nat} (h : oddAt ks n = true) : lst ks (n + 1) = (n : Int) := if_pos h
theorem lst_no {ks : List Int} {n : Nat} (h : oddAt ks n = false) : lst ks (n + 1) = lst ks n := if_neg (by simp [h])
theorem lst_bd (ks : List Int) : ∀ n, -1 ≤ lst ks n ∧ lst ks n < (n : Int)
  | 0 => by simp [lst]
  | n + 1 => by
    have := lst_bd ks n
    simp only [lst]
    split <;> omega
theorem odd_lt {ks : List Int} {n : Nat} (h : oddAt ks n = true) : n < ks.length := by
  unfold oddAt at h
  split at h
  · rename_i k hk
    exact (List.getElem?_eq_some_iff.1 hk).1
  · cases h
theorem odd_out {ks : List Int} {n : Nat} (h : ks.length ≤ n) : oddAt ks n = false := by
  unfold oddAt
  rw [List.getElem?_eq_none h]
theorem lst_out {ks : List Int} {n : Nat} (h : ks.length ≤ n) : ∀ m, n ≤ m → lst ks m = lst ks n
  | 0, hm => by
    obtain rfl : n = 0 := by omega
    rfl
  | m + 1, hm => by
    by_cases e : n = m + 1
    · subst e; rfl
    · rw [lst_no (odd_out (by omega))]
      exact lst_out h m (by omega)
theorem lst_odd (ks : List Int) : ∀ n l, lst ks n = (l : Nat) → oddAt ks l = true
  | 0, l, h => by simp [lst] at h
  | n + 1, l, h => by
    simp only [lst] at h
    split at h
    · rename_i ho
      obtain rfl : n = l := by omega
      exact ho
    · exact lst_odd ks n l h
theorem lst_last (ks : List Int) : ∀ n j, lst ks n < (j : Nat) → j < n → oddAt ks j = false
  | 0, j, _, h => by omega
  | n + 1, j, h, hj => by
    simp only [lst] at h
    split at h
    · omega
    · rename_i ho
      by_cases e : j = n
      · subst e; simpa using ho
      · exact lst_last ks n j h (by omega)
theorem chs_same {ps : List Wr} {ks : List Int} {m : Nat} : ∀ n, m ≤ n → (∀ j, m ≤ j → j < n → oddAt ks j = false) → chs ps ks n = chs ps ks m
  | 0, h, _ => by
    obtain rfl : m = 0 := by omega
    rfl
  | n + 1, h, ho => by
    by_cases e : m = n + 1
    · subst e; rfl
    · have h1 := chs_same (ps := ps) (ks := ks) n (by omega) (fun j h1 h2 => ho j h1 (by omega))
      have h2 := ho n (by omega) (by omega)
      simp only [chs]
      rw [h1, h2]
      cases ps[n]? <;> simp

/-- nothing chosen: nothing changes -/
theorem cr_none {ss : List ByteArray} {ps : List Wr} {ks : List Int} {t : Int} (hok : okB ss ps = true) (h : lst ks ps.length = -1) : crS ss ps ks t = ss := by
  have h1 : chs ps ks ps.length = [] := chs_same (m := 0) _ (Nat.zero_le _) (fun j _ hj => lst_last ks _ j (by rw [h]; omega) hj)
  rw [crS_yes hok, crK, h1, tornL_nil]
  exact txs_bys ss

theorem tornL_snoc (ws : List Wr) (p : Wr) (n : Nat) : tornL (ws ++ [p]) n = ws ++ [(p.1, p.2.extract 0 n)] := by
  rw [tornL_last (ws ++ [p]) n ws.length (by simp)]
  simp

theorem ba_cat (a b : ByteArray) : (⟨(a.data.toList ++ b.data.toList).toArray⟩ : ByteArray) = a ++ b := by
  apply ByteArray.ext
  simp

/-- the last one chosen is torn -/
theorem cr_last {ss : List ByteArray} {ps : List Wr} {ks : List Int} {t : Int} {l m nt : Nat} (hok : okB ss ps = true) (hl : lst ks ps.length = (l : Int)) (hlt : l < ps.length) (hm : ps[l].1 = (m : Int)) (ht : t % 65 = (nt : Int)) (_hnt : nt ≤ 64) :
    (flush ss (chs ps ks l)).set m (ps[l].2.extract 0 nt ++ ((flush ss (chs ps ks l)).getD m ByteArray.empty).extract nt 64) = crS ss ps ks t := by
  have hO := okB_iff.1 hok
  have ho := lst_odd ks _ l hl
  have h1 : chs ps ks ps.length = chs ps ks l ++ [ps[l]] := by
    rw [chs_same (m := l + 1) _ (by omega) (fun j h1 h2 => lst_last ks _ j (by rw [hl]; omega) h2), chs_yes hlt ho]
  have h64 : ∀ p ∈ chs ps ks l, p.2.size = 64 := fun p hp => (hO.2.2.2.2 p (chs_mem ps ks _ p hp)).2.2
  have hF := flush_64 ss (chs ps ks l) hO.2.2.2.1 h64
  have hpl := hO.2.2.2.2 _ (List.getElem_mem hlt)
  have hml : m < (flush ss (chs ps ks l)).length := by rw [flush_len]; rw [hm] at hpl; omega
  have hrow := hF _ (List.getElem_mem hml)
  rw [crS_yes hok, crK, h1, tornL_snoc, wrt_app, wrt_flush ss (chs ps ks l) hO.2.2.2.1 h64, ht]
  generalize flush ss (chs ps ks l) = G at *
  have hx : (ps[l].2.extract 0 nt).size = nt := by
    have := hpl.2.2
    simp
    omega
  simp only [Int.toNat_natCast, wrt]
  rw [hm]
  have e1 : (bys G).getD ((m : Int)).toNat [] = G[m].data.toList := by simp [bys, hml]
  have e2 : G.getD m ByteArray.empty = G[m] := by simp [hml]
  rw [e1, e2]
  have e3 : putL G[m].data.toList (ps[l].2.extract 0 nt) = (ps[l].2.extract 0 nt).data.toList ++ (G[m].extract nt 64).data.toList := by
    unfold putL
    rw [hx]
    congr 1
    rw [Lib.extract_data, List.take_of_length_le]
    have : G[m].data.toList.length = G[m].size := by simp
    simp only [List.length_drop]
    omega
  rw [e3]
  unfold txs bys
  rw [Int.toNat_natCast, List.map_set, List.map_map]
  have e4 : List.map ((fun r : List UInt8 => (⟨r.toArray⟩ : ByteArray)) ∘ fun s : ByteArray => s.data.toList) G = G := by
    conv => rhs; rw [← List.map_id G]
    apply List.map_congr_left
    intro s _
    rfl
  rw [e4, ba_cat]
end Go.Proofs.Ytnfkecefkkdedaa

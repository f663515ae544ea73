/- A log by its bytes: sectors one behind the other; what a record put, a count and a turn leave. -/
import Derived.Test.YtekjpoenbcnhdaaGreatPa10
namespace Go.Proofs.YtekjpoenbcnhdaaGreat
namespace FM

def splL (b : List UInt8) (p : Nat) (l : List UInt8) : List UInt8 := b.take p ++ l ++ b.drop (p + l.length)
theorem splL_len (b : List UInt8) (p : Nat) (l : List UInt8) (h : p + l.length ≤ b.length) : (splL b p l).length = b.length := by
 simp only [splL, List.length_append, List.length_take, List.length_drop]
 omega
theorem splL_get (b : List UInt8) (p : Nat) (l : List UInt8) (h : p + l.length ≤ b.length) (i : Nat) :
  (splL b p l)[i]? = if i < p then b[i]? else if i < p + l.length then l[i - p]? else b[i]? := by
 unfold splL
 by_cases h1 : i < p
 ·rw [if_pos h1, List.append_assoc, List.getElem?_append_left (by rw [List.length_take]; omega), List.getElem?_take_of_lt h1]
 ·rw [if_neg h1]
  by_cases h2 : i < p + l.length
  ·rw [if_pos h2, List.getElem?_append_left (by rw [List.length_append, List.length_take]; omega), List.getElem?_append_right (by rw [List.length_take]; omega), List.length_take, show min p b.length = p by omega]
  ·rw [if_neg h2, List.getElem?_append_right (by rw [List.length_append, List.length_take]; omega), List.length_append, List.length_take, List.getElem?_drop]
   congr 1
   omega
theorem splL_nil (b : List UInt8) (p : Nat) : splL b p [] = b := by simp [splL]
theorem splL_splL (b : List UInt8) (p : Nat) (l m : List UInt8) (h : p + l.length + m.length ≤ b.length) : splL (splL b p l) (p + l.length) m = splL b p (l ++ m) := by
 apply List.ext_getElem?
 intro i
 rw [splL_get _ _ _ (by rw [splL_len _ _ _ (by omega)]; omega), splL_get _ _ _ (by omega), splL_get _ _ _ (by rw [List.length_append]; omega), List.length_append]
 by_cases h1 : i < p
 ·simp [h1, show i < p + l.length by omega]
 ·by_cases h2 : i < p + l.length
  ·simp [h1, h2, show i < p + (l.length + m.length) by omega, List.getElem?_append_left (show i - p < l.length by omega)]
  ·by_cases h3 : i < p + l.length + m.length
   ·simp only [if_neg h1, if_neg h2, if_pos h3, if_pos (show i < p + (l.length + m.length) by omega)]
    rw [List.getElem?_append_right (by omega)]
    congr 1
    omega
   ·simp only [if_neg h1, if_neg h2, if_neg h3, if_neg (show ¬ i < p + (l.length + m.length) by omega)]

def flat : List ByteArray → List UInt8
 | [] => []
 | s :: t => s.data.toList ++ flat t
theorem len64 {s : ByteArray} (h : s.size = 64) : s.data.toList.length = 64 := by rw [← h]; simp
theorem flat_len : ∀ ss : List ByteArray, (∀ s ∈ ss, s.size = 64) → (flat ss).length = ss.length * 64
 | [], _ => rfl
 | s :: t, h => by
  rw [flat, List.length_append, len64 (h s (List.mem_cons_self ..)), flat_len t (fun x hx => h x (List.mem_cons_of_mem _ hx)), List.length_cons]
  omega
theorem flat_get : ∀ (ss : List ByteArray), (∀ s ∈ ss, s.size = 64) → ∀ (j i : Nat), i < 64 → (flat ss)[j * 64 + i]? = (ss[j]?).bind (fun s => s.data.toList[i]?)
 | [], _, j, i, _ => by simp [flat]
 | s :: t, h, j, i, hi => by
  have h0 := len64 (h s (List.mem_cons_self ..))
  cases j with
  | zero => rw [flat, List.getElem?_append_left (by omega)]; simp
  | succ j =>
   rw [flat, List.getElem?_append_right (by omega), h0, show (j + 1) * 64 + i - 64 = j * 64 + i by omega, flat_get t (fun x hx => h x (List.mem_cons_of_mem _ hx)) j i hi]
   simp
theorem flat_set (ss : List ByteArray) (h : ∀ s ∈ ss, s.size = 64) (j p : Nat) (l : List UInt8) (x s : ByteArray) (hs : ss[j]? = some s) (hp : p + l.length ≤ 64) (hx : x.data.toList = splL s.data.toList p l) : flat (ss.set j x) = splL (flat ss) (j * 64 + p) l := by
 have hj : j < ss.length := (List.getElem?_eq_some_iff.1 hs).1
 have hs64 : s.size = 64 := h s (List.mem_of_getElem? hs)
 have hx64 : x.size = 64 := by
  have : x.data.toList.length = 64 := by rw [hx, splL_len _ _ _ (by rw [len64 hs64]; exact hp), len64 hs64]
  simpa using this
 have h' : ∀ s ∈ ss.set j x, s.size = 64 := fun y hy => by
  rcases List.mem_or_eq_of_mem_set hy with hy | rfl
  ·exact h y hy
  ·exact hx64
 have hlen := flat_len ss h
 apply List.ext_getElem?
 intro i
 have hm : i % 64 < 64 := by omega
 have hi : i = i / 64 * 64 + i % 64 := by omega
 rw [splL_get _ _ _ (by omega)]
 rw [show (flat (ss.set j x))[i]? = (flat (ss.set j x))[i / 64 * 64 + i % 64]? from congrArg (fun k => (flat (ss.set j x))[k]?) hi, flat_get _ h' _ _ hm]
 rw [show (flat ss)[i]? = (flat ss)[i / 64 * 64 + i % 64]? from congrArg (fun k => (flat ss)[k]?) hi, flat_get _ h _ _ hm]
 by_cases hd : i / 64 = j
 ·rw [hd, List.getElem?_set_self hj, hs]
  simp only [Option.bind_some]
  rw [hx, splL_get _ _ _ (by rw [len64 hs64]; exact hp)]
  by_cases h1 : i % 64 < p
  ·rw [if_pos h1, if_pos (show i < j * 64 + p by omega)]
  ·rw [if_neg h1, if_neg (show ¬ i < j * 64 + p by omega)]
   by_cases h2 : i % 64 < p + l.length
   ·rw [if_pos h2, if_pos (show i < j * 64 + p + l.length by omega)]
    congr 1
    omega
   ·rw [if_neg h2, if_neg (show ¬ i < j * 64 + p + l.length by omega)]
 ·rw [List.getElem?_set_ne (fun e => hd e.symm)]
  by_cases h1 : i < j * 64 + p
  ·rw [if_pos h1]
  ·rw [if_neg h1, if_neg (by omega)]
def piece (F : List UInt8) (o n : Nat) : List UInt8 := (F.drop o).take n
theorem piece_len (F : List UInt8) (o n : Nat) (h : o + n ≤ F.length) : (piece F o n).length = n := by
 simp only [piece, List.length_take, List.length_drop]
 omega
theorem piece_get (F : List UInt8) (o n i : Nat) (h : i < n) : (piece F o n)[i]? = F[o + i]? := by
 rw [piece, List.getElem?_take_of_lt h, List.getElem?_drop]
theorem piece_splL_in (F : List UInt8) (o n p : Nat) (l : List UInt8) (ho : o + n ≤ F.length) (hp : p + l.length ≤ n) : piece (splL F (o + p) l) o n = splL (piece F o n) p l := by
 have hl := piece_len F o n ho
 apply List.ext_getElem?
 intro i
 by_cases hi : i < n
 ·rw [piece_get _ _ _ _ hi, splL_get _ _ _ (by omega), splL_get _ _ _ (by omega), piece_get _ _ _ _ hi]
  by_cases h1 : i < p
  ·rw [if_pos (by omega), if_pos h1]
  ·rw [if_neg (by omega), if_neg h1]
   by_cases h2 : i < p + l.length
   ·rw [if_pos (by omega), if_pos h2]
    congr 1
    omega
   ·rw [if_neg (by omega), if_neg h2]
 ·rw [List.getElem?_eq_none (by rw [piece_len _ _ _ (by rw [splL_len _ _ _ (by omega)]; omega)]; omega), List.getElem?_eq_none (by rw [splL_len _ _ _ (by omega)]; omega)]
theorem piece_splL_out (F : List UInt8) (o n p : Nat) (l : List UInt8) (ho : o + n ≤ F.length) (hp : p + l.length ≤ F.length) (hd : p + l.length ≤ o ∨ o + n ≤ p) : piece (splL F p l) o n = piece F o n := by
 apply List.ext_getElem?
 intro i
 by_cases hi : i < n
 ·rw [piece_get _ _ _ _ hi, piece_get _ _ _ _ hi, splL_get _ _ _ hp]
  rcases hd with hd | hd
  ·rw [if_neg (by omega), if_neg (by omega)]
  ·rw [if_pos (by omega)]
 ·rw [List.getElem?_eq_none (by rw [piece_len _ _ _ (by rw [splL_len _ _ _ hp]; omega)]; omega), List.getElem?_eq_none (by rw [piece_len _ _ _ ho]; omega)]
end FM

namespace WM
theorem rvGo_loc : ∀ f n k l l' r, rvGo f n k l = some r → (∀ i, i < r.2 - k → l[i]? = l'[i]?) → rvGo f n k l' = some r := by
 intro f
 induction f with
 | zero => intro n k l l' r h; simp [rvGo] at h
 | succ f ih =>
  intro n k l l' r h hl
  cases l with
  | nil => simp [rvGo] at h
  | cons b t =>
   have hk := rvGo_bd _ _ _ _ _ h
   have h0 := hl 0 (by omega)
   cases l' with
   | nil => simp at h0
   | cons b' t' =>
    obtain rfl : b = b' := by simpa using h0
    simp only [rvGo] at h ⊢
    split at h
    ·rename_i hb
     rw [if_pos hb]
     exact h
    ·rename_i hb
     rw [if_neg hb]
     refine ih _ _ _ _ _ h (fun i hi => ?_)
     have := hl (i + 1) (by omega)
     simpa using this
theorem rv_loc {l l' : List UInt8} {n k : Nat} (h : rv l = some (n, k)) (hl : ∀ i, i < k → l[i]? = l'[i]?) : rv l' = some (n, k) := rvGo_loc 5 0 0 l l' (n, k) h (by simpa using hl)
theorem rvGo_var : ∀ (f m N k : Nat) (t : List UInt8), (varL m).length ≤ f → N + m * 128 ^ k ≤ 1000000000 → (0 < m ∨ k = 0) →
  rvGo f N k (varL m ++ t) = some (N + m * 128 ^ k, k + (varL m).length) := by
 intro f
 induction f with
 | zero => intro m N k t hf; have := varL_pos m; omega
 | succ f ih =>
  intro m N k t hf hb h0
  by_cases hm : 127 < m
  ·rw [varL_big m hm] at hf ⊢
   simp only [List.length_cons] at hf
   have e1 : (UInt8.ofNat (m % 128 + 128)).toNat = m % 128 + 128 := by simp only [UInt8.toNat_ofNat']; omega
   have e2 : (m % 128 + 128) % 128 = m % 128 := by omega
   have e3 : N + m % 128 * 128 ^ k + m / 128 * 128 ^ (k + 1) = N + m * 128 ^ k := by
    have : m = m % 128 + 128 * (m / 128) := by omega
    conv => rhs; rw [this]
    rw [Nat.pow_succ, Nat.add_mul, Nat.mul_comm (128 ^ k) 128, ← Nat.mul_assoc, Nat.mul_comm (m / 128) 128]
    omega
   simp only [List.cons_append, rvGo]
   rw [e1, if_neg (by omega), e2, ih (m / 128) (N + m % 128 * 128 ^ k) (k + 1) t (by omega) (by rw [e3]; exact hb) (Or.inl (by omega)), e3]
   simp only [List.length_cons]
   rw [show k + 1 + (varL (m / 128)).length = k + ((varL (m / 128)).length + 1) by omega]
  ·rw [varL_small m (by omega)] at hf ⊢
   have e1 : (UInt8.ofNat m).toNat = m := by simp only [UInt8.toNat_ofNat']; omega
   have e2 : m % 128 = m := by omega
   simp only [List.cons_append, rvGo, List.nil_append]
   rw [e1, if_pos (by omega), e2, if_neg (by omega)]
   rfl

theorem rv_var (n : Nat) (hn : n ≤ 1000000000) (t : List UInt8) : rv (varL n ++ t) = some (n, (varL n).length) := by
 have h := rvGo_var 5 n 0 0 t (varL_len5 n (by omega)) (by simpa using hn) (Or.inr rfl)
 unfold rv
 simpa using h

end WM
end Go.Proofs.YtekjpoenbcnhdaaGreat

namespace Go.Proofs.YtekjpoenbcnhdaaGreat
open Go.RowKit
open DM
open FM

def okW (n : Nat) (p : Wr) : Prop := 0 ≤ p.1 ∧ p.1 < (n : Int) ∧ p.2.size = 64

theorem back_flush (ss : List ByteArray) (ps : List Wr) (hp : ∀ p ∈ ps, okW ss.length p) (j : Nat) (hj : j < ss.length) : ∀ k, k ≤ ps.length → (back ps (j : Int) k).getD (ss.getD j ByteArray.empty) = (flush ss (ps.take k)).getD j ByteArray.empty
 | 0, _ => by simp [back, flush]
 | k + 1, hk => by
  have hk' : k < ps.length := hk
  have hok := hp ps[k] (List.getElem_mem hk')
  obtain ⟨m, hm⟩ := Int.eq_ofNat_of_zero_le hok.1
  have hmn : m < ss.length := by have := hok.2.1; omega
  rw [flush_succ ss ps k m hk' hm]
  by_cases e : ps[k].1 = (j : Int)
  ·obtain rfl : m = j := by omega
   rw [back_hit hk' e]
   show ps[k].2 = _
   rw [List.getD_eq_getElem?_getD, List.getElem?_set_self (by rw [flush_len]; exact hmn)]
   rfl
  ·have hne : m ≠ j := by omega
   rw [back_miss hk' e, back_flush ss ps hp j hj k (by omega), List.getD_eq_getElem?_getD, List.getD_eq_getElem?_getD, List.getElem?_set_ne hne]
theorem rdR_flush (ss : List ByteArray) (ps : List Wr) (hp : ∀ p ∈ ps, okW ss.length p) (j : Nat) (hj : j < ss.length) : rdR ss ps (j : Int) = (flush ss ps).getD j ByteArray.empty := by
 rw [show rdR ss ps (j : Int) = rd ss ps (j : Int) from if_pos (hasB_iff.2 ⟨by omega, by omega⟩)]
 have h := back_flush ss ps hp j hj ps.length (Nat.le_refl _)
 rw [List.take_length] at h
 exact h
theorem spl_toList (b : ByteArray) (p : Nat) (l : List UInt8) : (spl b p l).data.toList = splL b.data.toList p l := by simp [spl, splL]

theorem wbGo_flat (ss : List ByteArray) (h64 : ∀ s ∈ ss, s.size = 64) (k0 : Nat) : ∀ (f : Nat) (cur : List Wr) (q : Nat) (rest : List UInt8), rest.length ≤ f → (∀ p ∈ cur, okW ss.length p) → k0 * 64 + q + rest.length ≤ ss.length * 64 →
  flat (flush ss (wbGo ss k0 f cur q rest)) = splL (flat (flush ss cur)) (k0 * 64 + q) rest
 | 0, cur, q, rest, hf, _, _ => by
  obtain rfl : rest = [] := List.length_eq_zero_iff.1 (by omega)
  rw [wbGo, splL_nil]
 | f + 1, cur, q, rest, hf, hc, hr => by
  simp only [wbGo]
  by_cases hn : rest = []
  ·subst hn
   rw [if_pos rfl, splL_nil]
  ·rw [if_neg hn]
   have hpos : 0 < rest.length := List.length_pos_iff.2 hn
   have hS64 : ∀ s ∈ flush ss cur, s.size = 64 := flush_64 ss cur h64 (fun p hp => (hc p hp).2.2)
   obtain ⟨j, hj⟩ : ∃ j, j = k0 + q / 64 := ⟨_, rfl⟩
   obtain ⟨p, hp⟩ : ∃ p, p = q % 64 := ⟨_, rfl⟩
   rw [← hj, ← hp]
   have hjl : j < ss.length := by omega
   have hjf : j < (flush ss cur).length := by rw [flush_len]; exact hjl
   have hrd : rdR ss cur (j : Int) = (flush ss cur)[j] := by
    rw [rdR_flush ss cur hc j hjl, List.getD_eq_getElem?_getD, List.getElem?_eq_getElem hjf]
    rfl
   have hsz : ((flush ss cur)[j]).size = 64 := hS64 _ (List.getElem_mem hjf)
   have hl1 : (rest.take (64 - p)).length = min (64 - p) rest.length := List.length_take
   rw [hrd]
   have hx64 : (spl (flush ss cur)[j] p (rest.take (64 - p))).size = 64 := by rw [spl_size _ _ _ (by omega), hsz]
   rw [wbGo_flat ss h64 k0 f _ _ _ (by rw [List.length_drop]; omega) (fun r hr' => by
    rcases List.mem_append.1 hr' with hr' | hr'
    ·exact hc r hr'
    ·obtain rfl := List.mem_singleton.1 hr'
     exact ⟨by show (0 : Int) ≤ (j : Int); omega, by show (j : Int) < _; omega, hx64⟩) (by rw [List.length_drop]; omega)]
   rw [flush_snoc, show (((j : Nat) : Int), spl (flush ss cur)[j] p (rest.take (64 - p))).1.toNat = j from Int.toNat_natCast j,
    flat_set _ hS64 j p (rest.take (64 - p)) _ _ (List.getElem?_eq_getElem hjf) (by omega) (spl_toList _ _ _)]
   rw [show j * 64 + p = k0 * 64 + q by omega, show k0 * 64 + (q + min (64 - p) rest.length) = k0 * 64 + q + (rest.take (64 - p)).length by omega,
    splL_splL _ _ _ _ (by rw [flat_len _ hS64, flush_len, List.length_drop]; omega), List.take_append_drop]
theorem wb_flat (ss : List ByteArray) (h64 : ∀ s ∈ ss, s.size = 64) (k0 q : Nat) (l : List UInt8) (h : k0 * 64 + q + l.length ≤ ss.length * 64) : flat (flush ss (wb ss k0 q l)) = splL (flat ss) (k0 * 64 + q) l :=
 wbGo_flat ss h64 k0 l.length [] q l (Nat.le_refl _) (fun p hp => by cases hp) h

/-! the parts of a log, by its bytes -/
def arF (F : List UInt8) (a : Int) : List UInt8 := piece F ((af a + 1).toNat * 64) 3008
def cnF (F : List UInt8) (a : Int) : Nat := (F[(af a).toNat * 64]?.getD 0).toNat
def raF (F : List UInt8) (a : Int) : Option (List ByteArray × Nat) := recsGo ⟨(arF F a).toArray⟩ (cnF F a) [] 0

theorem piece_add (F : List UInt8) (o n m : Nat) : piece F o (n + m) = piece F o n ++ piece F (o + n) m := by
 unfold piece
 rw [List.take_add, List.drop_drop]
theorem piece_sector (ss : List ByteArray) (h64 : ∀ s ∈ ss, s.size = 64) (j : Nat) (hj : j < ss.length) : piece (flat ss) (j * 64) 64 = (ss.getD j ByteArray.empty).data.toList := by
 have e0 : ss.getD j ByteArray.empty = ss[j] := getD_at hj
 have e1 : ss[j].size = 64 := h64 _ (List.getElem_mem hj)
 rw [e0]
 apply List.ext_getElem?
 intro i
 by_cases hi : i < 64
 ·rw [piece_get _ _ _ _ hi, flat_get ss h64 j i hi, List.getElem?_eq_getElem hj]
  rfl
 ·rw [List.getElem?_eq_none (by rw [piece_len _ _ _ (by rw [flat_len ss h64]; omega)]; omega), List.getElem?_eq_none (by rw [FM.len64 e1]; omega)]
theorem stx_piece (ss : List ByteArray) (h64 : ∀ s ∈ ss, s.size = 64) (m : Nat) : ∀ k, m + k ≤ ss.length → stx ss [] (m : Int) k = piece (flat ss) (m * 64) (k * 64)
 | 0, _ => by simp [stx, piece]
 | k + 1, h => by
  rw [stx, stx_piece ss h64 m k (by omega), show (m : Int) + (k : Int) = ((m + k : Nat) : Int) by omega, rdR_nil ss (m + k) (by omega), ← piece_sector ss h64 (m + k) (by omega), show (k + 1) * 64 = k * 64 + 64 by omega, piece_add, show m * 64 + k * 64 = (m + k) * 64 by omega]
theorem arT_flat {ss : List ByteArray} (h64 : ∀ s ∈ ss, s.size = 64) (h97 : ss.length = 97) {a : Int} (hA : isA a = true) : arT ss [] a = ⟨(arF (flat ss) a).toArray⟩ ∧ stB ss (af a + 1) 47 = true := by
 have hin := af1_in hA
 have hok : stOk ss (af a + 1) 47 := ⟨by omega, by omega, fun i hi => hasB_iff.2 ⟨by omega, by rw [h97]; have : i < 47 := hi; omega⟩⟩
 have h := st_yes (ps := []) hok
 refine ⟨?_, h.1⟩
 unfold arT
 rw [h.2]
 have e := stx_piece ss h64 (af a + 1).toNat 47 (by omega)
 rw [hin.1] at e
 rw [show (47 : Int).toNat = 47 from rfl, e]
 rfl
theorem cnt_flat {ss : List ByteArray} (h64 : ∀ s ∈ ss, s.size = 64) (h97 : ss.length = 97) {a : Int} (hA : isA a = true) : cnt ss [] a = (cnF (flat ss) a : Int) := by
 have hin := af_in hA
 obtain ⟨q, hq⟩ : ∃ q, q = (af a).toNat := ⟨_, rfl⟩
 have hql : q < ss.length := by omega
 unfold cnt cnF
 rw [if_pos hA, show af a = (q : Int) by omega, Int.toNat_natCast, rdR_nil ss q hql]
 have e0 : ss.getD q ByteArray.empty = ss[q] := getD_at hql
 have e1 : ss[q].size = 64 := h64 _ (List.getElem_mem hql)
 have e2 := flat_get ss h64 q 0 (by omega)
 rw [Nat.add_zero, List.getElem?_eq_getElem hql] at e2
 rw [e0, e2, fb_pos (by omega)]
 simp only [Option.bind_some]
 rw [List.getElem?_eq_getElem (by rw [FM.len64 e1]; omega)]
 rfl
theorem raO_flat {ss : List ByteArray} (h64 : ∀ s ∈ ss, s.size = 64) (h97 : ss.length = 97) {a : Int} (hA : isA a = true) : raO ss [] a = raF (flat ss) a := by
 have h := arT_flat h64 h97 hA
 rw [← raO_yes hA h.2, h.1, cnt_flat h64 h97 hA]
 rfl

/-! records hang on their own bytes -/
theorem recs_mono {s : ByteArray} : ∀ c (acc : List ByteArray) (p : Nat) (l : List ByteArray) (q : Nat), recsGo s c acc p = some (l, q) → p ≤ q
 | 0, acc, p, l, q, h => by simp only [recsGo, Option.some.injEq, Prod.mk.injEq] at h; omega
 | c + 1, acc, p, l, q, h => by
  cases hr : rec1 s p with
  | none => have := recs_none h hr; cases this
  | some x =>
   obtain ⟨t, p'⟩ := x
   have h2 := recs_some h hr
   have := recs_mono c _ _ _ _ h2
   have := (rec1_le hr).2.1
   omega
theorem rec1_loc {s s' : ByteArray} (hz : s'.size = s.size) {p : Nat} {t : ByteArray} {q : Nat} (h : rec1 s p = some (t, q)) (hl : ∀ i, i < q → s.data.toList[i]? = s'.data.toList[i]?) : rec1 s' p = some (t, q) := by
 unfold rec1 at h
 split at h
 ·cases h
 ·rename_i n k hr
  split at h
  ·cases h
  ·rename_i hc
   simp only [Option.some.injEq, Prod.mk.injEq] at h
   have hr' : WM.rv (s'.data.toList.drop p) = some (n, k) := WM.rv_loc hr (fun i hi => by
    rw [List.getElem?_drop, List.getElem?_drop]
    exact hl _ (by omega))
   rw [rec1_ok hr' (by rw [hz]; exact hc)]
   congr 2
   ·rw [← h.1]
    apply ByteArray.ext
    apply Array.toList_inj.1
    rw [Lib.extract_data, Lib.extract_data]
    apply List.ext_getElem?
    intro i
    by_cases hi : i < p + k + n - (p + k)
    ·rw [List.getElem?_take_of_lt hi, List.getElem?_take_of_lt hi, List.getElem?_drop, List.getElem?_drop]
     exact (hl _ (by omega)).symm
    ·rw [List.getElem?_take_eq_none (by omega), List.getElem?_take_eq_none (by omega)]
   ·exact h.2
theorem recs_loc {s s' : ByteArray} (hz : s'.size = s.size) : ∀ c (acc : List ByteArray) (p : Nat) (l : List ByteArray) (q : Nat), recsGo s c acc p = some (l, q) → (∀ i, i < q → s.data.toList[i]? = s'.data.toList[i]?) → recsGo s' c acc p = some (l, q)
 | 0, acc, p, l, q, h, _ => h
 | c + 1, acc, p, l, q, h, hl => by
  cases hr : rec1 s p with
  | none => have := recs_none h hr; cases this
  | some x =>
   obtain ⟨t, p'⟩ := x
   have h2 := recs_some h hr
   have hm := recs_mono c _ _ _ _ h2
   have hr' := rec1_loc hz hr (fun i hi => hl i (by omega))
   have h3 := recs_loc hz c _ _ _ _ h2 hl
   rw [← recs_some rfl hr'] 
   exact h3
theorem recs_snoc {s : ByteArray} {t : ByteArray} {q' : Nat} : ∀ c (acc : List ByteArray) (p : Nat) (l : List ByteArray) (q : Nat), recsGo s c acc p = some (l, q) → rec1 s q = some (t, q') → recsGo s (c + 1) acc p = some (l ++ [t], q')
 | 0, acc, p, l, q, h, hr => by
  simp only [recsGo, Option.some.injEq, Prod.mk.injEq] at h
  obtain ⟨rfl, rfl⟩ := h
  rw [← recs_some rfl hr]
  rfl
 | c + 1, acc, p, l, q, h, hr => by
  cases hr2 : rec1 s p with
  | none => have := recs_none h hr2; cases this
  | some x =>
   obtain ⟨t2, p'⟩ := x
   have h2 := recs_some h hr2
   rw [← recs_some rfl hr2]
   exact recs_snoc c _ _ _ _ h2 hr
theorem rec1_put (l : List UInt8) (E : Nat) (t : ByteArray) (h : E + (recL t).length ≤ l.length) (h0 : 0 < t.size) (htz : t.size ≤ 1048576) : rec1 ⟨(splL l E (recL t)).toArray⟩ E = some (t, E + (recL t).length) := by
 have hd : (splL l E (recL t)).toArray.toList.drop E = WM.varL t.size ++ (t.data.toList ++ l.drop (E + (recL t).length)) := by
  rw [List.toList_toArray]
  unfold splL
  rw [List.append_assoc, List.drop_left' (by rw [List.length_take]; omega)]
  unfold recL
  rw [List.append_assoc]
 have hr : WM.rv ((⟨(splL l E (recL t)).toArray⟩ : ByteArray).data.toList.drop E) = some (t.size, (WM.varL t.size).length) := by
  show WM.rv ((splL l E (recL t)).toArray.toList.drop E) = _
  rw [hd]
  exact WM.rv_var t.size (by omega) _
 have hsz : (⟨(splL l E (recL t)).toArray⟩ : ByteArray).size = l.length := by
  show (splL l E (recL t)).toArray.size = _
  rw [List.size_toArray, splL_len _ _ _ h]
 have hrl := recL_len t
 rw [rec1_ok hr (by rw [hsz]; omega)]
 congr 2
 ·apply ByteArray.ext
  apply Array.toList_inj.1
  rw [Lib.extract_data]
  show List.take _ (List.drop _ (splL l E (recL t)).toArray.toList) = _
  rw [← List.drop_drop, hd, List.drop_left' rfl, List.take_left' (by rw [Array.length_toList]; show t.size = _; omega)]
 ·omega

/-! what bytes put over a log leave of it -/
theorem af_off {a : Int} (hA : isA a = true) : (af a + 1).toNat * 64 = (af a).toNat * 64 + 64 ∧ (af a).toNat * 64 + 3072 ≤ 6208 ∧ 64 ≤ (af a).toNat * 64 := by
 rcases isA_iff.1 hA with rfl | rfl <;> decide
theorem af_two {a b : Int} (hA : isA a = true) (hB : isA b = true) (hne : b ≠ a) : (af a).toNat * 64 + 3072 ≤ (af b).toNat * 64 ∨ (af b).toNat * 64 + 3072 ≤ (af a).toNat * 64 := by
 rcases isA_iff.1 hA with rfl | rfl <;> rcases isA_iff.1 hB with rfl | rfl
 ·exact absurd rfl hne
 ·decide
 ·decide
 ·exact absurd rfl hne
theorem arF_out {F : List UInt8} (hF : F.length = 6208) {a : Int} (hA : isA a = true) {p : Nat} {l : List UInt8} (hp : p + l.length ≤ 6208) (h : p + l.length ≤ (af a).toNat * 64 + 64 ∨ (af a).toNat * 64 + 3072 ≤ p) : arF (splL F p l) a = arF F a := by
 have ho := af_off hA
 unfold arF
 rw [ho.1]
 exact piece_splL_out F _ _ _ _ (by omega) (by omega) (by omega)
theorem cnF_out {F : List UInt8} (hF : F.length = 6208) {a : Int} {p : Nat} {l : List UInt8} (hp : p + l.length ≤ 6208) (h : p + l.length ≤ (af a).toNat * 64 ∨ (af a).toNat * 64 < p) : cnF (splL F p l) a = cnF F a := by
 unfold cnF
 rw [splL_get _ _ _ (by omega)]
 rcases h with h | h
 ·rw [if_neg (by omega), if_neg (by omega)]
 ·rw [if_pos h]
theorem cnF_at {F : List UInt8} (hF : F.length = 6208) {a : Int} (hA : isA a = true) (x : UInt8) : cnF (splL F ((af a).toNat * 64) [x]) a = x.toNat := by
 have ho := af_off hA
 unfold cnF
 rw [splL_get _ _ _ (by simp; omega), if_neg (by omega), if_pos (by simp)]
 simp
theorem raF_out {F : List UInt8} (hF : F.length = 6208) {a : Int} (hA : isA a = true) {p : Nat} {l : List UInt8} (hp : p + l.length ≤ 6208) (h : p + l.length ≤ (af a).toNat * 64 ∨ (af a).toNat * 64 + 3072 ≤ p) : raF (splL F p l) a = raF F a := by
 unfold raF
 rw [arF_out hF hA hp (by omega), cnF_out hF hp (by omega)]
theorem raF_zero {F : List UInt8} (hF : F.length = 6208) {a : Int} (hA : isA a = true) : raF (splL F ((af a).toNat * 64) [0]) a = some ([], 0) := by
 unfold raF
 rw [cnF_at hF hA]
 rfl
def putF (F : List UInt8) (a : Int) (E : Nat) (t : ByteArray) : List UInt8 := splL (splL F ((af a + 1).toNat * 64 + E) (recL t)) ((af a).toNat * 64) [UInt8.ofNat (cnF F a + 1)]
theorem putF_in {F : List UInt8} (hF : F.length = 6208) {a : Int} (hA : isA a = true) {l : List ByteArray} {E : Nat} {t : ByteArray} (hra : raF F a = some (l, E)) (hroom : (recL t).length + E ≤ 3008) (h0 : 0 < t.size) (htz : t.size ≤ 1048576) (hc : cnF F a < 255) : raF (putF F a E t) a = some (l ++ [t], E + (recL t).length) := by
 have ho := af_off hA
 have hF1 : (splL F ((af a + 1).toNat * 64 + E) (recL t)).length = 6208 := by rw [splL_len _ _ _ (by omega), hF]
 have hal : (arF F a).length = 3008 := piece_len F _ _ (by omega)
 have har : arF (putF F a E t) a = splL (arF F a) E (recL t) := by
  unfold putF
  rw [arF_out hF1 hA (by simp; omega) (by simp)]
  exact piece_splL_in F _ _ _ _ (by omega) (by omega)
 have hcn : cnF (putF F a E t) a = cnF F a + 1 := by
  unfold putF
  rw [cnF_at hF1 hA]
  have := toNat_ofNat (cnF F a + 1) (by omega)
  omega
 unfold raF
 rw [har, hcn]
 have hz : (⟨(splL (arF F a) E (recL t)).toArray⟩ : ByteArray).size = (⟨(arF F a).toArray⟩ : ByteArray).size := by
  show (splL (arF F a) E (recL t)).toArray.size = (arF F a).toArray.size
  rw [List.size_toArray, List.size_toArray, splL_len _ _ _ (by omega)]
 refine recs_snoc _ _ _ _ _ (recs_loc hz _ _ _ _ _ hra (fun i hi => ?_)) (rec1_put _ _ _ (by omega) h0 htz)
 show (arF F a).toArray.toList[i]? = (splL (arF F a) E (recL t)).toArray.toList[i]?
 rw [List.toList_toArray, List.toList_toArray, splL_get _ _ _ (by omega), if_pos hi]
theorem putF_out {F : List UInt8} (hF : F.length = 6208) {a b : Int} (hA : isA a = true) (hB : isA b = true) (hne : b ≠ a) {E : Nat} {t : ByteArray} (hroom : (recL t).length + E ≤ 3008) : raF (putF F a E t) b = raF F b := by
 have ho := af_off hA
 have h2 := af_two hA hB hne
 have hF1 : (splL F ((af a + 1).toNat * 64 + E) (recL t)).length = 6208 := by rw [splL_len _ _ _ (by omega), hF]
 unfold putF
 rw [raF_out hF1 hB (by simp; omega) (by simp; omega), raF_out hF hB (by omega) (by omega)]
end Go.Proofs.YtekjpoenbcnhdaaGreat

/- What is written is read, and what is read was written: no Go. -/
import Derived.Test.YtnljmdodpffmoaaGreatPc29
import Derived.Test.YtnljmdodpffmoaaGreatPc16
import Derived.Test.YtnljmdodpffmoaaGreatPc01
import Derived.Test.YtnljmdodpffmoaaGreatPc11
import Derived.Deep.RegionHeld
import Derived.Deep.RegionHeld3
namespace Go.Proofs.YtnljmdodpffmoaaGreat
open Go.RowKit
open KM
open VM
attribute [local go_sem ↓] Go.wp_at_zero Go.wp_at_succ

namespace WM
theorem rvGo_var : ∀ (f m N k : Nat) (t : List UInt8), (varL m).length ≤ f → N + m * 128 ^ k ≤ 1000000000 → (0 < m ∨ k = 0) →
  rvGo f N k (varL m ++ t) = some (N + m * 128 ^ k, k + (varL m).length) := by
 intro f
 induction f with
 | zero => intro m N k t hf; have := varL_pos m; omega
 | succ f ih =>
  intro m N k t hf hb h0
  by_cases hm : 127 < m
  ·rw [varL_big m hm] at hf ⊢
   simp only [List.length_cons] at hf
   have e1 : (UInt8.ofNat (m % 128 + 128)).toNat = m % 128 + 128 := by simp only [UInt8.toNat_ofNat']; omega
   have e2 : (m % 128 + 128) % 128 = m % 128 := by omega
   have e3 : N + m % 128 * 128 ^ k + m / 128 * 128 ^ (k + 1) = N + m * 128 ^ k := by
    have : m = m % 128 + 128 * (m / 128) := by omega
    conv => rhs; rw [this]
    rw [Nat.pow_succ, Nat.add_mul, Nat.mul_comm (128 ^ k) 128, ← Nat.mul_assoc, Nat.mul_comm (m / 128) 128]
    omega
   simp only [List.cons_append, rvGo]
   rw [e1, if_neg (by omega), e2, ih (m / 128) (N + m % 128 * 128 ^ k) (k + 1) t (by omega) (by rw [e3]; exact hb) (Or.inl (by omega)), e3]
   simp only [List.length_cons]
   rw [show k + 1 + (varL (m / 128)).length = k + ((varL (m / 128)).length + 1) by omega]
  ·rw [varL_small m (by omega)] at hf ⊢
   have e1 : (UInt8.ofNat m).toNat = m := by simp only [UInt8.toNat_ofNat']; omega
   have e2 : m % 128 = m := by omega
   simp only [List.cons_append, rvGo, List.nil_append]
   rw [e1, if_pos (by omega), e2, if_neg (by omega)]
   rfl

theorem rv_var (n : Nat) (hn : n ≤ 1000000000) (t : List UInt8) : rv (varL n ++ t) = some (n, (varL n).length) := by
 have h := rvGo_var 5 n 0 0 t (varL_len5 n (by omega)) (by simpa using hn) (Or.inr rfl)
 unfold rv
 simpa using h
theorem rvGo_back : ∀ (f : Nat) (pre t : List UInt8) (r : Nat × Nat), (∀ c ∈ pre, 128 ≤ c.toNat) → rvGo f (val pre) pre.length t = some r → varL r.1 = pre ++ t.take (r.2 - pre.length) := by
 intro f
 induction f with
 | zero => intro pre t r _ h; simp [rvGo] at h
 | succ f ih =>
  intro pre t r hp h
  cases t with
  | nil => simp [rvGo] at h
  | cons b t =>
   simp only [rvGo] at h
   split at h
   ·rename_i hb
    split at h
    ·cases h
    ·rename_i hc
     cases h
     have hv := val_snoc pre b
     rw [← hv, (var_val pre b hp hb).2 (fun hh => hc (Or.inr hh))]
     rw [show pre.length + 1 - pre.length = 1 by omega]
     rfl
   ·rename_i hb
    rw [← val_snoc, show pre.length + 1 = (pre ++ [b]).length by simp] at h
    have hk := (rvGo_bd _ _ _ _ _ h).2.1
    have e := ih (pre ++ [b]) t r (fun c hc => by
     rcases List.mem_append.1 hc with hc | hc
     ·exact hp c hc
     ·rw [List.mem_singleton.1 hc]; omega) h
    rw [e, List.append_assoc]
    simp only [List.length_append, List.length_singleton] at hk ⊢
    rw [show r.2 - pre.length = (r.2 - (pre.length + 1)) + 1 by omega]
    rfl
theorem rv_back {l : List UInt8} {n k : Nat} (h : rv l = some (n, k)) : varL n = l.take k := by
 have := rvGo_back 5 [] l (n, k) (fun c hc => by cases hc) h
 simpa using this
end WM
abbrev Lx (x : ByteArray) : List UInt8 := x.data.toList
theorem lx_len (x : ByteArray) : (Lx x).length = x.size := Array.length_toList
theorem at_le {x : ByteArray} {p : Nat} {bs r : List UInt8} (h : (Lx x).drop p = bs ++ r) (hb : 0 < bs.length) : p + bs.length ≤ x.size ∧ (Lx x).drop (p + bs.length) = r := by
 have hl := congrArg List.length h
 rw [List.length_drop, lx_len, List.length_append] at hl
 refine ⟨by omega, ?_⟩
 rw [← List.drop_drop, h, List.drop_left']
 rfl
theorem fwdN {x : ByteArray} {p n : Nat} {r : List UInt8} (hn : n ≤ 1000000000) (h : (Lx x).drop p = WM.varL n ++ r) : rN x (p : Int) = some (n, p + (WM.varL n).length) := by
 have h1 := at_le h (WM.varL_pos n)
 rw [rN_in (by omega), show x.data.toList.drop p = WM.varL n ++ r from h, WM.rv_var n hn r]
 rfl
theorem ext_data (x : ByteArray) (a b : Nat) : (x.extract a b).data.toList = ((Lx x).drop a).take (b - a) := by
 rw [ByteArray.data_extract, Array.toList_extract]
theorem fwdS {x : ByteArray} {p : Nat} {s : ByteArray} {r : List UInt8} (hn : s.size ≤ 20000) (h : (Lx x).drop p = shL s ++ r) : rS x (p : Int) = some (s, p + (shL s).length) := by
 unfold shL at h ⊢
 rw [List.append_assoc] at h
 have h0 := at_le h (WM.varL_pos s.size)
 have hl := congrArg List.length h0.2
 rw [List.length_drop, lx_len, List.length_append] at hl
 have hz : s.data.toList.length = s.size := Array.length_toList
 unfold rS
 rw [fwdN (by omega) h]
 dsimp only
 rw [if_pos ⟨hn, by omega⟩, List.length_append, hz, Nat.add_assoc]
 refine congrArg (fun z => some (z, _)) ?_
 apply ByteArray.ext
 apply Array.toList_inj.1
 rw [ext_data, h0.2, show p + ((WM.varL s.size).length + s.size) - (p + (WM.varL s.size).length) = s.size by omega, ← hz, List.take_left']
 rfl
theorem fwdF {x : ByteArray} {p : Nat} {b : Bool} {r : List UInt8} (h : (Lx x).drop p = bitL b ++ r) : rF x (p : Int) = some (b, p + (bitL b).length) := by
 cases b
 ·have e : (Lx x).drop p = WM.varL 0 ++ r := by rw [h, WM.varL_small 0 (by omega)]; rfl
  unfold rF
  rw [fwdN (by omega) e, WM.varL_small 0 (by omega)]
  rfl
 ·have e : (Lx x).drop p = WM.varL 1 ++ r := by rw [h, WM.varL_small 1 (by omega)]; rfl
  unfold rF
  rw [fwdN (by omega) e, WM.varL_small 1 (by omega)]
  rfl
theorem sh_pos (s : ByteArray) : 0 < (shL s).length := by
 unfold shL
 have := WM.varL_pos s.size
 rw [List.length_append]
 omega
theorem fwdRg {x : ByteArray} {p : Nat} {y : Rg} {r : List UInt8} (h1 : y.1.size ≤ 20000) (h2 : y.2.size ≤ 20000) (h : (Lx x).drop p = shL y.1 ++ (shL y.2 ++ r)) : rRg x (p : Int) = some (y, p + (shL y.1 ++ shL y.2).length) := by
 unfold rRg
 rw [fwdS h1 h]
 dsimp only
 rw [fwdS h2 (at_le h (sh_pos _)).2, List.length_append, Nat.add_assoc]
theorem fwdWt {x : ByteArray} {p : Nat} {y : Wt} {r : List UInt8} (h1 : y.1.size ≤ 20000) (h2 : y.2.1.size ≤ 20000) (h : (Lx x).drop p = shL y.1 ++ (shL y.2.1 ++ (bitL y.2.2 ++ r))) : rWt x (p : Int) = some (y, p + (shL y.1 ++ (shL y.2.1 ++ bitL y.2.2)).length) := by
 have k1 := (at_le h (sh_pos _)).2
 have k2 := (at_le k1 (sh_pos _)).2
 unfold rWt
 rw [fwdS h1 h]
 dsimp only
 rw [fwdS h2 k1]
 dsimp only
 rw [fwdF k2, List.length_append, List.length_append, Nat.add_assoc, Nat.add_assoc]
theorem at_more {x : ByteArray} {p : Nat} {bs r : List UInt8} (h : (Lx x).drop p = bs ++ r) : (Lx x).drop (p + bs.length) = r := by
 rw [← List.drop_drop, h, List.drop_left']
 rfl
theorem fwdRs {x : ByteArray} {p : Nat} {rs : List Rg} {r : List UInt8} (hz : ∀ y ∈ rs, y.1.size ≤ 20000 ∧ y.2.size ≤ 20000) (h : (Lx x).drop p = rgL rs ++ r) : ∀ k, k ≤ rs.length → many (rRg x) p k = some (rs.take k, p + (rgL (rs.take k)).length)
 | 0, _ => by simp [many, rgL]
 | k + 1, hk => by
  have ih := fwdRs hz h k (by omega)
  have e : rgL rs = rgL (rs.take k) ++ rgL (rs.drop k) := by unfold rgL; rw [← List.flatMap_append, List.take_append_drop]
  have e2 : rgL (rs.drop k) = shL rs[k].1 ++ (shL rs[k].2 ++ rgL (rs.drop (k + 1))) := by
   unfold rgL
   rw [List.drop_eq_getElem_cons (by omega), List.flatMap_cons, List.append_assoc]
  rw [e, List.append_assoc] at h
  have h1 := at_more h
  rw [e2, List.append_assoc, List.append_assoc] at h1
  have hy := hz _ (List.getElem_mem (show k < rs.length by omega))
  rw [many_yes ih (fwdRg hy.1 hy.2 h1), rg_take (by omega), List.take_succ_eq_append_getElem (by omega)]
  simp only [List.length_append, Nat.add_assoc]
theorem fwdWs {x : ByteArray} {p : Nat} {ws : List Wt} {r : List UInt8} (hz : ∀ y ∈ ws, y.1.size ≤ 20000 ∧ y.2.1.size ≤ 20000) (h : (Lx x).drop p = wtL ws ++ r) : ∀ k, k ≤ ws.length → many (rWt x) p k = some (ws.take k, p + (wtL (ws.take k)).length)
 | 0, _ => by simp [many, wtL]
 | k + 1, hk => by
  have ih := fwdWs hz h k (by omega)
  have e : wtL ws = wtL (ws.take k) ++ wtL (ws.drop k) := by unfold wtL; rw [← List.flatMap_append, List.take_append_drop]
  have e2 : wtL (ws.drop k) = shL ws[k].1 ++ (shL ws[k].2.1 ++ (bitL ws[k].2.2 ++ wtL (ws.drop (k + 1)))) := by
   unfold wtL
   rw [List.drop_eq_getElem_cons (by omega), List.flatMap_cons, List.append_assoc, List.append_assoc]
  rw [e, List.append_assoc] at h
  have h1 := at_more h
  rw [e2, List.append_assoc, List.append_assoc, List.append_assoc] at h1
  have hy := hz _ (List.getElem_mem (show k < ws.length by omega))
  rw [many_yes ih (fwdWt hy.1 hy.2 h1), wt_take (by omega), List.take_succ_eq_append_getElem (by omega)]
  simp only [List.length_append, Nat.add_assoc]
theorem fwdTx {x : ByteArray} {p : Nat} {t : Tx} {r : List UInt8} (ht : txnB t = true) (h : (Lx x).drop p = txL t ++ r) : rTx x (p : Int) = some (t, p + (txL t).length) := by
 have sm := right_small ht
 obtain ⟨n1, hn1⟩ := Int.eq_ofNat_of_zero_le sm.i0
 obtain ⟨n2, hn2⟩ := Int.eq_ofNat_of_zero_le sm.s0
 obtain ⟨n3, hn3⟩ := Int.eq_ofNat_of_zero_le sm.p0
 obtain ⟨n4, hn4⟩ := Int.eq_ofNat_of_zero_le sm.c0
 have b1 := sm.i1
 have b2 := sm.s1
 have b3 := sm.p1
 have b4 := sm.c1
 obtain ⟨id, st, snap, cs, rs, ws, out, nm⟩ := t
 simp only at hn1 hn2 hn3 hn4 b1 b2 b3 b4
 subst hn1 hn2 hn3 hn4
 have hrl := sm.rl
 have hwl := sm.wl
 have hrs := sm.rs
 have hws := sm.ws
 have hnm := sm.nm
 simp only at hrl hwl hrs hws hnm
 unfold txL at h ⊢
 simp only [Int.toNat_natCast, List.append_assoc] at h ⊢
 have k1 := at_more h
 have k2 := at_more k1
 have k3 := at_more k2
 have k4 := at_more k3
 have k5 := at_more k4
 have k6 := at_more k5
 have k7 := at_more k6
 have k8 := at_more k7
 have k9 := at_more k8
 have r5 : rRs x ((p + (WM.varL n1).length + (WM.varL n2).length + (WM.varL n3).length + (WM.varL n4).length : Nat) : Int) = some (rs, p + (WM.varL n1).length + (WM.varL n2).length + (WM.varL n3).length + (WM.varL n4).length + (WM.varL rs.length).length + (rgL rs).length) := by
  unfold rRs
  rw [fwdN (by omega) k4]
  dsimp only
  rw [fwdRs (fun y hy => by have := hrs y hy; omega) k5 rs.length (Nat.le_refl _), List.take_length]
 have r6 : rWs x ((p + (WM.varL n1).length + (WM.varL n2).length + (WM.varL n3).length + (WM.varL n4).length + (WM.varL rs.length).length + (rgL rs).length : Nat) : Int) = some (ws, p + (WM.varL n1).length + (WM.varL n2).length + (WM.varL n3).length + (WM.varL n4).length + (WM.varL rs.length).length + (rgL rs).length + (WM.varL ws.length).length + (wtL ws).length) := by
  unfold rWs
  rw [fwdN (by omega) k6]
  dsimp only
  rw [fwdWs (fun y hy => by have := hws y hy; omega) k7 ws.length (Nat.le_refl _), List.take_length]
 have r1 := fwdN (by omega) h
 have r2 := fwdN (by omega) k1
 have r3 := fwdN (by omega) k2
 have r4 := fwdN (by omega) k3
 have r7 := fwdF k8
 have r8 := fwdS (by omega) k9
 simp only [rTx, r1, r2, r3, r4, r5, r6, r7, r8]
 rw [if_pos ht]
 simp only [List.length_append, Nat.add_assoc]
theorem backN {x : ByteArray} {p : Int} {n q : Nat} (h : rN x p = some (n, q)) : (Lx x).drop p.toNat = WM.varL n ++ (Lx x).drop q := by
 unfold rN at h
 split at h
 ·obtain ⟨r, hr, e⟩ := Option.map_eq_some_iff.1 h
  cases e
  obtain ⟨n, k⟩ := r
  rw [WM.rv_back hr]
  dsimp only
  rw [← List.drop_drop, List.take_append_drop]
 ·cases h
theorem backS {x : ByteArray} {p : Int} {s : ByteArray} {q : Nat} (h : rS x p = some (s, q)) : (Lx x).drop p.toNat = shL s ++ (Lx x).drop q := by
 unfold rS at h
 cases hn : rN x p with
 | none => rw [hn] at h; cases h
 | some r =>
  obtain ⟨n, k⟩ := r
  rw [hn] at h
  have b := backN hn
  dsimp only at h
  split at h
  ·rename_i hc
   cases h
   unfold shL
   rw [size_piece _ _ _ (by omega) hc.2, ext_data, b, List.append_assoc, show k + n - k = n by omega, ← List.drop_drop, List.take_append_drop]
  ·cases h
theorem backF {x : ByteArray} {p : Int} {f : Bool} {q : Nat} (h : rF x p = some (f, q)) : (Lx x).drop p.toNat = bitL f ++ (Lx x).drop q := by
 unfold rF at h
 cases hn : rN x p with
 | none => rw [hn] at h; cases h
 | some r =>
  obtain ⟨n, k⟩ := r
  rw [hn] at h
  have b := backN hn
  dsimp only at h
  split at h
  ·rename_i hc
   cases h
   rw [b]
   rcases (by omega : n = 0 ∨ n = 1) with rfl | rfl
   ·rw [WM.varL_small 0 (by omega)]; rfl
   ·rw [WM.varL_small 1 (by omega)]; rfl
  ·cases h
theorem backRg {x : ByteArray} {p : Int} {y : Rg} {q : Nat} (h : rRg x p = some (y, q)) : (Lx x).drop p.toNat = (shL y.1 ++ shL y.2) ++ (Lx x).drop q := by
 unfold rRg at h
 split at h
 ·cases h
 ·rename_i u hu
  have b1 := backS hu
  split at h
  ·cases h
  ·rename_i v hv
   have b2 := backS hv
   cases h
   rw [b1, List.append_assoc, ← b2, Int.toNat_natCast]
theorem backWt {x : ByteArray} {p : Int} {y : Wt} {q : Nat} (h : rWt x p = some (y, q)) : (Lx x).drop p.toNat = (shL y.1 ++ (shL y.2.1 ++ bitL y.2.2)) ++ (Lx x).drop q := by
 unfold rWt at h
 split at h
 ·cases h
 ·rename_i u hu
  have b1 := backS hu
  split at h
  ·cases h
  ·rename_i v hv
   have b2 := backS hv
   split at h
   ·cases h
   ·rename_i c hc
    have b3 := backF hc
    cases h
    rw [Int.toNat_natCast] at b2 b3
    rw [b1, b2, b3]
    simp only [List.append_assoc]
theorem backMany {α : Type} {x : ByteArray} {f : Int → Option (α × Nat)} {g : α → List UInt8} (hf : ∀ p y q, f p = some (y, q) → (Lx x).drop p.toNat = g y ++ (Lx x).drop q) {p : Nat} : ∀ {k : Nat} {l : List α} {q : Nat}, many f p k = some (l, q) → (Lx x).drop p = l.flatMap g ++ (Lx x).drop q := by
 intro k
 induction k with
 | zero => intro l q h; cases h; simp
 | succ k ih =>
  intro l q h
  simp only [many] at h
  split at h
  ·cases h
  ·rename_i a ha
   have b1 := ih (l := a.1) (q := a.2) ha
   split at h
   ·cases h
   ·rename_i c hc
    have b2 := hf _ c.1 c.2 hc
    cases h
    rw [Int.toNat_natCast] at b2
    rw [b1, b2, List.flatMap_append]
    simp
theorem backRs {x : ByteArray} {p : Int} {l : List Rg} {q : Nat} (h : rRs x p = some (l, q)) : (Lx x).drop p.toNat = WM.varL l.length ++ (rgL l ++ (Lx x).drop q) := by
 unfold rRs at h
 cases hn : rN x p with
 | none => rw [hn] at h; cases h
 | some r =>
  obtain ⟨n, k⟩ := r
  rw [hn] at h
  dsimp only at h
  have b := backN hn
  have hl := (many_len (rN_bd hn).2.2.1 rRg_bd h).1
  rw [b, hl, backMany (fun p y q => backRg) h]
  rfl
theorem backWs {x : ByteArray} {p : Int} {l : List Wt} {q : Nat} (h : rWs x p = some (l, q)) : (Lx x).drop p.toNat = WM.varL l.length ++ (wtL l ++ (Lx x).drop q) := by
 unfold rWs at h
 cases hn : rN x p with
 | none => rw [hn] at h; cases h
 | some r =>
  obtain ⟨n, k⟩ := r
  rw [hn] at h
  dsimp only at h
  have b := backN hn
  have hl := (many_len (rN_bd hn).2.2.1 rWt_bd h).1
  rw [b, hl, backMany (fun p y q => backWt) h]
  rfl
theorem backTx {x : ByteArray} {p : Int} {t : Tx} {q : Nat} (h : rTx x p = some (t, q)) : (Lx x).drop p.toNat = txL t ++ (Lx x).drop q := by
 unfold rTx at h
 split at h
 ·cases h
 rename_i a1 e1
 split at h
 ·cases h
 rename_i a2 e2
 split at h
 ·cases h
 rename_i a3 e3
 split at h
 ·cases h
 rename_i a4 e4
 split at h
 ·cases h
 rename_i a5 e5
 split at h
 ·cases h
 rename_i a6 e6
 split at h
 ·cases h
 rename_i a7 e7
 split at h
 ·cases h
 rename_i a8 e8
 split at h
 ·cases h
  have c1 := backN (n := a1.1) (q := a1.2) e1
  have c2 := backN (n := a2.1) (q := a2.2) e2
  have c3 := backN (n := a3.1) (q := a3.2) e3
  have c4 := backN (n := a4.1) (q := a4.2) e4
  have c5 := backRs (l := a5.1) (q := a5.2) e5
  have c6 := backWs (l := a6.1) (q := a6.2) e6
  have c7 := backF (f := a7.1) (q := a7.2) e7
  have c8 := backS (s := a8.1) (q := a8.2) e8
  simp only [Int.toNat_natCast] at c2 c3 c4 c5 c6 c7 c8
  rw [c1, c2, c3, c4, c5, c6, c7, c8]
  unfold txL
  simp only [Int.toNat_natCast, List.append_assoc]
 ·cases h
end Go.Proofs.YtnljmdodpffmoaaGreat

namespace Go.Proofs.YtnljmdodpffmoaaGreat
open Go.RowKit
open KM
open VM
attribute [local go_sem ↓] Go.wp_at_zero Go.wp_at_succ

def NoR (rs : List Rg) (r : Rg) (k : Nat) : Prop := ∀ i (h : i < rs.length), i < k → rs[i] ≠ r
theorem noR_more {rs : List Rg} {r : Rg} {k : Nat} (h : NoR rs r k) (hk : k < rs.length) (hn : rs[k] ≠ r) : NoR rs r (k + 1) := fun i hi hik => by
 by_cases e : i = k
 ·subst e; exact hn
 ·exact h i hi (by omega)
theorem rg_ne {x r : Rg} (h : ¬ (r.1.toList = x.1.toList ∧ r.2.toList = x.2.toList)) : x ≠ r := fun e => h (by rw [e]; exact ⟨rfl, rfl⟩)
theorem rg_eq {x r : Rg} (h1 : r.1.toList = x.1.toList) (h2 : r.2.toList = x.2.toList) : x = r := Prod.ext (toList_inj h1.symm) (toList_inj h2.symm)

set_option maxRecDepth 100000 in
set_option maxHeartbeats 2000000 in
theorem idxR (rs : List Rg) (a : Option Addr) (c : Nat) (r : Rg) (hn : rs.length ≤ 100000000) (w : World) (hp : GRow encR w a rs) :
  Calls Tryz.prog 86 #[.slice a rs.length c, .agg #[.string r.1, .string r.2]] w fun e w' => (∃ z : Int, e = .returned (.int .i64 z) ∧ (0 ≤ z ↔ r ∈ rs)) ∧ Below w.heap.size w w' := by
 have HP : Hid (GRow encR w a rs) := hp
 clear hp
 have B0 : Hid (Bx (w.alloc (.cells #[.string r.1, .string r.2] 36)) w.heap.size [.string r.1, .string r.2]) := Bx.new w [.string r.1, .string r.2] 36
 have HB0 : Hid (Below w.heap.size w (w.alloc (.cells #[.string r.1, .string r.2] 36))) := (belowRefl w).alloc (Nat.le_refl _) _
 go_enter Tryz.func86, Tryz.ntmps86
 go_wp2
 go_loopw [5, 8] (fun _ t wr => ∃ k : Nat, k ≤ rs.length ∧ t = .int .i64 k ∧ Hid (NoR rs r k) ∧ Hid (Bx wr w.heap.size [.string r.1, .string r.2]) ∧ Hid (Below w.heap.size w wr)) (fun _ t _ => rs.length - (intOf t).toNat)
 case atStart => exact ⟨0, Nat.zero_le _, rfl, (fun i _ h => by cases h), B0, HB0⟩
 case round =>
  clear B0 HB0
  obtain ⟨k, hk, rfl, HN, B, HB⟩ := hrel
  by_cases hlt : k < rs.length
  ·have hlt' : (k : Int) < (rs.length : Int) := by omega
   have h0 : (0 : Int) ≤ (k : Int) := by omega
   obtain ⟨bb, off, rfl, hbl, q⟩ := (HP.out.below HB.out) (by omega)
   have Q := hide (rat q k hlt)
   clear q
   by_cases he : r.1.toList = rs[k].1.toList ∧ r.2.toList = rs[k].2.toList
   ·obtain ⟨e1, e2⟩ := he
    have HI : Hid (0 ≤ (k : Int) ↔ r ∈ rs) := ⟨fun _ => by rw [← rg_eq e1 e2]; exact List.getElem_mem hlt, fun _ => h0⟩
    have g1 : (r.1.toList == rs[k].1.toList) = true := by simpa using e1
    have g2 : (r.2.toList == rs[k].2.toList) = true := by simpa using e2
    go_wp2
    refine wp_region_held_drew (S := fun w' => w'.cell? ⟨w.heap.size, 0, none⟩ = some (.string r.1) ∧ w'.cell? ⟨w.heap.size, 1, none⟩ = some (.string r.2) ∧ w'.cell? ⟨bb, off + k * 2, none⟩ = some (.string rs[k].1) ∧ w'.cell? ⟨bb, off + k * 2 + 1, none⟩ = some (.string rs[k].2)) (by kernel_rfl) ⟨B.out.c0, B.out.c1, Q.out.1, Q.out.2⟩ (fun hHeld => ?_)
    (refine tk 0 ?_ rfl (Or.inl ⟨by rfl, ?_⟩) ?_; rotate_left; (focus (intro w h; (try dsimp only at h); go_simp; (try with_reducible rfl))); simp only [Act.put, tA, tB, tD, tE, tF])
    (refine tk 1 ?_ rfl (Or.inl ⟨by rfl, ?_⟩) ?_; rotate_left; (focus (intro w h; (try dsimp only at h); go_simp; (try with_reducible rfl))); simp only [Act.put, tA, tB, tC, tD, tE, tF])
    (refine tk 2 ?_ rfl (Or.inl ⟨by rfl, ?_⟩) ?_; rotate_left; (focus (intro w h; (try dsimp only at h); go_simp; (try with_reducible rfl))); simp only [Act.put, tA, tB, tC, tD, tE, tF])
    (refine tk 3 ?_ rfl (Or.inl ⟨by rfl, ?_⟩) ?_; rotate_left; (focus (intro w h; (try dsimp only at h); go_simp; (try with_reducible rfl))); simp only [Act.put, tA, tB, tC, tD, tE, tF])
    (refine tk 4 ?_ rfl (Or.inl ⟨by rfl, ?_⟩) ?_; rotate_left; (focus (intro w h; (try dsimp only at h); go_simp; (try with_reducible rfl))); simp only [Act.put, tA, tB, tC, tD, tE, tF])
    (refine tk 5 ?_ rfl (Or.inl ⟨by rfl, ?_⟩) ?_; rotate_left; (focus (intro w h; (try dsimp only at h); go_simp; (try with_reducible rfl))); simp only [Act.put, tA, tB, tC, tD, tE, tF])
    refine wpAnyH_done (by kernel_rfl) ?_ _
    go_wp2
    go_ret
    exact ⟨⟨_, rfl, HI.out⟩, HB.out.drew⟩
   ·have HNn : Hid (NoR rs r (k + 1)) := noR_more HN.out hlt (rg_ne he)
    by_cases e1 : r.1.toList = rs[k].1.toList
    ·have e2 : ¬ r.2.toList = rs[k].2.toList := fun e => he ⟨e1, e⟩
     have g1 : (r.1.toList == rs[k].1.toList) = true := by simpa using e1
     have g2 : (r.2.toList == rs[k].2.toList) = false := by simpa using e2
     clear he
     go_wp2
     refine wp_region_held_drew (S := fun w' => w'.cell? ⟨w.heap.size, 0, none⟩ = some (.string r.1) ∧ w'.cell? ⟨w.heap.size, 1, none⟩ = some (.string r.2) ∧ w'.cell? ⟨bb, off + k * 2, none⟩ = some (.string rs[k].1) ∧ w'.cell? ⟨bb, off + k * 2 + 1, none⟩ = some (.string rs[k].2)) (by kernel_rfl) ⟨B.out.c0, B.out.c1, Q.out.1, Q.out.2⟩ (fun hHeld => ?_)
     (refine tk 0 ?_ rfl (Or.inl ⟨by rfl, ?_⟩) ?_; rotate_left; (focus (intro w h; (try dsimp only at h); go_simp; (try with_reducible rfl))); simp only [Act.put, tA, tB, tD, tE, tF])
     (refine tk 1 ?_ rfl (Or.inl ⟨by rfl, ?_⟩) ?_; rotate_left; (focus (intro w h; (try dsimp only at h); go_simp; (try with_reducible rfl))); simp only [Act.put, tA, tB, tC, tD, tE, tF])
     (refine tk 2 ?_ rfl (Or.inl ⟨by rfl, ?_⟩) ?_; rotate_left; (focus (intro w h; (try dsimp only at h); go_simp; (try with_reducible rfl))); simp only [Act.put, tA, tB, tC, tD, tE, tF])
     (refine tk 3 ?_ rfl (Or.inl ⟨by rfl, ?_⟩) ?_; rotate_left; (focus (intro w h; (try dsimp only at h); go_simp; (try with_reducible rfl))); simp only [Act.put, tA, tB, tC, tD, tE, tF])
     (refine tk 4 ?_ rfl (Or.inl ⟨by rfl, ?_⟩) ?_; rotate_left; (focus (intro w h; (try dsimp only at h); go_simp; (try with_reducible rfl))); simp only [Act.put, tA, tB, tC, tD, tE, tF])
     (refine tk 5 ?_ rfl (Or.inl ⟨by rfl, ?_⟩) ?_; rotate_left; (focus (intro w h; (try dsimp only at h); go_simp; (try with_reducible rfl))); simp only [Act.put, tA, tB, tC, tD, tE, tF])
     refine wpAnyH_done (by kernel_rfl) ?_ _
     go_wp2
     go_roundw
     case rel => exact ⟨k + 1, by omega, by go_num, HNn, B.out.drew, HB.out.drew⟩
     case measure => simp [intOf]; omega
    ·have g1 : (r.1.toList == rs[k].1.toList) = false := by simpa using e1
     clear he
     go_wp2
     refine wp_region_held_drew (S := fun w' => w'.cell? ⟨w.heap.size, 0, none⟩ = some (.string r.1) ∧ w'.cell? ⟨w.heap.size, 1, none⟩ = some (.string r.2) ∧ w'.cell? ⟨bb, off + k * 2, none⟩ = some (.string rs[k].1) ∧ w'.cell? ⟨bb, off + k * 2 + 1, none⟩ = some (.string rs[k].2)) (by kernel_rfl) ⟨B.out.c0, B.out.c1, Q.out.1, Q.out.2⟩ (fun hHeld => ?_)
     (refine tk 0 ?_ rfl (Or.inl ⟨by rfl, ?_⟩) ?_; rotate_left; (focus (intro w h; (try dsimp only at h); go_simp; (try with_reducible rfl))); simp only [Act.put, tA, tB, tD, tE, tF])
     (refine tk 1 ?_ rfl (Or.inl ⟨by rfl, ?_⟩) ?_; rotate_left; (focus (intro w h; (try dsimp only at h); go_simp; (try with_reducible rfl))); simp only [Act.put, tA, tB, tC, tD, tE, tF])
     (refine tk 2 ?_ rfl (Or.inl ⟨by rfl, ?_⟩) ?_; rotate_left; (focus (intro w h; (try dsimp only at h); go_simp; (try with_reducible rfl))); simp only [Act.put, tA, tB, tC, tD, tE, tF])
     (refine tk 3 ?_ rfl (Or.inl ⟨by rfl, ?_⟩) ?_; rotate_left; (focus (intro w h; (try dsimp only at h); go_simp; (try with_reducible rfl))); simp only [Act.put, tA, tB, tC, tD, tE, tF])
     (refine tk 4 ?_ rfl (Or.inl ⟨by rfl, ?_⟩) ?_; rotate_left; (focus (intro w h; (try dsimp only at h); go_simp; (try with_reducible rfl))); simp only [Act.put, tA, tB, tC, tD, tE, tF])
     (refine tk 5 ?_ rfl (Or.inl ⟨by rfl, ?_⟩) ?_; rotate_left; (focus (intro w h; (try dsimp only at h); go_simp; (try with_reducible rfl))); simp only [Act.put, tA, tB, tC, tD, tE, tF])
     refine wpAnyH_done (by kernel_rfl) ?_ _
     go_wp2
     go_roundw
     case rel => exact ⟨k + 1, by omega, by go_num, HNn, B.out.drew, HB.out.drew⟩
     case measure => simp [intOf]; omega
  ·have hlt' : ¬ (k : Int) < (rs.length : Int) := by omega
   have HI : Hid (0 ≤ (-1 : Int) ↔ r ∈ rs) := ⟨fun h => by omega, fun h => by
    obtain ⟨i, hi, e⟩ := List.getElem_of_mem h
    exact absurd e (HN.out i hi (by omega))⟩
   go_wp2
   go_ret
   exact ⟨⟨_, rfl, HI.out⟩, HB.out⟩

set_option maxRecDepth 100000 in
set_option maxHeartbeats 2000000 in
theorem hasR (rs : List Rg) (a : Option Addr) (c : Nat) (r : Rg) (hn : rs.length ≤ 100000000) (w : World) (hp : GRow encR w a rs) :
  Calls Tryz.prog 42 #[.slice a rs.length c, .agg #[.string r.1, .string r.2]] w fun e w' => (∃ b : Bool, e = .returned (.bool b) ∧ (b = true ↔ r ∈ rs)) ∧ Below w.heap.size w w' := by
 have HB0 : Hid (Below w.heap.size w (w.alloc (.cells #[.string r.1, .string r.2] 36))) := (belowRefl w).alloc (Nat.le_refl _) _
 have HP : Hid (GRow encR (w.alloc (.cells #[.string r.1, .string r.2] 36)) a rs) := hp.below HB0.out
 clear hp
 go_enter Tryz.func42, Tryz.ntmps42
 go_wp2_with fail
 refine (idxR rs a c r hn _ HP.out).mono ?_
 rintro e w1 ⟨⟨z, rfl, hz⟩, hb⟩
 have HB1 : Hid (Below w.heap.size w w1) := HB0.out.trans (hb.mono HB0.out.size)
 have HD : Hid (decide (0 ≤ z) = true ↔ r ∈ rs) := by show _ ↔ _; rw [decide_eq_true_iff]; exact hz
 clear hb hz
 go_wp2
 go_ret
 exact ⟨⟨_, rfl, HD.out⟩, HB1.out⟩

end Go.Proofs.YtnljmdodpffmoaaGreat

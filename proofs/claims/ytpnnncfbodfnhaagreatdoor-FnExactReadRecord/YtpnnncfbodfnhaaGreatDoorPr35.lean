/- A record written is read, a record read is written. -/
import Derived.Test.YtpnnncfbodfnhaaGreatDoorPr29
import Derived.Test.YtpnnncfbodfnhaaGreatDoorPr27
import Derived.Test.YtpnnncfbodfnhaaGreatDoorPr34
import Derived.Test.YtpnnncfbodfnhaaGreatDoorPr25
namespace Go.Proofs.YtpnnncfbodfnhaaGreatDoor
open Go.RowKit
open KM
open VM
attribute [local go_sem ↓] Go.wp_at_zero Go.wp_at_succ

theorem tsL_txs (ts : List Ta) : tsL ts = (txs ts).flatMap txL := by unfold tsL txs; rw [List.flatMap_map]
theorem fwdVr {x : ByteArray} {p : Nat} {y : Vr} {r : List UInt8} (hy : VSm y) (h : (Lx x).drop p = vrE y ++ r) : rVr x (p : Int) = some (y, p + (vrE y).length) := by
 obtain ⟨s1, s2, f, c⟩ := y
 obtain ⟨h1, h2, h3, h4⟩ := hy
 simp only at h1 h2 h3 h4
 obtain ⟨n, rfl⟩ := Int.eq_ofNat_of_zero_le h3
 unfold vrE at h ⊢
 simp only [Int.toNat_natCast, List.append_assoc] at h ⊢
 have k1 := at_more h
 have k2 := at_more k1
 have k3 := at_more k2
 have r1 := fwdS (by omega) h
 have r2 := fwdS (by omega) k1
 have r3 := fwdF k2
 have r4 := fwdN (by omega) k3
 simp only [rVr, r1, r2, r3, r4]
 simp only [List.length_append, Nat.add_assoc]
theorem fwdMany {α : Type} {x : ByteArray} {f : Int → Option (α × Nat)} {g : α → List UInt8} {p : Nat} {l : List α} {r : List UInt8} (hf : ∀ y ∈ l, ∀ (p : Nat) (r : List UInt8), (Lx x).drop p = g y ++ r → f (p : Int) = some (y, p + (g y).length)) (h : (Lx x).drop p = l.flatMap g ++ r) : ∀ k, k ≤ l.length → many f p k = some (l.take k, p + ((l.take k).flatMap g).length)
 | 0, _ => by simp [many]
 | k + 1, hk => by
  have ih := fwdMany hf h k (by omega)
  have e : l.flatMap g = (l.take k).flatMap g ++ (g l[k] ++ (l.drop (k + 1)).flatMap g) := by
   rw [← List.flatMap_cons, ← List.drop_eq_getElem_cons (by omega), ← List.flatMap_append, List.take_append_drop]
  rw [e, List.append_assoc] at h
  have h1 := at_more h
  rw [List.append_assoc] at h1
  have hy := hf _ (List.getElem_mem (show k < l.length by omega)) _ _ h1
  rw [many_yes ih hy, List.take_succ_eq_append_getElem (by omega), List.flatMap_append]
  simp only [List.length_append, Nat.add_assoc, List.flatMap_cons, List.flatMap_nil, List.append_nil]
theorem fwdVs {x : ByteArray} {p : Nat} {vs : List Vr} {r : List UInt8} (hn : vs.length ≤ 1000) (hz : ∀ y ∈ vs, VSm y) (h : (Lx x).drop p = WM.varL vs.length ++ (vrL vs ++ r)) : rVs x (p : Int) = some (vs, p + (WM.varL vs.length).length + (vrL vs).length) := by
 unfold rVs
 rw [fwdN (by omega) h]
 dsimp only
 have k := fwdMany (f := rVr x) (g := vrE) (fun y hy p r => fwdVr (hz y hy)) (at_more h) vs.length (Nat.le_refl _)
 rw [List.take_length] at k
 exact k
theorem fwdTs {x : ByteArray} {p : Nat} {ts : List Tx} {r : List UInt8} (hn : ts.length ≤ 1000) (hz : ∀ y ∈ ts, txnB y = true) (h : (Lx x).drop p = WM.varL ts.length ++ (ts.flatMap txL ++ r)) : rTs x (p : Int) = some (ts, p + (WM.varL ts.length).length + (ts.flatMap txL).length) := by
 unfold rTs
 rw [fwdN (by omega) h]
 dsimp only
 have k := fwdMany (f := rTx x) (g := txL) (fun y hy p r => fwdTx (hz y hy)) (at_more h) ts.length (Nat.le_refl _)
 rw [List.take_length] at k
 exact k
theorem backVr {x : ByteArray} {p : Int} {y : Vr} {q : Nat} (h : rVr x p = some (y, q)) : (Lx x).drop p.toNat = vrE y ++ (Lx x).drop q := by
 unfold rVr at h
 split at h
 ·cases h
 rename_i u hu
 have b1 := backS hu
 split at h
 ·cases h
 rename_i v hv
 have b2 := backS hv
 split at h
 ·cases h
 rename_i c hc
 have b3 := backF hc
 split at h
 ·cases h
 rename_i d hd
 have b4 := backN hd
 cases h
 rw [Int.toNat_natCast] at b2 b3 b4
 rw [b1, b2, b3, b4]
 unfold vrE
 simp only [List.append_assoc, Int.toNat_natCast]
theorem backVs {x : ByteArray} {p : Int} {l : List Vr} {q : Nat} (h : rVs x p = some (l, q)) : (Lx x).drop p.toNat = WM.varL l.length ++ (vrL l ++ (Lx x).drop q) := by
 unfold rVs at h
 cases hn : rN x p with
 | none => rw [hn] at h; cases h
 | some r =>
  obtain ⟨n, k⟩ := r
  rw [hn] at h
  dsimp only at h
  have b := backN hn
  have hl := (many_len (rN_bd hn).2.2.1 rVr_bd h).1
  have c := backMany (g := vrE) (fun p y q => backVr) h
  rw [b, hl, c]
  rfl
theorem backTs {x : ByteArray} {p : Int} {l : List Tx} {q : Nat} (h : rTs x p = some (l, q)) : (Lx x).drop p.toNat = WM.varL l.length ++ (l.flatMap txL ++ (Lx x).drop q) := by
 unfold rTs at h
 cases hn : rN x p with
 | none => rw [hn] at h; cases h
 | some r =>
  obtain ⟨n, k⟩ := r
  rw [hn] at h
  dsimp only at h
  have b := backN hn
  have hl := (many_len (rN_bd hn).2.2.1 rTx_bd h).1
  have c := backMany (g := txL) (fun p y q => backTx) h
  rw [b, hl, c]
theorem backBs {x : ByteArray} {p : Int} {s : Bb} {q : Nat} (h : rBs x p = some (s, q)) : (Lx x).drop p.toNat = bsL s ++ (Lx x).drop q := by
 unfold rBs at h
 split at h
 ·cases h
 rename_i a1 e1
 split at h
 ·cases h
 rename_i a2 e2
 split at h
 ·cases h
 rename_i a3 e3
 split at h
 ·cases h
 rename_i a4 e4
 split at h
 ·cases h
 rename_i a5 e5
 split at h
 ·have b1 := backN e1
  have b2 := backN e2
  have b3 := backVs e3
  have b4 := backTs e4
  have b5 := backTs e5
  cases h
  rw [Int.toNat_natCast] at b2 b3 b4 b5
  rw [b1, b2, b3, b4, b5]
  unfold bsL bbOf
  simp only [Int.toNat_natCast, tsL_txs, txs_ta0, List.length_map, List.append_assoc]
 ·cases h
theorem fwdBs {x : ByteArray} {p : Nat} {b : Bb} {r : List UInt8} (hb : sbB b = true) (h : (Lx x).drop p = bsL b ++ r) : ∃ s, rBs x (p : Int) = some (s, p + (bsL b).length) ∧ BSame b s := by
 have sm := base_small hb
 obtain ⟨n1, hn1⟩ := Int.eq_ofNat_of_zero_le sm.c0
 obtain ⟨n2, hn2⟩ := Int.eq_ofNat_of_zero_le sm.n0
 have b1 := sm.c1
 have b2 := sm.n1
 have b3 := sm.vl
 have b4 := sm.pl
 have b5 := sm.ql
 have hs : BSame b (bbOf n1 n2 b.vs (txs b.ps) (txs b.qs)) := ⟨rfl, txs_ta0 _, txs_ta0 _, hn1.symm, hn2.symm⟩
 have hq : sbB (bbOf n1 n2 b.vs (txs b.ps) (txs b.qs)) = true := by rw [sb_same hs]; exact hb
 have e1 : b.cs.toNat = n1 := by rw [hn1]; rfl
 have e2 : b.nx.toNat = n2 := by rw [hn2]; rfl
 have m1 : ∀ y ∈ txs b.ps, txnB y = true := fun y hy => by
  obtain ⟨a, ha, rfl⟩ := List.mem_map.1 hy
  exact sm.ps a ha
 have m2 : ∀ y ∈ txs b.qs, txnB y = true := fun y hy => by
  obtain ⟨a, ha, rfl⟩ := List.mem_map.1 hy
  exact sm.qs a ha
 refine ⟨_, ?_, hs⟩
 have e : bsL b = WM.varL n1 ++ (WM.varL n2 ++ (WM.varL b.vs.length ++ (vrL b.vs ++ (WM.varL (txs b.ps).length ++ ((txs b.ps).flatMap txL ++ (WM.varL (txs b.qs).length ++ (txs b.qs).flatMap txL)))))) := by
  unfold bsL
  rw [e1, e2, tsL_txs, tsL_txs, txs_len, txs_len]
  simp only [List.append_assoc]
 rw [e] at h ⊢
 simp only [List.append_assoc] at h
 have k1 := at_more h
 have k2 := at_more k1
 have k3 := at_more k2
 have k4 := at_more k3
 have k5 := at_more k4
 have k6 := at_more k5
 have r1 := fwdN (by omega) h
 have r2 := fwdN (by omega) k1
 have r3 := fwdVs (by omega) sm.vs k2
 have r4 := fwdTs (by rw [txs_len]; omega) m1 k4
 have r5 := fwdTs (by rw [txs_len]; omega) m2 k6
 simp only [rBs, r1, r2, r3, r4, r5]
 rw [if_pos hq]
 simp only [List.length_append, Nat.add_assoc]
theorem ba_nil {s : ByteArray} (h : s.toList.isEmpty = true) : s = ⟨#[]⟩ := ByteArray.ext (Array.eq_empty_of_size_eq_zero (empty_size h))
theorem noB_same {b : Bb} (h : noB b = true) : BSame b zB := by
 unfold noB at h
 simp only [Bool.and_eq_true, decide_eq_true_eq] at h
 obtain ⟨⟨⟨⟨h1, h2⟩, h3⟩, h4⟩, h5⟩ := h
 refine ⟨(List.length_eq_zero_iff.1 h3).symm, ?_, ?_, h1.symm, h2.symm⟩
 ·rw [List.length_eq_zero_iff.1 h4]; rfl
 ·rw [List.length_eq_zero_iff.1 h5]; rfl
theorem noT_same {t : Tx} (h : noT t = true) : zT = t := by
 obtain ⟨id, st, sn, cs, rs, ws, out, nm⟩ := t
 unfold noT at h
 simp only [Bool.and_eq_true, decide_eq_true_eq, Bool.not_eq_true'] at h
 obtain ⟨⟨⟨⟨⟨⟨⟨h1, h2⟩, h3⟩, h4⟩, h5⟩, h6⟩, h7⟩, h8⟩ := h
 rw [h1, h2, h3, h4, h5, ba_nil h6, List.length_eq_zero_iff.1 h7, List.length_eq_zero_iff.1 h8]
 rfl
theorem rec_full {r : Rc} (h : recB r = true) : ((r.k = 1 ∧ RcSame r (rcT 1 r.t.t) ∧ txnB r.t.t = true) ∨ (r.k = 2 ∧ RcSame r (rcT 2 r.t.t) ∧ txnB r.t.t = true)) ∨ (r.k = 3 ∧ RcSame r (rcE r.nm r.yes) ∧ keyB r.nm = true) ∨ (r.k = 4 ∧ RcSame r (rcB r.b) ∧ sbB r.b = true) := by
 unfold recB at h
 simp only [Bool.or_eq_true, Bool.and_eq_true, decide_eq_true_eq, Bool.not_eq_true'] at h
 rcases h with ((h | h) | h) | h
 ·exact Or.inl (Or.inl ⟨h.1, ⟨h.1.symm, rfl, (ba_nil h.2.1).symm, h.2.2.1.symm, noB_same h.2.2.2.1⟩, h.2.2.2.2.2⟩)
 ·exact Or.inl (Or.inr ⟨h.1, ⟨h.1.symm, rfl, (ba_nil h.2.1).symm, h.2.2.1.symm, noB_same h.2.2.2.1⟩, h.2.2.2.2.2⟩)
 ·exact Or.inr (Or.inl ⟨h.1, ⟨h.1.symm, noT_same h.2.1, rfl, rfl, noB_same h.2.2.1⟩, h.2.2.2⟩)
 ·exact Or.inr (Or.inr ⟨h.1, ⟨h.1.symm, noT_same h.2.1, (ba_nil h.2.2.1).symm, h.2.2.2.1.symm, ⟨rfl, rfl, rfl, rfl, rfl⟩⟩, h.2.2.2.2⟩)
theorem head1 {x : ByteArray} {K : Nat} {l : List UInt8} (hK : K ≤ 127) (h : Lx x = WM.varL K ++ l) : rN x 0 = some (K, 1) ∧ (Lx x).drop 1 = l ∧ x.size = 1 + l.length := by
 have e := WM.varL_small K hK
 have h0 : (Lx x).drop 0 = WM.varL K ++ l := by rw [List.drop_zero]; exact h
 have r1 := fwdN (by omega) h0
 have r2 := at_more h0
 have hz : x.size = (WM.varL K ++ l).length := by rw [← h]; exact (lx_len x).symm
 rw [e] at r1 r2 hz
 simp only [List.length_append, List.length_singleton] at hz
 exact ⟨r1, r2, hz⟩
theorem fwdRc {x : ByteArray} {r : Rc} (hr : recB r = true) (h : Lx x = rcL r) : ∃ s, rRc x 0 = some (s, x.size) ∧ RcSame r s := by
 unfold rcL noteL at h
 rcases rec_full hr with (⟨e, hs, ht⟩ | ⟨e, hs, ht⟩) | ⟨e, hs, ht⟩ | ⟨e, hs, ht⟩
 ·rw [if_neg (by omega), if_neg (by omega), e] at h
  obtain ⟨r1, h1, hz⟩ := head1 (K := 1) (by omega) h
  have r2 := fwdTx (p := 1) ht (h1.trans (List.append_nil _).symm)
  have hc : recB (rcT 1 r.t.t) = true := by rw [rec_same hs]; exact hr
  refine ⟨_, ?_, hs⟩
  unfold rRc
  rw [r1]
  dsimp only
  rw [if_pos (by omega), r2]
  dsimp only
  rw [hz]
  exact if_pos hc
 ·rw [if_neg (by omega), if_neg (by omega), e] at h
  obtain ⟨r1, h1, hz⟩ := head1 (K := 2) (by omega) h
  have r2 := fwdTx (p := 1) ht (h1.trans (List.append_nil _).symm)
  have hc : recB (rcT 2 r.t.t) = true := by rw [rec_same hs]; exact hr
  refine ⟨_, ?_, hs⟩
  unfold rRc
  rw [r1]
  dsimp only
  rw [if_pos (by omega), r2]
  dsimp only
  rw [hz]
  exact if_pos hc
 ·rw [if_pos e, e] at h
  obtain ⟨r1, h1, hz⟩ := head1 (K := 3) (by omega) h
  have r2 := fwdS (p := 1) (by have := key_small ht; omega) h1
  have h2 := at_more h1
  have r3 := fwdF (h2.trans (List.append_nil _).symm)
  have hc : recB (rcE r.nm r.yes) = true := by rw [rec_same hs]; exact hr
  refine ⟨_, ?_, hs⟩
  unfold rRc
  rw [r1]
  dsimp only
  rw [if_neg (by omega), if_pos rfl, r2]
  dsimp only
  rw [r3]
  dsimp only
  rw [if_pos hc, hz, List.length_append, Nat.add_assoc]
 ·rw [if_neg (by omega), if_pos e, e] at h
  obtain ⟨r1, h1, hz⟩ := head1 (K := 4) (by omega) h
  obtain ⟨s, r2, hb⟩ := fwdBs (p := 1) ht (h1.trans (List.append_nil _).symm)
  have hs2 : RcSame r (rcB s) := hs.trans ⟨rfl, rfl, rfl, rfl, hb⟩
  have hc : recB (rcB s) = true := by rw [rec_same hs2]; exact hr
  refine ⟨_, ?_, hs2⟩
  unfold rRc
  rw [r1]
  dsimp only
  rw [if_neg (by omega), if_neg (by omega), if_pos rfl, r2]
  dsimp only
  rw [hz]
  exact if_pos hc
theorem rRc_rec {x : ByteArray} {p : Int} {s : Rc} {q : Nat} (h : rRc x p = some (s, q)) : ∃ n q1, rN x p = some (n, q1) ∧ recB s = true ∧
  (((n = 1 ∨ n = 2) ∧ ∃ t, rTx x (q1 : Int) = some (t, q) ∧ s = rcT n t) ∨ (n = 3 ∧ ∃ a q2 f, rS x (q1 : Int) = some (a, q2) ∧ rF x (q2 : Int) = some (f, q) ∧ s = rcE a f) ∨ (n = 4 ∧ ∃ b, rBs x (q1 : Int) = some (b, q) ∧ s = rcB b)) := by
 unfold rRc at h
 split at h
 ·cases h
 rename_i a1 e1
 refine ⟨a1.1, a1.2, e1, ?_⟩
 split at h
 ·rename_i hk
  split at h
  ·cases h
  rename_i a2 e2
  split at h
  ·rename_i hr
   cases h
   exact ⟨hr, Or.inl ⟨hk, _, e2, rfl⟩⟩
  ·cases h
 split at h
 ·rename_i hk
  split at h
  ·cases h
  rename_i a2 e2
  split at h
  ·cases h
  rename_i a3 e3
  split at h
  ·rename_i hr
   cases h
   exact ⟨hr, Or.inr (Or.inl ⟨hk, _, _, _, e2, e3, rfl⟩)⟩
  ·cases h
 split at h
 ·rename_i hk
  split at h
  ·cases h
  rename_i a2 e2
  split at h
  ·rename_i hr
   cases h
   exact ⟨hr, Or.inr (Or.inr ⟨hk, _, e2, rfl⟩)⟩
  ·cases h
 ·cases h
theorem backRc {x : ByteArray} {s : Rc} {q : Nat} (h : rRc x 0 = some (s, q)) : Lx x = rcL s ++ (Lx x).drop q := by
 obtain ⟨n, q1, hn, _, hc⟩ := rRc_rec h
 have b1 := backN hn
 rw [show (0 : Int).toNat = 0 from rfl, List.drop_zero] at b1
 refine b1.trans ?_
 unfold rcL noteL
 rcases hc with ⟨hk, t, ht, rfl⟩ | ⟨hk, a, q2, f, ha, hf, rfl⟩ | ⟨hk, b, hb, rfl⟩
 ·have c := backTx ht
  rw [Int.toNat_natCast] at c
  rw [c, if_neg (by show ¬ ((n : Int) = 3); omega), if_neg (by show ¬ ((n : Int) = 4); omega), show (rcT (n : Int) t).k.toNat = n from Int.toNat_natCast n, List.append_assoc]
  rfl
 ·have c := backS ha
  have d := backF hf
  rw [Int.toNat_natCast] at c d
  rw [c, d, if_pos (show (rcE a f).k = 3 from rfl), hk, List.append_assoc, List.append_assoc]
  rfl
 ·have c := backBs hb
  rw [Int.toNat_natCast] at c
  rw [c, if_neg (by show ¬ ((4 : Int) = 3); omega), if_pos (show (rcB b).k = 4 from rfl), hk, List.append_assoc]
  rfl
theorem rcL_same {r c : Rc} (h : RcSame r c) : rcL c = rcL r := by
 have eb : bsL c.b = bsL r.b := by
  unfold bsL
  rw [h.b.cs, h.b.nx, h.b.v, h.b.pl, h.b.ql, ts_same h.b.p, ts_same h.b.q]
 unfold rcL noteL
 rw [h.k, h.nm, h.yes, h.t, eb]
theorem rr_yes {x : ByteArray} {r : Rc} (hr : recB r = true) (h : Lx x = rcL r) : ∃ s, ansR x = (s, true) ∧ RcSame r s := by
 obtain ⟨s, e, hs⟩ := fwdRc hr h
 refine ⟨s, ?_, hs⟩
 simp only [ansR, e]
 rw [if_neg (by omega)]
theorem rr_no {x : ByteArray} {r : Rc} (hs : ∀ s q, rRc x 0 = some (s, q) → RcSame s r) (h : ¬ (recB r = true ∧ Lx x = rcL r)) : ansR x = (zR, false) := by
 unfold ansR
 split
 ·rfl
 ·rename_i a ha
  split
  ·rfl
  ·rename_i hq
   refine absurd ?_ h
   have e := hs a.1 a.2 ha
   have b := backRc (s := a.1) (q := a.2) ha
   rw [List.drop_of_length_le (by rw [lx_len]; omega), List.append_nil, ← rcL_same e] at b
   obtain ⟨_, _, _, k, _⟩ := rRc_rec (s := a.1) (q := a.2) ha
   exact ⟨by rw [rec_same e]; exact k, b⟩
theorem kind1 {x : ByteArray} {n q1 : Nat} (h : rN x 0 = some (n, q1)) (hn : n ≤ 127) : q1 = 1 ∧ (Lx x).head? = some (UInt8.ofNat n) := by
 have b1 := backN h
 rw [show (0 : Int).toNat = 0 from rfl, List.drop_zero] at b1
 have k := (head1 hn b1).1
 rw [h] at k
 injection k with k
 injection k with _ k
 refine ⟨k, ?_⟩
 rw [WM.varL_small n hn] at b1
 generalize (Lx x).drop q1 = z at b1
 rw [b1]
 rfl
theorem ansR_nil {x : ByteArray} (h : x.size = 0) : ansR x = (zR, false) := by
 unfold ansR
 split
 ·rfl
 ·rename_i a ha
  obtain ⟨n, q1, hn, _⟩ := rRc_rec (s := a.1) (q := a.2) ha
  have := rN_bd hn
  omega
def sRc (x : ByteArray) (K : Nat) (r : Rc) : Prop :=
 (K ≠ 3 ∧ K ≠ 4 ∧ ∃ t q b, ansT (rTx x 1) = (t, q, b) ∧ RcSame (rcT K t) r) ∨
 (K = 3 ∧ ∃ (s : ByteArray) (f : Bool) (p1 p2 : Int) (b1 b2 : Bool), Stp (rS x 1) ⟨#[]⟩ s 1 p1 false b1 ∧ Stp (rF x p1) false f p1 p2 b1 b2 ∧ RcSame (rcE s f) r) ∨
 (K = 4 ∧ ∃ b q o, ansB (rBs x 1) = (b, q, o) ∧ RcSame (rcB b) r)
theorem sRc_of {x : ByteArray} {K : Nat} {r : Rc} (hK : (Lx x).head? = some (UInt8.ofNat K)) (hk : K < 256) (h : sRc x K r) (s : Rc) (q : Nat) (hr : rRc x 0 = some (s, q)) : RcSame s r := by
 obtain ⟨n, q1, hn, _, hc⟩ := rRc_rec hr
 have hn5 : n ≤ 127 := by rcases hc with ⟨h, _⟩ | ⟨h, _⟩ | ⟨h, _⟩ <;> omega
 obtain ⟨rfl, hh⟩ := kind1 hn hn5
 have e : n = K := by
  rw [hK] at hh
  injection hh with hh
  have := congrArg UInt8.toNat hh
  rw [UInt8.toNat_ofNat', UInt8.toNat_ofNat'] at this
  omega
 subst e
 rcases hc with ⟨hk, t, ht, rfl⟩ | ⟨hk, a, q2, f, ha, hf, rfl⟩ | ⟨hk, b, hb, rfl⟩
 ·rcases h with ⟨_, _, t', q', b', h1, h2⟩ | ⟨h, _⟩ | ⟨h, _⟩
  ·have ht' : rTx x 1 = some (t, q) := ht
   rw [ht'] at h1
   cases h1
   exact h2
  ·omega
  ·omega
 ·rcases h with ⟨h, _⟩ | ⟨_, s, f', p1, p2, b1, b2, h1, h2, h3⟩ | ⟨h, _⟩
  ·omega
  ·have ha' : rS x 1 = some (a, q2) := ha
   rcases Stp.good h1 with ⟨_, h⟩ | ⟨rfl, q3, h, rfl⟩
   ·rw [ha'] at h; cases h
   rw [ha'] at h
   cases h
   rcases Stp.good h2 with ⟨_, h⟩ | ⟨rfl, q4, h, rfl⟩
   ·rw [hf] at h; cases h
   rw [hf] at h
   cases h
   exact h3
  ·omega
 ·rcases h with ⟨_, h, _⟩ | ⟨h, _⟩ | ⟨_, b', q', o, h1, h2⟩
  ·omega
  ·omega
  ·have hb' : rBs x 1 = some (b, q) := hb
   rw [hb'] at h1
   cases h1
   exact h2
theorem seal_inj {a b : ByteArray} (h : sealB a = sealB b) : a = b := by
 have h1 := congrArg (fun z : ByteArray => z.data.toList) h
 unfold sealB at h1
 simp only [ByteArray.data_append, Array.toList_append] at h1
 have h2 := congrArg List.length h1
 simp only [List.length_append] at h2
 have f : ∀ n : Nat, (SM.four n).length = 4 := fun n => rfl
 rw [f, f] at h2
 have h3 := (List.append_inj h1 (by omega)).1
 exact ByteArray.ext (Array.toList_inj.1 h3)

end Go.Proofs.YtpnnncfbodfnhaaGreatDoor

namespace Go.Proofs.YtpnnncfbodfnhaaGreatDoor
open Go.RowKit
open KM
open VM
attribute [local go_sem ↓] Go.wp_at_zero Go.wp_at_succ

theorem ansT_fit {x : ByteArray} {p : Int} {t : Tx} {q : Nat} {bo : Bool} (h : ansT (rTx x p) = (t, q, bo)) : TFit t := by
 cases hr : rTx x p with
 | none => rw [hr] at h; cases h; exact zT_fit
 | some a => rw [hr] at h; cases h; exact small_fit (right_small (rTx_right _ _ _ hr))

set_option maxRecDepth 100000 in
set_option maxHeartbeats 2000000 in
theorem srr_no (t : ByteArray) (w : World) (CU : Hid (∀ W, Below w.heap.size w W → Calls Tryz.prog 30 #[.string t] W fun e w' => e = .returned (.tuple #[.string ⟨#[]⟩, .bool false]) ∧ Below W.heap.size W w')) :
  Calls Tryz.prog 10 #[.string t] w fun e w' => e = .returned (.tuple #[.agg #[.int .i64 0, .int .i64 0, .int .i64 0, .int .i64 0, .int .i64 0, .slice none 0 0, .slice none 0 0, .bool false, .string ⟨#[]⟩, .string ⟨#[]⟩, .bool false, .slice none 0 0, .slice none 0 0, .slice none 0 0, .int .i64 0, .int .i64 0], .bool false]) ∧ Below w.heap.size w w' := by
 have B0 : Hid (Bx (w.alloc (.cells #[.int .i64 0, .int .i64 0, .int .i64 0, .int .i64 0, .int .i64 0, .slice none 0 0, .slice none 0 0, .bool false, .string ⟨#[]⟩, .string ⟨#[]⟩, .bool false, .slice none 0 0, .slice none 0 0, .slice none 0 0, .int .i64 0, .int .i64 0] 44)) w.heap.size [.int .i64 0, .int .i64 0, .int .i64 0, .int .i64 0, .int .i64 0, .slice none 0 0, .slice none 0 0, .bool false, .string ⟨#[]⟩, .string ⟨#[]⟩, .bool false, .slice none 0 0, .slice none 0 0, .slice none 0 0, .int .i64 0, .int .i64 0]) := Bx.new w [.int .i64 0, .int .i64 0, .int .i64 0, .int .i64 0, .int .i64 0, .slice none 0 0, .slice none 0 0, .bool false, .string ⟨#[]⟩, .string ⟨#[]⟩, .bool false, .slice none 0 0, .slice none 0 0, .slice none 0 0, .int .i64 0, .int .i64 0] 44
 have HB0 : Hid (Below w.heap.size w (w.alloc (.cells #[.int .i64 0, .int .i64 0, .int .i64 0, .int .i64 0, .int .i64 0, .slice none 0 0, .slice none 0 0, .bool false, .string ⟨#[]⟩, .string ⟨#[]⟩, .bool false, .slice none 0 0, .slice none 0 0, .slice none 0 0, .int .i64 0, .int .i64 0] 44))) := (belowRefl w).alloc (Nat.le_refl _) _
 go_enter Tryz.func10, Tryz.ntmps10
 go_wp2_with fail
 generalize (w.alloc (.cells #[.int .i64 0, .int .i64 0, .int .i64 0, .int .i64 0, .int .i64 0, .slice none 0 0, .slice none 0 0, .bool false, .string ⟨#[]⟩, .string ⟨#[]⟩, .bool false, .slice none 0 0, .slice none 0 0, .slice none 0 0, .int .i64 0, .int .i64 0] 44)) = W0 at B0 HB0 ⊢
 refine (CU.out _ HB0.out).mono ?_
 rintro e w1 ⟨rfl, hb⟩
 have B1 := hide (B0.out.below hb)
 have HB1 : Hid (Below w.heap.size w w1) := HB0.out.trans (hb.mono HB0.out.size)
 clear hb B0 HB0
 go_upto_region 3 with fail
 refine wp_region_lit ?_
 refine wpList_plain rfl fun K hK => ?_
 go_simp
 refine hK _ _ ?_
 clear hK K
 refine wpStore16K (.int .i64 0) (.int .i64 0) (.int .i64 0) (.int .i64 0) (.int .i64 0) (.slice none 0 0) (.slice none 0 0) (.bool false) (.string ⟨#[]⟩) (.string ⟨#[]⟩) (.bool false) (.slice none 0 0) (.slice none 0 0) (.slice none 0 0) (.int .i64 0) (.int .i64 0) rfl 44 _ _ rfl (by kernel_rfl) (by kernel_rfl) (by kernel_rfl) B1.out (List.forall_mem_cons.2 ⟨rfl, List.forall_mem_cons.2 ⟨rfl, List.forall_mem_cons.2 ⟨rfl, List.forall_mem_cons.2 ⟨rfl, List.forall_mem_cons.2 ⟨rfl, List.forall_mem_cons.2 ⟨rfl, List.forall_mem_cons.2 ⟨rfl, List.forall_mem_cons.2 ⟨rfl, List.forall_mem_cons.2 ⟨rfl, List.forall_mem_cons.2 ⟨rfl, List.forall_mem_cons.2 ⟨rfl, List.forall_mem_cons.2 ⟨rfl, List.forall_mem_cons.2 ⟨rfl, List.forall_mem_cons.2 ⟨rfl, List.forall_mem_cons.2 ⟨rfl, List.forall_mem_cons.2 ⟨rfl, fun _ h => by cases h⟩⟩⟩⟩⟩⟩⟩⟩⟩⟩⟩⟩⟩⟩⟩⟩) (fun WF bf zf => ?_)
 have BF := hide bf
 have HBF : Hid (Below w.heap.size w WF) := HB1.out.trans (zf.below (Nat.le_refl _) HB1.out.size)
 clear B1 HB1 bf zf
 go_wp2
 have q0_ := BF.out.c0
 have q1_ := BF.out.c1
 have q2_ := BF.out.c2
 have q3_ := BF.out.c3
 have q4_ := BF.out.c4
 have q5_ := BF.out.c5
 have q6_ := BF.out.c6
 have q7_ := BF.out.c7
 have q8_ := BF.out.c8
 have q9_ := BF.out.c9
 have q10_ := BF.out.c10
 have q11_ := BF.out.c11
 have q12_ := BF.out.c12
 have q13_ := BF.out.c13
 have q14_ := BF.out.c14
 have q15_ := BF.out.c15
 refine bodyPost_ret (v := .tuple #[.agg #[.int .i64 0, .int .i64 0, .int .i64 0, .int .i64 0, .int .i64 0, .slice none 0 0, .slice none 0 0, .bool false, .string ⟨#[]⟩, .string ⟨#[]⟩, .bool false, .slice none 0 0, .slice none 0 0, .slice none 0 0, .int .i64 0, .int .i64 0], .bool false]) (by simp [results, Tryz.results10, go_sem, q0_, q1_, q2_, q3_, q4_, q5_, q6_, q7_, q8_, q9_, q10_, q11_, q12_, q13_, q14_, q15_]) rfl ⟨rfl, HBF.out⟩

set_option maxRecDepth 100000 in
set_option maxHeartbeats 2000000 in
theorem srr_nil (t : ByteArray) (w : World) (CU : Hid (∀ W, Below w.heap.size w W → Calls Tryz.prog 30 #[.string t] W fun e w' => e = .returned (.tuple #[.string ⟨#[]⟩, .bool true]) ∧ Below W.heap.size W w')) :
  Calls Tryz.prog 10 #[.string t] w fun e w' => e = .returned (.tuple #[.agg #[.int .i64 0, .int .i64 0, .int .i64 0, .int .i64 0, .int .i64 0, .slice none 0 0, .slice none 0 0, .bool false, .string ⟨#[]⟩, .string ⟨#[]⟩, .bool false, .slice none 0 0, .slice none 0 0, .slice none 0 0, .int .i64 0, .int .i64 0], .bool false]) ∧ Below w.heap.size w w' := by
 have hnil : ((⟨#[]⟩ : ByteArray).toList == (⟨#[]⟩ : ByteArray).toList) = true := by simp
 have B0 : Hid (Bx (w.alloc (.cells #[.int .i64 0, .int .i64 0, .int .i64 0, .int .i64 0, .int .i64 0, .slice none 0 0, .slice none 0 0, .bool false, .string ⟨#[]⟩, .string ⟨#[]⟩, .bool false, .slice none 0 0, .slice none 0 0, .slice none 0 0, .int .i64 0, .int .i64 0] 44)) w.heap.size [.int .i64 0, .int .i64 0, .int .i64 0, .int .i64 0, .int .i64 0, .slice none 0 0, .slice none 0 0, .bool false, .string ⟨#[]⟩, .string ⟨#[]⟩, .bool false, .slice none 0 0, .slice none 0 0, .slice none 0 0, .int .i64 0, .int .i64 0]) := Bx.new w [.int .i64 0, .int .i64 0, .int .i64 0, .int .i64 0, .int .i64 0, .slice none 0 0, .slice none 0 0, .bool false, .string ⟨#[]⟩, .string ⟨#[]⟩, .bool false, .slice none 0 0, .slice none 0 0, .slice none 0 0, .int .i64 0, .int .i64 0] 44
 have HB0 : Hid (Below w.heap.size w (w.alloc (.cells #[.int .i64 0, .int .i64 0, .int .i64 0, .int .i64 0, .int .i64 0, .slice none 0 0, .slice none 0 0, .bool false, .string ⟨#[]⟩, .string ⟨#[]⟩, .bool false, .slice none 0 0, .slice none 0 0, .slice none 0 0, .int .i64 0, .int .i64 0] 44))) := (belowRefl w).alloc (Nat.le_refl _) _
 go_enter Tryz.func10, Tryz.ntmps10
 go_wp2_with fail
 generalize (w.alloc (.cells #[.int .i64 0, .int .i64 0, .int .i64 0, .int .i64 0, .int .i64 0, .slice none 0 0, .slice none 0 0, .bool false, .string ⟨#[]⟩, .string ⟨#[]⟩, .bool false, .slice none 0 0, .slice none 0 0, .slice none 0 0, .int .i64 0, .int .i64 0] 44)) = W0 at B0 HB0 ⊢
 refine (CU.out _ HB0.out).mono ?_
 rintro e w1 ⟨rfl, hb⟩
 have B1 := hide (B0.out.below hb)
 have HB1 : Hid (Below w.heap.size w w1) := HB0.out.trans (hb.mono HB0.out.size)
 clear hb B0 HB0
 go_upto_region 3 with fail
 refine wp_region_lit ?_
 refine wpList_plain rfl fun K hK => ?_
 go_simp
 refine hK _ _ ?_
 clear hK K
 refine wpStore16K (.int .i64 0) (.int .i64 0) (.int .i64 0) (.int .i64 0) (.int .i64 0) (.slice none 0 0) (.slice none 0 0) (.bool false) (.string ⟨#[]⟩) (.string ⟨#[]⟩) (.bool false) (.slice none 0 0) (.slice none 0 0) (.slice none 0 0) (.int .i64 0) (.int .i64 0) rfl 44 _ _ rfl (by kernel_rfl) (by kernel_rfl) (by kernel_rfl) B1.out (List.forall_mem_cons.2 ⟨rfl, List.forall_mem_cons.2 ⟨rfl, List.forall_mem_cons.2 ⟨rfl, List.forall_mem_cons.2 ⟨rfl, List.forall_mem_cons.2 ⟨rfl, List.forall_mem_cons.2 ⟨rfl, List.forall_mem_cons.2 ⟨rfl, List.forall_mem_cons.2 ⟨rfl, List.forall_mem_cons.2 ⟨rfl, List.forall_mem_cons.2 ⟨rfl, List.forall_mem_cons.2 ⟨rfl, List.forall_mem_cons.2 ⟨rfl, List.forall_mem_cons.2 ⟨rfl, List.forall_mem_cons.2 ⟨rfl, List.forall_mem_cons.2 ⟨rfl, List.forall_mem_cons.2 ⟨rfl, fun _ h => by cases h⟩⟩⟩⟩⟩⟩⟩⟩⟩⟩⟩⟩⟩⟩⟩⟩) (fun WF bf zf => ?_)
 have BF := hide bf
 have HBF : Hid (Below w.heap.size w WF) := HB1.out.trans (zf.below (Nat.le_refl _) HB1.out.size)
 clear B1 HB1 bf zf
 go_wp2
 have q0_ := BF.out.c0
 have q1_ := BF.out.c1
 have q2_ := BF.out.c2
 have q3_ := BF.out.c3
 have q4_ := BF.out.c4
 have q5_ := BF.out.c5
 have q6_ := BF.out.c6
 have q7_ := BF.out.c7
 have q8_ := BF.out.c8
 have q9_ := BF.out.c9
 have q10_ := BF.out.c10
 have q11_ := BF.out.c11
 have q12_ := BF.out.c12
 have q13_ := BF.out.c13
 have q14_ := BF.out.c14
 have q15_ := BF.out.c15
 refine bodyPost_ret (v := .tuple #[.agg #[.int .i64 0, .int .i64 0, .int .i64 0, .int .i64 0, .int .i64 0, .slice none 0 0, .slice none 0 0, .bool false, .string ⟨#[]⟩, .string ⟨#[]⟩, .bool false, .slice none 0 0, .slice none 0 0, .slice none 0 0, .int .i64 0, .int .i64 0], .bool false]) (by simp [results, Tryz.results10, go_sem, q0_, q1_, q2_, q3_, q4_, q5_, q6_, q7_, q8_, q9_, q10_, q11_, q12_, q13_, q14_, q15_]) rfl ⟨rfl, HBF.out⟩

end Go.Proofs.YtpnnncfbodfnhaaGreatDoor

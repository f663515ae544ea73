/- What Sealed and Unsealed return, the program's own and the specification's. -/
import Derived.Test.YtpnnncfbodfnhaaGreatDoorPr33
import Derived.Test.YtpnnncfbodfnhaaGreatDoorPr02
import Derived.Deep.QuietTactic
import Derived.BigQuiet
import Derived.Deep.RegionHeld3
import Derived.Deep.DrawnRows
import Derived.Test.YtpnnncfbodfnhaaGreatDoorPr16
import Derived.Test.YtpnnncfbodfnhaaGreatDoorPr25
import Derived.Test.YtpnnncfbodfnhaaGreatDoorPr22
namespace Go.Proofs.YtpnnncfbodfnhaaGreatDoor
open Go.RowKit
attribute [local go_sem ↓] Go.wp_at_zero Go.wp_at_succ

def sealB (s : ByteArray) : ByteArray := s ++ ⟨(SM.four (SM.sum 4294967295 s.data.toList)).toArray⟩

set_option maxHeartbeats 400000 in
theorem sseal_yes (s : ByteArray) (h : s.size ≤ 20000) (w : World) :
  Calls Tryz.prog 17 #[.string s] w fun e w' => e = .returned (.tuple #[.string (sealB s), .bool true]) ∧ Below w.heap.size w w' := by
 have c := ssum16 s (by omega) w
 have hz := SM.sum_lt 4294967295 s.data.toList (by omega)
 unfold sealB
 generalize SM.sum 4294967295 s.data.toList = z at *
 have c2 := four26 z hz w
 have h4 : ((⟨(SM.four z).toArray⟩ : ByteArray)).size = 4 := rfl
 generalize (⟨(SM.four z).toArray⟩ : ByteArray) = f at *
 go_enter Tryz.func17, Tryz.ntmps17
 go_wp2_with fail
 refine c.mono ?_
 rintro e w' ⟨rfl, rfl⟩
 clear c
 go_wp2_with fail
 refine c2.mono ?_
 rintro e w2 ⟨rfl, hb⟩
 clear c2
 go_wp2
 go_ret2
 exact ⟨rfl, hb⟩

set_option maxHeartbeats 400000 in
theorem clone24 (s : ByteArray) (hs : s.size ≤ 281474976710656) (w : World) :
  Calls Tryz.prog 74 #[.string s] w fun e w' => e = .returned (.string s) ∧ Below w.heap.size w w' := by
 go_enter Tryz.func74, Tryz.ntmps74
 go_wp2_with (go_at_call 106; refine (Tryz.stringslite_Clone s _ hs).mono ?_; rintro e w' ⟨rfl, hb⟩)
 go_ret
 exact ⟨rfl, hb⟩

set_option maxHeartbeats 400000 in
theorem iuns_no (s : ByteArray) (h : s.size < 4 ∨ 20004 < s.size) (hs : s.size ≤ 1048576) (w : World) :
  Calls Tryz.prog 35 #[.string s] w fun e w' => e = .returned (.tuple #[.string ⟨#[]⟩, .bool false]) ∧ w = w' := by
 rcases h with h | h
 ·have h1 : (s.size : Int) - 4 < 0 := by omega
  go_enter Tryz.func35, Tryz.ntmps35
  go_wp2
  go_ret2
  exact ⟨rfl, rfl⟩
 ·have h1 : ¬ (s.size : Int) - 4 < 0 := by omega
  have h2 : (20000 : Int) < (s.size : Int) - 4 := by omega
  go_enter Tryz.func35, Tryz.ntmps35
  go_wp2
  go_ret2
  exact ⟨rfl, rfl⟩

set_option maxHeartbeats 1000000 in
theorem iuns_yes (s : ByteArray) (n : Nat) (hn : s.size = n + 4) (h : n ≤ 20000) (hq : ((⟨(SM.four (SM.sum 4294967295 (s.extract 0 n).data.toList)).toArray⟩ : ByteArray).toList == (s.extract n (n + 4)).toList) = true) (w : World) (ht : Tab w) :
  Calls Tryz.prog 35 #[.string s] w fun e w' => e = .returned (.tuple #[.string (s.extract 0 n), .bool true]) ∧ Below w.heap.size w w' := by
 have h1 : decide ((n : Int) < 0) = false := by simp
 have h2 : decide ((20000 : Int) < (n : Int)) = false := by simp; omega
 have e1 : (s.size : Int) - 4 = (n : Int) := by omega
 have hp : (s.extract 0 n).size = n := by rw [ByteArray.size_extract]; omega
 have c : ∀ w : World, Tab w → Calls Tryz.prog 65 #[.string (s.extract 0 n)] w fun e w' => e = .returned (.int .u32 ((SM.sum 4294967295 (s.extract 0 n).data.toList : Nat) : Int)) ∧ w = w' := fun w ht => isum14 (s.extract 0 n) (by omega) w ht
 have hz := SM.sum_lt 4294967295 (s.extract 0 n).data.toList (by omega)
 have T : Hid (Tab w) := ht
 clear ht
 generalize SM.sum 4294967295 (s.extract 0 n).data.toList = z at *
 have c2 := text23 z hz
 have h4 : ((⟨(SM.four z).toArray⟩ : ByteArray)).size = 4 := rfl
 generalize (⟨(SM.four z).toArray⟩ : ByteArray) = f at *
 have C : Hid (∀ w : World, Tab w → Calls Tryz.prog 65 #[.string (s.extract 0 n)] w fun e w' => e = .returned (.int .u32 (z : Int)) ∧ w = w') := c
 have C2 : Hid (∀ (w : World), Calls Tryz.prog 66 #[.int .u32 (z : Int)] w fun e w' => e = .returned (.string f) ∧ Below w.heap.size w w') := c2
 clear c c2
 have hn0 : (0 : Int) ≤ (n : Int) := by omega
 have hn1 : (n : Int) ≤ (s.size : Int) := by omega
 have hn2 : (n : Int) ≤ (n : Int) + 4 := by omega
 go_enter Tryz.func35, Tryz.ntmps35
 go_wp2_with fail
 go_region_held3 (fun _ => True) (trivial) ((first | (go_at_call 65; refine (C.out _ (by exact T.out)).mono ?_; rintro e w' ⟨rfl, rfl⟩) | (go_at_call 66; refine (C2.out _).mono ?_; rintro e w' ⟨rfl, hb⟩)))
 go_wp2_with fail
 refine (clone24 _ (by omega) _).mono ?_
 rintro e w2 ⟨rfl, hb2⟩
 go_wp2
 go_ret2
 exact ⟨rfl, (((Below.refl _ _).drew).trans hb).trans (hb2.mono hb.size)⟩

set_option maxHeartbeats 1000000 in
theorem iuns_bad (s : ByteArray) (n : Nat) (hn : s.size = n + 4) (h : n ≤ 20000) (hq : ((⟨(SM.four (SM.sum 4294967295 (s.extract 0 n).data.toList)).toArray⟩ : ByteArray).toList == (s.extract n (n + 4)).toList) = false) (w : World) (ht : Tab w) :
  Calls Tryz.prog 35 #[.string s] w fun e w' => e = .returned (.tuple #[.string ⟨#[]⟩, .bool false]) ∧ Below w.heap.size w w' := by
 have h1 : decide ((n : Int) < 0) = false := by simp
 have h2 : decide ((20000 : Int) < (n : Int)) = false := by simp; omega
 have e1 : (s.size : Int) - 4 = (n : Int) := by omega
 have hp : (s.extract 0 n).size = n := by rw [ByteArray.size_extract]; omega
 have c : ∀ w : World, Tab w → Calls Tryz.prog 65 #[.string (s.extract 0 n)] w fun e w' => e = .returned (.int .u32 ((SM.sum 4294967295 (s.extract 0 n).data.toList : Nat) : Int)) ∧ w = w' := fun w ht => isum14 (s.extract 0 n) (by omega) w ht
 have hz := SM.sum_lt 4294967295 (s.extract 0 n).data.toList (by omega)
 have T : Hid (Tab w) := ht
 clear ht
 generalize SM.sum 4294967295 (s.extract 0 n).data.toList = z at *
 have c2 := text23 z hz
 have h4 : ((⟨(SM.four z).toArray⟩ : ByteArray)).size = 4 := rfl
 generalize (⟨(SM.four z).toArray⟩ : ByteArray) = f at *
 have C : Hid (∀ w : World, Tab w → Calls Tryz.prog 65 #[.string (s.extract 0 n)] w fun e w' => e = .returned (.int .u32 (z : Int)) ∧ w = w') := c
 have C2 : Hid (∀ (w : World), Calls Tryz.prog 66 #[.int .u32 (z : Int)] w fun e w' => e = .returned (.string f) ∧ Below w.heap.size w w') := c2
 clear c c2
 have hn0 : (0 : Int) ≤ (n : Int) := by omega
 have hn1 : (n : Int) ≤ (s.size : Int) := by omega
 have hn2 : (n : Int) ≤ (n : Int) + 4 := by omega
 go_enter Tryz.func35, Tryz.ntmps35
 go_wp2_with fail
 go_region_held3 (fun _ => True) (trivial) ((first | (go_at_call 65; refine (C.out _ (by exact T.out)).mono ?_; rintro e w' ⟨rfl, rfl⟩) | (go_at_call 66; refine (C2.out _).mono ?_; rintro e w' ⟨rfl, hb⟩)))
 go_wp2
 go_ret2
 exact ⟨rfl, ((Below.refl _ _).drew).trans hb⟩

set_option maxHeartbeats 400000 in
theorem suns_no (s : ByteArray) (h : s.size < 4 ∨ 20004 < s.size) (hs : s.size ≤ 1048576) (w : World) :
  Calls Tryz.prog 30 #[.string s] w fun e w' => e = .returned (.tuple #[.string ⟨#[]⟩, .bool false]) ∧ Below w.heap.size w w' := by
 rcases h with h | h
 ·have h1 : (s.size : Int) - 4 < 0 := by omega
  go_enter Tryz.func30, Tryz.ntmps30
  go_wp2_with fail
  go_quiet (fail)
  go_wp2
  go_ret2
  exact ⟨rfl, ⟨rfl, rfl, rfl, Nat.le_refl _, fun _ _ => rfl⟩⟩
 ·have h1 : decide ((s.size : Int) - 4 < 0) = false := by simp; omega
  have h2 : (20000 : Int) < (s.size : Int) - 4 := by omega
  go_enter Tryz.func30, Tryz.ntmps30
  go_wp2_with fail
  go_quiet (fail)
  go_wp2
  go_ret2
  exact ⟨rfl, ⟨rfl, rfl, rfl, Nat.le_refl _, fun _ _ => rfl⟩⟩

set_option maxHeartbeats 1000000 in
theorem suns_yes (s : ByteArray) (n : Nat) (hn : s.size = n + 4) (h : n ≤ 20000) (hq : ((s.extract n (n + 4)).toList == (⟨(SM.four (SM.sum 4294967295 (s.extract 0 n).data.toList)).toArray⟩ : ByteArray).toList) = true) (w : World)  :
  Calls Tryz.prog 30 #[.string s] w fun e w' => e = .returned (.tuple #[.string (s.extract 0 n), .bool true]) ∧ Below w.heap.size w w' := by
 have h1 : decide ((n : Int) < 0) = false := by simp
 have h2 : decide ((20000 : Int) < (n : Int)) = false := by simp; omega
 have e1 : (s.size : Int) - 4 = (n : Int) := by omega
 have hp : (s.extract 0 n).size = n := by rw [ByteArray.size_extract]; omega
 have c : ∀ w : World, Calls Tryz.prog 54 #[.string (s.extract 0 n)] w fun e w' => e = .returned (.int .u32 ((SM.sum 4294967295 (s.extract 0 n).data.toList : Nat) : Int)) ∧ w = w' := fun w => ssum16 (s.extract 0 n) (by omega) w
 have hz := SM.sum_lt 4294967295 (s.extract 0 n).data.toList (by omega)
 generalize SM.sum 4294967295 (s.extract 0 n).data.toList = z at *
 have c2 := four26 z hz
 have h4 : ((⟨(SM.four z).toArray⟩ : ByteArray)).size = 4 := rfl
 generalize (⟨(SM.four z).toArray⟩ : ByteArray) = f at *
 have C : Hid (∀ w : World, Calls Tryz.prog 54 #[.string (s.extract 0 n)] w fun e w' => e = .returned (.int .u32 (z : Int)) ∧ w = w') := c
 have C2 : Hid (∀ (w : World), Calls Tryz.prog 53 #[.int .u32 (z : Int)] w fun e w' => e = .returned (.string f) ∧ Below w.heap.size w w') := c2
 clear c c2
 have hn0 : (0 : Int) ≤ (n : Int) := by omega
 have hn1 : (n : Int) ≤ (s.size : Int) := by omega
 have hn2 : (n : Int) ≤ (n : Int) + 4 := by omega
 go_enter Tryz.func30, Tryz.ntmps30
 go_wp2_with fail
 go_region_held3 (fun _ => True) (trivial) ((first | (go_at_call 54; refine (C.out _).mono ?_; rintro e w' ⟨rfl, rfl⟩) | (go_at_call 53; refine (C2.out _).mono ?_; rintro e w' ⟨rfl, hb⟩)))
 go_wp2
 go_ret2
 exact ⟨rfl, ((Below.refl _ _).drew).trans hb⟩

set_option maxHeartbeats 1000000 in
theorem suns_bad (s : ByteArray) (n : Nat) (hn : s.size = n + 4) (h : n ≤ 20000) (hq : ((s.extract n (n + 4)).toList == (⟨(SM.four (SM.sum 4294967295 (s.extract 0 n).data.toList)).toArray⟩ : ByteArray).toList) = false) (w : World)  :
  Calls Tryz.prog 30 #[.string s] w fun e w' => e = .returned (.tuple #[.string ⟨#[]⟩, .bool false]) ∧ Below w.heap.size w w' := by
 have h1 : decide ((n : Int) < 0) = false := by simp
 have h2 : decide ((20000 : Int) < (n : Int)) = false := by simp; omega
 have e1 : (s.size : Int) - 4 = (n : Int) := by omega
 have hp : (s.extract 0 n).size = n := by rw [ByteArray.size_extract]; omega
 have c : ∀ w : World, Calls Tryz.prog 54 #[.string (s.extract 0 n)] w fun e w' => e = .returned (.int .u32 ((SM.sum 4294967295 (s.extract 0 n).data.toList : Nat) : Int)) ∧ w = w' := fun w => ssum16 (s.extract 0 n) (by omega) w
 have hz := SM.sum_lt 4294967295 (s.extract 0 n).data.toList (by omega)
 generalize SM.sum 4294967295 (s.extract 0 n).data.toList = z at *
 have c2 := four26 z hz
 have h4 : ((⟨(SM.four z).toArray⟩ : ByteArray)).size = 4 := rfl
 generalize (⟨(SM.four z).toArray⟩ : ByteArray) = f at *
 have C : Hid (∀ w : World, Calls Tryz.prog 54 #[.string (s.extract 0 n)] w fun e w' => e = .returned (.int .u32 (z : Int)) ∧ w = w') := c
 have C2 : Hid (∀ (w : World), Calls Tryz.prog 53 #[.int .u32 (z : Int)] w fun e w' => e = .returned (.string f) ∧ Below w.heap.size w w') := c2
 clear c c2
 have hn0 : (0 : Int) ≤ (n : Int) := by omega
 have hn1 : (n : Int) ≤ (s.size : Int) := by omega
 have hn2 : (n : Int) ≤ (n : Int) + 4 := by omega
 go_enter Tryz.func30, Tryz.ntmps30
 go_wp2_with fail
 go_region_held3 (fun _ => True) (trivial) ((first | (go_at_call 54; refine (C.out _).mono ?_; rintro e w' ⟨rfl, rfl⟩) | (go_at_call 53; refine (C2.out _).mono ?_; rintro e w' ⟨rfl, hb⟩)))
 go_wp2
 go_ret2
 exact ⟨rfl, ((Below.refl _ _).drew).trans hb⟩

end Go.Proofs.YtpnnncfbodfnhaaGreatDoor

namespace Go.Proofs.YtpnnncfbodfnhaaGreatDoor
open Go.RowKit
open KM
open VM
attribute [local go_sem ↓] Go.wp_at_zero Go.wp_at_succ

def noteL (r : Rc) : List UInt8 := if r.k = 3 then shL r.nm ++ bitL r.yes else if r.k = 4 then bsL r.b else txL r.t.t
def rcL (r : Rc) : List UInt8 := WM.varL r.k.toNat ++ noteL r
def rctV (r : Rc) : Value := if recB r = true then .tuple #[.string (sealB ⟨(rcL r).toArray⟩), .bool true] else .tuple #[.string ⟨#[]⟩, .bool false]
theorem rec_cases {r : Rc} (h : recB r = true) : (r.k = 1 ∧ txnB r.t.t = true ∧ r.t.t.st = 3) ∨ (r.k = 2 ∧ txnB r.t.t = true ∧ r.t.t.st = 2) ∨ (r.k = 3 ∧ keyB r.nm = true) ∨ (r.k = 4 ∧ sbB r.b = true) := by
 unfold recB at h
 simp only [Bool.or_eq_true, Bool.and_eq_true, decide_eq_true_eq] at h
 rcases h with ((h | h) | h) | h
 ·exact Or.inl ⟨h.1, h.2.2.2.2.2, h.2.2.2.2.1⟩
 ·exact Or.inr (Or.inl ⟨h.1, h.2.2.2.2.2, h.2.2.2.2.1⟩)
 ·exact Or.inr (Or.inr (Or.inl ⟨h.1, h.2.2.2⟩))
 ·exact Or.inr (Or.inr (Or.inr ⟨h.1, h.2.2.2.2⟩))
theorem bs_len {b : Bb} (h : BSm b) : (bsL b).length ≤ 15000 := by
 have a1 := var_len b.cs.toNat (by have := h.c1; omega)
 have a2 := var_len b.nx.toNat (by have := h.n1; omega)
 have a3 := var_len b.vs.length (by have := h.vl; omega)
 have a4 := var_len b.ps.length (by have := h.pl; omega)
 have a5 := var_len b.qs.length (by have := h.ql; omega)
 have b1 := vr_len b.vs h.vs
 have b2 := ts_len b.ps (fun x hx => right_small (h.ps x hx))
 have b3 := ts_len b.qs (fun x hx => right_small (h.qs x hx))
 have c1 := h.vl
 have c2 := h.pl
 have c3 := h.ql
 unfold bsL
 simp only [List.length_append]; omega
theorem rc_len {r : Rc} (h : recB r = true) : (rcL r).length ≤ 15005 := by
 unfold rcL noteL
 rw [List.length_append]
 rcases rec_cases h with ⟨e, ht, _⟩ | ⟨e, ht, _⟩ | ⟨e, ht⟩ | ⟨e, ht⟩
 ·rw [if_neg (by omega), if_neg (by omega)]
  have := var_len r.k.toNat (by omega)
  have := tx_len (right_small ht)
  omega
 ·rw [if_neg (by omega), if_neg (by omega)]
  have := var_len r.k.toNat (by omega)
  have := tx_len (right_small ht)
  omega
 ·rw [if_pos e, List.length_append]
  have := var_len r.k.toNat (by omega)
  have := sh_small (key_small ht) (by omega)
  have := bit_len r.yes
  omega
 ·rw [if_neg (by omega), if_pos e]
  have := var_len r.k.toNat (by omega)
  have := bs_len (base_small ht)
  omega
end Go.Proofs.YtpnnncfbodfnhaaGreatDoor

namespace Go.Proofs.YtpnnncfbodfnhaaGreatDoor
open Go.RowKit
open KM
open VM
attribute [local go_sem ↓] Go.wp_at_zero Go.wp_at_succ

namespace WM
theorem rvGo_var : ∀ (f m N k : Nat) (t : List UInt8), (varL m).length ≤ f → N + m * 128 ^ k ≤ 1000000000 → (0 < m ∨ k = 0) →
  rvGo f N k (varL m ++ t) = some (N + m * 128 ^ k, k + (varL m).length) := by
 intro f
 induction f with
 | zero => intro m N k t hf; have := varL_pos m; omega
 | succ f ih =>
  intro m N k t hf hb h0
  by_cases hm : 127 < m
  ·rw [varL_big m hm] at hf ⊢
   simp only [List.length_cons] at hf
   have e1 : (UInt8.ofNat (m % 128 + 128)).toNat = m % 128 + 128 := by simp only [UInt8.toNat_ofNat']; omega
   have e2 : (m % 128 + 128) % 128 = m % 128 := by omega
   have e3 : N + m % 128 * 128 ^ k + m / 128 * 128 ^ (k + 1) = N + m * 128 ^ k := by
    have : m = m % 128 + 128 * (m / 128) := by omega
    conv => rhs; rw [this]
    rw [Nat.pow_succ, Nat.add_mul, Nat.mul_comm (128 ^ k) 128, ← Nat.mul_assoc, Nat.mul_comm (m / 128) 128]
    omega
   simp only [List.cons_append, rvGo]
   rw [e1, if_neg (by omega), e2, ih (m / 128) (N + m % 128 * 128 ^ k) (k + 1) t (by omega) (by rw [e3]; exact hb) (Or.inl (by omega)), e3]
   simp only [List.length_cons]
   rw [show k + 1 + (varL (m / 128)).length = k + ((varL (m / 128)).length + 1) by omega]
  ·rw [varL_small m (by omega)] at hf ⊢
   have e1 : (UInt8.ofNat m).toNat = m := by simp only [UInt8.toNat_ofNat']; omega
   have e2 : m % 128 = m := by omega
   simp only [List.cons_append, rvGo, List.nil_append]
   rw [e1, if_pos (by omega), e2, if_neg (by omega)]
   rfl

theorem rv_var (n : Nat) (hn : n ≤ 1000000000) (t : List UInt8) : rv (varL n ++ t) = some (n, (varL n).length) := by
 have h := rvGo_var 5 n 0 0 t (varL_len5 n (by omega)) (by simpa using hn) (Or.inr rfl)
 unfold rv
 simpa using h
theorem rvGo_back : ∀ (f : Nat) (pre t : List UInt8) (r : Nat × Nat), (∀ c ∈ pre, 128 ≤ c.toNat) → rvGo f (val pre) pre.length t = some r → varL r.1 = pre ++ t.take (r.2 - pre.length) := by
 intro f
 induction f with
 | zero => intro pre t r _ h; simp [rvGo] at h
 | succ f ih =>
  intro pre t r hp h
  cases t with
  | nil => simp [rvGo] at h
  | cons b t =>
   simp only [rvGo] at h
   split at h
   ·rename_i hb
    split at h
    ·cases h
    ·rename_i hc
     cases h
     have hv := val_snoc pre b
     rw [← hv, (var_val pre b hp hb).2 (fun hh => hc (Or.inr hh))]
     rw [show pre.length + 1 - pre.length = 1 by omega]
     rfl
   ·rename_i hb
    rw [← val_snoc, show pre.length + 1 = (pre ++ [b]).length by simp] at h
    have hk := (rvGo_bd _ _ _ _ _ h).2.1
    have e := ih (pre ++ [b]) t r (fun c hc => by
     rcases List.mem_append.1 hc with hc | hc
     ·exact hp c hc
     ·rw [List.mem_singleton.1 hc]; omega) h
    rw [e, List.append_assoc]
    simp only [List.length_append, List.length_singleton] at hk ⊢
    rw [show r.2 - pre.length = (r.2 - (pre.length + 1)) + 1 by omega]
    rfl
theorem rv_back {l : List UInt8} {n k : Nat} (h : rv l = some (n, k)) : varL n = l.take k := by
 have := rvGo_back 5 [] l (n, k) (fun c hc => by cases hc) h
 simpa using this
end WM
abbrev Lx (x : ByteArray) : List UInt8 := x.data.toList
theorem lx_len (x : ByteArray) : (Lx x).length = x.size := Array.length_toList
theorem at_le {x : ByteArray} {p : Nat} {bs r : List UInt8} (h : (Lx x).drop p = bs ++ r) (hb : 0 < bs.length) : p + bs.length ≤ x.size ∧ (Lx x).drop (p + bs.length) = r := by
 have hl := congrArg List.length h
 rw [List.length_drop, lx_len, List.length_append] at hl
 refine ⟨by omega, ?_⟩
 rw [← List.drop_drop, h, List.drop_left']
 rfl
theorem fwdN {x : ByteArray} {p n : Nat} {r : List UInt8} (hn : n ≤ 1000000000) (h : (Lx x).drop p = WM.varL n ++ r) : rN x (p : Int) = some (n, p + (WM.varL n).length) := by
 have h1 := at_le h (WM.varL_pos n)
 rw [rN_in (by omega), show x.data.toList.drop p = WM.varL n ++ r from h, WM.rv_var n hn r]
 rfl
theorem ext_data (x : ByteArray) (a b : Nat) : (x.extract a b).data.toList = ((Lx x).drop a).take (b - a) := by
 rw [ByteArray.data_extract, Array.toList_extract]
theorem fwdS {x : ByteArray} {p : Nat} {s : ByteArray} {r : List UInt8} (hn : s.size ≤ 20000) (h : (Lx x).drop p = shL s ++ r) : rS x (p : Int) = some (s, p + (shL s).length) := by
 unfold shL at h ⊢
 rw [List.append_assoc] at h
 have h0 := at_le h (WM.varL_pos s.size)
 have hl := congrArg List.length h0.2
 rw [List.length_drop, lx_len, List.length_append] at hl
 have hz : s.data.toList.length = s.size := Array.length_toList
 unfold rS
 rw [fwdN (by omega) h]
 dsimp only
 rw [if_pos ⟨hn, by omega⟩, List.length_append, hz, Nat.add_assoc]
 refine congrArg (fun z => some (z, _)) ?_
 apply ByteArray.ext
 apply Array.toList_inj.1
 rw [ext_data, h0.2, show p + ((WM.varL s.size).length + s.size) - (p + (WM.varL s.size).length) = s.size by omega, ← hz, List.take_left']
 rfl
theorem fwdF {x : ByteArray} {p : Nat} {b : Bool} {r : List UInt8} (h : (Lx x).drop p = bitL b ++ r) : rF x (p : Int) = some (b, p + (bitL b).length) := by
 cases b
 ·have e : (Lx x).drop p = WM.varL 0 ++ r := by rw [h, WM.varL_small 0 (by omega)]; rfl
  unfold rF
  rw [fwdN (by omega) e, WM.varL_small 0 (by omega)]
  rfl
 ·have e : (Lx x).drop p = WM.varL 1 ++ r := by rw [h, WM.varL_small 1 (by omega)]; rfl
  unfold rF
  rw [fwdN (by omega) e, WM.varL_small 1 (by omega)]
  rfl
theorem sh_pos (s : ByteArray) : 0 < (shL s).length := by
 unfold shL
 have := WM.varL_pos s.size
 rw [List.length_append]
 omega
theorem fwdRg {x : ByteArray} {p : Nat} {y : Rg} {r : List UInt8} (h1 : y.1.size ≤ 20000) (h2 : y.2.size ≤ 20000) (h : (Lx x).drop p = shL y.1 ++ (shL y.2 ++ r)) : rRg x (p : Int) = some (y, p + (shL y.1 ++ shL y.2).length) := by
 unfold rRg
 rw [fwdS h1 h]
 dsimp only
 rw [fwdS h2 (at_le h (sh_pos _)).2, List.length_append, Nat.add_assoc]
theorem fwdWt {x : ByteArray} {p : Nat} {y : Wt} {r : List UInt8} (h1 : y.1.size ≤ 20000) (h2 : y.2.1.size ≤ 20000) (h : (Lx x).drop p = shL y.1 ++ (shL y.2.1 ++ (bitL y.2.2 ++ r))) : rWt x (p : Int) = some (y, p + (shL y.1 ++ (shL y.2.1 ++ bitL y.2.2)).length) := by
 have k1 := (at_le h (sh_pos _)).2
 have k2 := (at_le k1 (sh_pos _)).2
 unfold rWt
 rw [fwdS h1 h]
 dsimp only
 rw [fwdS h2 k1]
 dsimp only
 rw [fwdF k2, List.length_append, List.length_append, Nat.add_assoc, Nat.add_assoc]
theorem at_more {x : ByteArray} {p : Nat} {bs r : List UInt8} (h : (Lx x).drop p = bs ++ r) : (Lx x).drop (p + bs.length) = r := by
 rw [← List.drop_drop, h, List.drop_left']
 rfl
theorem fwdRs {x : ByteArray} {p : Nat} {rs : List Rg} {r : List UInt8} (hz : ∀ y ∈ rs, y.1.size ≤ 20000 ∧ y.2.size ≤ 20000) (h : (Lx x).drop p = rgL rs ++ r) : ∀ k, k ≤ rs.length → many (rRg x) p k = some (rs.take k, p + (rgL (rs.take k)).length)
 | 0, _ => by simp [many, rgL]
 | k + 1, hk => by
  have ih := fwdRs hz h k (by omega)
  have e : rgL rs = rgL (rs.take k) ++ rgL (rs.drop k) := by unfold rgL; rw [← List.flatMap_append, List.take_append_drop]
  have e2 : rgL (rs.drop k) = shL rs[k].1 ++ (shL rs[k].2 ++ rgL (rs.drop (k + 1))) := by
   unfold rgL
   rw [List.drop_eq_getElem_cons (by omega), List.flatMap_cons, List.append_assoc]
  rw [e, List.append_assoc] at h
  have h1 := at_more h
  rw [e2, List.append_assoc, List.append_assoc] at h1
  have hy := hz _ (List.getElem_mem (show k < rs.length by omega))
  rw [many_yes ih (fwdRg hy.1 hy.2 h1), rg_take (by omega), List.take_succ_eq_append_getElem (by omega)]
  simp only [List.length_append, Nat.add_assoc]
theorem fwdWs {x : ByteArray} {p : Nat} {ws : List Wt} {r : List UInt8} (hz : ∀ y ∈ ws, y.1.size ≤ 20000 ∧ y.2.1.size ≤ 20000) (h : (Lx x).drop p = wrtL ws ++ r) : ∀ k, k ≤ ws.length → many (rWt x) p k = some (ws.take k, p + (wrtL (ws.take k)).length)
 | 0, _ => by simp [many, wrtL]
 | k + 1, hk => by
  have ih := fwdWs hz h k (by omega)
  have e : wrtL ws = wrtL (ws.take k) ++ wrtL (ws.drop k) := by unfold wrtL; rw [← List.flatMap_append, List.take_append_drop]
  have e2 : wrtL (ws.drop k) = shL ws[k].1 ++ (shL ws[k].2.1 ++ (bitL ws[k].2.2 ++ wrtL (ws.drop (k + 1)))) := by
   unfold wrtL
   rw [List.drop_eq_getElem_cons (by omega), List.flatMap_cons, List.append_assoc, List.append_assoc]
  rw [e, List.append_assoc] at h
  have h1 := at_more h
  rw [e2, List.append_assoc, List.append_assoc, List.append_assoc] at h1
  have hy := hz _ (List.getElem_mem (show k < ws.length by omega))
  rw [many_yes ih (fwdWt hy.1 hy.2 h1), wt_take (by omega), List.take_succ_eq_append_getElem (by omega)]
  simp only [List.length_append, Nat.add_assoc]
theorem fwdTx {x : ByteArray} {p : Nat} {t : Tx} {r : List UInt8} (ht : txnB t = true) (h : (Lx x).drop p = txL t ++ r) : rTx x (p : Int) = some (t, p + (txL t).length) := by
 have sm := right_small ht
 obtain ⟨n1, hn1⟩ := Int.eq_ofNat_of_zero_le sm.i0
 obtain ⟨n2, hn2⟩ := Int.eq_ofNat_of_zero_le sm.s0
 obtain ⟨n3, hn3⟩ := Int.eq_ofNat_of_zero_le sm.p0
 obtain ⟨n4, hn4⟩ := Int.eq_ofNat_of_zero_le sm.c0
 have b1 := sm.i1
 have b2 := sm.s1
 have b3 := sm.p1
 have b4 := sm.c1
 obtain ⟨id, st, snap, cs, rs, ws, out, nm⟩ := t
 simp only at hn1 hn2 hn3 hn4 b1 b2 b3 b4
 subst hn1 hn2 hn3 hn4
 have hrl := sm.rl
 have hwl := sm.wl
 have hrs := sm.rs
 have hws := sm.ws
 have hnm := sm.nm
 simp only at hrl hwl hrs hws hnm
 unfold txL at h ⊢
 simp only [Int.toNat_natCast, List.append_assoc] at h ⊢
 have k1 := at_more h
 have k2 := at_more k1
 have k3 := at_more k2
 have k4 := at_more k3
 have k5 := at_more k4
 have k6 := at_more k5
 have k7 := at_more k6
 have k8 := at_more k7
 have k9 := at_more k8
 have r5 : rRs x ((p + (WM.varL n1).length + (WM.varL n2).length + (WM.varL n3).length + (WM.varL n4).length : Nat) : Int) = some (rs, p + (WM.varL n1).length + (WM.varL n2).length + (WM.varL n3).length + (WM.varL n4).length + (WM.varL rs.length).length + (rgL rs).length) := by
  unfold rRs
  rw [fwdN (by omega) k4]
  dsimp only
  rw [fwdRs (fun y hy => by have := hrs y hy; omega) k5 rs.length (Nat.le_refl _), List.take_length]
 have r6 : rWs x ((p + (WM.varL n1).length + (WM.varL n2).length + (WM.varL n3).length + (WM.varL n4).length + (WM.varL rs.length).length + (rgL rs).length : Nat) : Int) = some (ws, p + (WM.varL n1).length + (WM.varL n2).length + (WM.varL n3).length + (WM.varL n4).length + (WM.varL rs.length).length + (rgL rs).length + (WM.varL ws.length).length + (wrtL ws).length) := by
  unfold rWs
  rw [fwdN (by omega) k6]
  dsimp only
  rw [fwdWs (fun y hy => by have := hws y hy; omega) k7 ws.length (Nat.le_refl _), List.take_length]
 have r1 := fwdN (by omega) h
 have r2 := fwdN (by omega) k1
 have r3 := fwdN (by omega) k2
 have r4 := fwdN (by omega) k3
 have r7 := fwdF k8
 have r8 := fwdS (by omega) k9
 simp only [rTx, r1, r2, r3, r4, r5, r6, r7, r8]
 rw [if_pos ht]
 simp only [List.length_append, Nat.add_assoc]
theorem backN {x : ByteArray} {p : Int} {n q : Nat} (h : rN x p = some (n, q)) : (Lx x).drop p.toNat = WM.varL n ++ (Lx x).drop q := by
 unfold rN at h
 split at h
 ·obtain ⟨r, hr, e⟩ := Option.map_eq_some_iff.1 h
  cases e
  obtain ⟨n, k⟩ := r
  rw [WM.rv_back hr]
  dsimp only
  rw [← List.drop_drop, List.take_append_drop]
 ·cases h
theorem backS {x : ByteArray} {p : Int} {s : ByteArray} {q : Nat} (h : rS x p = some (s, q)) : (Lx x).drop p.toNat = shL s ++ (Lx x).drop q := by
 unfold rS at h
 cases hn : rN x p with
 | none => rw [hn] at h; cases h
 | some r =>
  obtain ⟨n, k⟩ := r
  rw [hn] at h
  have b := backN hn
  dsimp only at h
  split at h
  ·rename_i hc
   cases h
   unfold shL
   rw [size_piece _ _ _ (by omega) hc.2, ext_data, b, List.append_assoc, show k + n - k = n by omega, ← List.drop_drop, List.take_append_drop]
  ·cases h
theorem backF {x : ByteArray} {p : Int} {f : Bool} {q : Nat} (h : rF x p = some (f, q)) : (Lx x).drop p.toNat = bitL f ++ (Lx x).drop q := by
 unfold rF at h
 cases hn : rN x p with
 | none => rw [hn] at h; cases h
 | some r =>
  obtain ⟨n, k⟩ := r
  rw [hn] at h
  have b := backN hn
  dsimp only at h
  split at h
  ·rename_i hc
   cases h
   rw [b]
   rcases (by omega : n = 0 ∨ n = 1) with rfl | rfl
   ·rw [WM.varL_small 0 (by omega)]; rfl
   ·rw [WM.varL_small 1 (by omega)]; rfl
  ·cases h
theorem backRg {x : ByteArray} {p : Int} {y : Rg} {q : Nat} (h : rRg x p = some (y, q)) : (Lx x).drop p.toNat = (shL y.1 ++ shL y.2) ++ (Lx x).drop q := by
 unfold rRg at h
 split at h
 ·cases h
 ·rename_i u hu
  have b1 := backS hu
  split at h
  ·cases h
  ·rename_i v hv
   have b2 := backS hv
   cases h
   rw [b1, List.append_assoc, ← b2, Int.toNat_natCast]
theorem backWt {x : ByteArray} {p : Int} {y : Wt} {q : Nat} (h : rWt x p = some (y, q)) : (Lx x).drop p.toNat = (shL y.1 ++ (shL y.2.1 ++ bitL y.2.2)) ++ (Lx x).drop q := by
 unfold rWt at h
 split at h
 ·cases h
 ·rename_i u hu
  have b1 := backS hu
  split at h
  ·cases h
  ·rename_i v hv
   have b2 := backS hv
   split at h
   ·cases h
   ·rename_i c hc
    have b3 := backF hc
    cases h
    rw [Int.toNat_natCast] at b2 b3
    rw [b1, b2, b3]
    simp only [List.append_assoc]
theorem backMany {α : Type} {x : ByteArray} {f : Int → Option (α × Nat)} {g : α → List UInt8} (hf : ∀ p y q, f p = some (y, q) → (Lx x).drop p.toNat = g y ++ (Lx x).drop q) {p : Nat} : ∀ {k : Nat} {l : List α} {q : Nat}, many f p k = some (l, q) → (Lx x).drop p = l.flatMap g ++ (Lx x).drop q := by
 intro k
 induction k with
 | zero => intro l q h; cases h; simp
 | succ k ih =>
  intro l q h
  simp only [many] at h
  split at h
  ·cases h
  ·rename_i a ha
   have b1 := ih (l := a.1) (q := a.2) ha
   split at h
   ·cases h
   ·rename_i c hc
    have b2 := hf _ c.1 c.2 hc
    cases h
    rw [Int.toNat_natCast] at b2
    rw [b1, b2, List.flatMap_append]
    simp
theorem backRs {x : ByteArray} {p : Int} {l : List Rg} {q : Nat} (h : rRs x p = some (l, q)) : (Lx x).drop p.toNat = WM.varL l.length ++ (rgL l ++ (Lx x).drop q) := by
 unfold rRs at h
 cases hn : rN x p with
 | none => rw [hn] at h; cases h
 | some r =>
  obtain ⟨n, k⟩ := r
  rw [hn] at h
  dsimp only at h
  have b := backN hn
  have hl := (many_len (rN_bd hn).2.2.1 rRg_bd h).1
  rw [b, hl, backMany (fun p y q => backRg) h]
  rfl
theorem backWs {x : ByteArray} {p : Int} {l : List Wt} {q : Nat} (h : rWs x p = some (l, q)) : (Lx x).drop p.toNat = WM.varL l.length ++ (wrtL l ++ (Lx x).drop q) := by
 unfold rWs at h
 cases hn : rN x p with
 | none => rw [hn] at h; cases h
 | some r =>
  obtain ⟨n, k⟩ := r
  rw [hn] at h
  dsimp only at h
  have b := backN hn
  have hl := (many_len (rN_bd hn).2.2.1 rWt_bd h).1
  rw [b, hl, backMany (fun p y q => backWt) h]
  rfl
theorem backTx {x : ByteArray} {p : Int} {t : Tx} {q : Nat} (h : rTx x p = some (t, q)) : (Lx x).drop p.toNat = txL t ++ (Lx x).drop q := by
 unfold rTx at h
 split at h
 ·cases h
 rename_i a1 e1
 split at h
 ·cases h
 rename_i a2 e2
 split at h
 ·cases h
 rename_i a3 e3
 split at h
 ·cases h
 rename_i a4 e4
 split at h
 ·cases h
 rename_i a5 e5
 split at h
 ·cases h
 rename_i a6 e6
 split at h
 ·cases h
 rename_i a7 e7
 split at h
 ·cases h
 rename_i a8 e8
 split at h
 ·cases h
  have c1 := backN (n := a1.1) (q := a1.2) e1
  have c2 := backN (n := a2.1) (q := a2.2) e2
  have c3 := backN (n := a3.1) (q := a3.2) e3
  have c4 := backN (n := a4.1) (q := a4.2) e4
  have c5 := backRs (l := a5.1) (q := a5.2) e5
  have c6 := backWs (l := a6.1) (q := a6.2) e6
  have c7 := backF (f := a7.1) (q := a7.2) e7
  have c8 := backS (s := a8.1) (q := a8.2) e8
  simp only [Int.toNat_natCast] at c2 c3 c4 c5 c6 c7 c8
  rw [c1, c2, c3, c4, c5, c6, c7, c8]
  unfold txL
  simp only [Int.toNat_natCast, List.append_assoc]
 ·cases h
end Go.Proofs.YtpnnncfbodfnhaaGreatDoor

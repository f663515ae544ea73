/- What is read of a text: numbers, short texts, bits. -/
import Derived.Test.YtnljmdodpffmoaaGreatPc01
import Derived.Test.YtnljmdodpffmoaaGreatPc17
import Derived.Test.YtnljmdodpffmoaaGreatPc03
import Derived.WalkLawsBesides
import Derived.Deep.RegionHeld
import Derived.Deep.RegionHeld3
namespace Go.Proofs.YtnljmdodpffmoaaGreat
open Go.RowKit
open KM
attribute [local go_sem ↓] Go.wp_at_zero Go.wp_at_succ

def rN (x : ByteArray) (p : Int) : Option (Nat × Nat) :=
 if 0 ≤ p ∧ p ≤ (x.size : Int) then (WM.rv (x.data.toList.drop p.toNat)).map (fun r => (r.1, p.toNat + r.2)) else none
def rS (x : ByteArray) (p : Int) : Option (ByteArray × Nat) :=
 match rN x p with
 | none => none
 | some r => if r.1 ≤ 20000 ∧ r.2 + r.1 ≤ x.size then some (x.extract r.2 (r.2 + r.1), r.2 + r.1) else none
def rF (x : ByteArray) (p : Int) : Option (Bool × Nat) :=
 match rN x p with
 | none => none
 | some r => if r.1 ≤ 1 then some (r.1 == 1, r.2) else none
theorem rN_bd {x : ByteArray} {p : Int} {n q : Nat} (h : rN x p = some (n, q)) : n ≤ 1000000000 ∧ p < (q : Int) ∧ q ≤ x.size ∧ 0 ≤ p := by
 unfold rN at h
 split at h
 ·rename_i hp
  obtain ⟨r, hr, e⟩ := Option.map_eq_some_iff.1 h
  cases e
  have hb := WM.rvGo_bd 5 0 0 _ _ hr
  rw [List.length_drop, Array.length_toList] at hb
  have hz : x.data.size = x.size := rfl
  rw [hz] at hb
  refine ⟨hb.1, ?_, ?_, hp.1⟩ <;> omega
 ·cases h
theorem rS_bd {x : ByteArray} {p : Int} {s : ByteArray} {q : Nat} (h : rS x p = some (s, q)) : s.size ≤ 20000 ∧ p < (q : Int) ∧ q ≤ x.size ∧ 0 ≤ p := by
 unfold rS at h
 cases hn : rN x p with
 | none => rw [hn] at h; cases h
 | some r =>
  obtain ⟨n, k⟩ := r
  rw [hn] at h
  have hb := rN_bd hn
  dsimp only at h
  split at h
  ·rename_i hc
   cases h
   rw [size_piece _ _ _ (by omega) hc.2]
   omega
  ·cases h
theorem rF_bd {x : ByteArray} {p : Int} {f : Bool} {q : Nat} (h : rF x p = some (f, q)) : p < (q : Int) ∧ q ≤ x.size ∧ 0 ≤ p := by
 unfold rF at h
 cases hn : rN x p with
 | none => rw [hn] at h; cases h
 | some r =>
  obtain ⟨n, k⟩ := r
  rw [hn] at h
  have hb := rN_bd hn
  dsimp only at h
  split at h
  ·cases h; exact hb.2
  ·cases h
def nV : Option (Nat × Nat) → Value
 | none => .tuple #[.int .i64 0, .int .i64 0, .bool false]
 | some r => .tuple #[.int .i64 (r.1 : Int), .int .i64 (r.2 : Int), .bool true]
def tV : Option (ByteArray × Nat) → Value
 | none => .tuple #[.string ⟨#[]⟩, .int .i64 0, .bool false]
 | some r => .tuple #[.string r.1, .int .i64 (r.2 : Int), .bool true]
theorem rN_out {x : ByteArray} {p : Int} (h : p < 0 ∨ (x.size : Int) < p) : rN x p = none := if_neg (by omega)
theorem rN_in {x : ByteArray} {p : Nat} (h : p ≤ x.size) : rN x (p : Int) = (WM.rv (x.data.toList.drop p)).map (fun r => (r.1, p + r.2)) := if_pos (by omega)
theorem iN (x : ByteArray) (p : Int) (hs : x.size ≤ 1048576) (w : World) :
  Calls Tryz.prog 103 #[.string x, .int .i64 p] w fun e w' => e = .returned (nV (rN x p)) ∧ Below w.heap.size w w' := by
 by_cases h : p < 0 ∨ (x.size : Int) < p
 ·refine (irv_bad x p h hs w).mono ?_
  rintro e w' ⟨rfl, rfl⟩
  exact ⟨by rw [rN_out h]; rfl, belowRefl _⟩
 ·obtain ⟨n, rfl⟩ := Int.eq_ofNat_of_zero_le (show 0 ≤ p by omega)
  have hn : n ≤ x.size := by omega
  rw [rN_in hn]
  cases hr : WM.rv (x.data.toList.drop n) with
  | none =>
   refine (irv_none x n hn hs hr w).mono ?_
   rintro e w' ⟨rfl, rfl⟩
   exact ⟨rfl, belowRefl _⟩
  | some r =>
   obtain ⟨m, k⟩ := r
   refine (irv_some x n hn hs m k hr w).mono ?_
   rintro e w' ⟨rfl, rfl⟩
   exact ⟨rfl, belowRefl _⟩
theorem sN (x : ByteArray) (p : Int) (hs : x.size ≤ 1048576) (w : World) :
  Calls Tryz.prog 82 #[.string x, .int .i64 p] w fun e w' => e = .returned (nV (rN x p)) ∧ Below w.heap.size w w' := by
 by_cases h : p < 0 ∨ (x.size : Int) < p
 ·refine (srv_bad x p h hs w).mono ?_
  rintro e w' ⟨rfl, rfl⟩
  exact ⟨by rw [rN_out h]; rfl, belowRefl _⟩
 ·obtain ⟨n, rfl⟩ := Int.eq_ofNat_of_zero_le (show 0 ≤ p by omega)
  have hn : n ≤ x.size := by omega
  rw [rN_in hn]
  cases hr : WM.rv (x.data.toList.drop n) with
  | none =>
   refine (srv_none x n hn hs hr w).mono ?_
   rintro e w' ⟨rfl, hb⟩
   exact ⟨rfl, hb⟩
  | some r =>
   obtain ⟨m, k⟩ := r
   refine (srv_some x n hn hs m k hr w).mono ?_
   rintro e w' ⟨rfl, hb⟩
   exact ⟨rfl, hb⟩
theorem iS (x : ByteArray) (p : Int) (hs : x.size ≤ 1048576) (w : World) :
  Calls Tryz.prog 104 #[.string x, .int .i64 p] w fun e w' => e = .returned (tV (rS x p)) ∧ Below w.heap.size w w' := by
 unfold rS
 by_cases h : p < 0 ∨ (x.size : Int) < p
 ·refine (ish_bad x p h hs w).mono ?_
  rintro e w' ⟨rfl, rfl⟩
  exact ⟨by rw [rN_out h]; rfl, belowRefl _⟩
 ·obtain ⟨n, rfl⟩ := Int.eq_ofNat_of_zero_le (show 0 ≤ p by omega)
  have hn : n ≤ x.size := by omega
  rw [rN_in hn]
  cases hr : WM.rv (x.data.toList.drop n) with
  | none =>
   refine (ish_none x n hn hs hr w).mono ?_
   rintro e w' ⟨rfl, rfl⟩
   exact ⟨rfl, belowRefl _⟩
  | some r =>
   obtain ⟨m, k⟩ := r
   have hb := WM.rvGo_bd 5 0 0 _ _ hr
   rw [List.length_drop, Array.length_toList] at hb
   have hz : x.data.size = x.size := rfl
   rw [hz] at hb
   by_cases hc : m ≤ 20000 ∧ n + k + m ≤ x.size
   ·refine (ish_ok x n hn hs m k hr hc.1 hc.2 w).mono ?_
    rintro e w' ⟨rfl, hb⟩
    refine ⟨?_, hb⟩
    show _ = Ending.returned (tV (if m ≤ 20000 ∧ n + k + m ≤ x.size then _ else _))
    rw [if_pos hc]; rfl
   ·refine (ish_big x n hn hs m k hr hb.1 (by omega) (by omega) w).mono ?_
    rintro e w' ⟨rfl, rfl⟩
    refine ⟨?_, belowRefl _⟩
    show _ = Ending.returned (tV (if m ≤ 20000 ∧ n + k + m ≤ x.size then _ else _))
    rw [if_neg hc]; rfl
theorem sS (x : ByteArray) (p : Int) (hs : x.size ≤ 1048576) (w : World) :
  Calls Tryz.prog 83 #[.string x, .int .i64 p] w fun e w' => e = .returned (tV (rS x p)) ∧ Below w.heap.size w w' := by
 unfold rS
 by_cases h : p < 0 ∨ (x.size : Int) < p
 ·refine (ssh_bad x p h hs w).mono ?_
  rintro e w' ⟨rfl, rfl⟩
  exact ⟨by rw [rN_out h]; rfl, belowRefl _⟩
 ·obtain ⟨n, rfl⟩ := Int.eq_ofNat_of_zero_le (show 0 ≤ p by omega)
  have hn : n ≤ x.size := by omega
  rw [rN_in hn]
  cases hr : WM.rv (x.data.toList.drop n) with
  | none =>
   refine (ssh_none x n hn hs hr w).mono ?_
   rintro e w' ⟨rfl, hb⟩
   exact ⟨rfl, hb⟩
  | some r =>
   obtain ⟨m, k⟩ := r
   have hb := WM.rvGo_bd 5 0 0 _ _ hr
   rw [List.length_drop, Array.length_toList] at hb
   have hz : x.data.size = x.size := rfl
   rw [hz] at hb
   by_cases hc : m ≤ 20000 ∧ n + k + m ≤ x.size
   ·refine (ssh_ok x n hn hs m k hr hc.1 hc.2 w).mono ?_
    rintro e w' ⟨rfl, hb⟩
    refine ⟨?_, hb⟩
    show _ = Ending.returned (tV (if m ≤ 20000 ∧ n + k + m ≤ x.size then _ else _))
    rw [if_pos hc]; rfl
   ·refine (ssh_big x n hn hs m k hr hb.1 (by omega) (by omega) w).mono ?_
    rintro e w' ⟨rfl, hb2⟩
    refine ⟨?_, hb2⟩
    show _ = Ending.returned (tV (if m ≤ 20000 ∧ n + k + m ≤ x.size then _ else _))
    rw [if_neg hc]; rfl
theorem rvGo_ge : ∀ f n k l r, 0 < k → WM.rvGo f n k l = some r → 128 ≤ r.1 := by
 intro f
 induction f with
 | zero => intro n k l r _ h; simp [WM.rvGo] at h
 | succ f ih =>
  intro n k l r hk h
  cases l with
  | nil => simp [WM.rvGo] at h
  | cons b t =>
   simp only [WM.rvGo] at h
   split at h
   ·split at h
    ·cases h
    ·rename_i hb hc
     cases h
     have h2 : 1 ≤ b.toNat % 128 := by omega
     have h3 : 128 ≤ 128 ^ k := by
      calc 128 = 128 ^ 1 := rfl
       _ ≤ 128 ^ k := Nat.pow_le_pow_right (by omega) hk
     have h4 : 1 * 128 ≤ b.toNat % 128 * 128 ^ k := Nat.mul_le_mul h2 h3
     show 128 ≤ n + b.toNat % 128 * 128 ^ k
     omega
   ·exact ih _ _ _ _ (by omega) h
theorem big_byte {b : UInt8} {l : List UInt8} {r : Nat × Nat} (h1 : ¬ b.toNat ≤ 1) (hr : WM.rv (b :: l) = some r) (hle : r.1 ≤ 1) : False := by
 unfold WM.rv at hr
 simp only [WM.rvGo] at hr
 split at hr
 ·split at hr
  ·cases hr
  ·cases hr
   simp at hle
   omega
 ·have := rvGo_ge _ _ _ _ _ (by omega) hr
  omega
theorem rF_byte {x : ByteArray} {p : Nat} (h : p < x.size) : rF x (p : Int) = if x[p].toNat ≤ 1 then some (x[p].toNat == 1, p + 1) else none := by
 unfold rF
 rw [rN_in (Nat.le_of_lt h), drop_at x p h]
 by_cases h1 : x[p].toNat ≤ 1
 ·rw [if_pos h1]
  have e : WM.rv (x[p] :: x.data.toList.drop (p + 1)) = some (x[p].toNat, 1) := by
   show (if x[p].toNat < 128 then _ else _) = _
   rw [if_pos (by omega), if_neg (by omega)]
   simp; omega
  rw [e]
  show (if x[p].toNat ≤ 1 then _ else _) = _
  rw [if_pos h1]
 ·rw [if_neg h1]
  cases hr : WM.rv (x[p] :: x.data.toList.drop (p + 1)) with
  | none => rfl
  | some r =>
   show (if r.1 ≤ 1 then _ else _) = _
   rw [if_neg]
   intro hle
   exact big_byte h1 hr hle
theorem rF_end {x : ByteArray} {p : Nat} (h : ¬ p < x.size) : rF x (p : Int) = none := by
 have : rN x (p : Int) = none := by
  by_cases hp : p = x.size
  ·subst hp
   rw [rN_in (Nat.le_refl _), List.drop_of_length_le (by rw [Array.length_toList]; exact Nat.le_refl _)]
   rfl
  ·exact rN_out (by omega)
 unfold rF
 rw [this]
end Go.Proofs.YtnljmdodpffmoaaGreat

namespace Go.Proofs.YtnljmdodpffmoaaGreat
open Go.RowKit
open KM
attribute [local go_sem ↓] Go.wp_at_zero Go.wp_at_succ

def PAN : List PanicEntry := [{ v := .iface 109 (.agg #[]), recovered := false }]
abbrev Rd (w : World) (g : Nat) (x : ByteArray) (p : Int) : Prop := Bx w g [.string x, .int .i64 p]
set_option maxRecDepth 100000 in
set_option maxHeartbeats 2000000 in
theorem inum_no (x : ByteArray) (g : Nat) (p : Int) (hs : x.size ≤ 1048576) (h : rN x p = none) (w : World) (hd : Rd w g x p) :
  Calls Tryz.prog 72 #[.pointer (some ⟨g, 0, none⟩)] w fun e w' => e = .panicked PAN ∧ w.grownBy w' (some g) := by
 have HD : Hid (Rd w g x p) := hd
 have C : Hid (∀ w, Calls Tryz.prog 103 #[.string x, .int .i64 p] w fun e w' => e = .returned (.tuple #[.int .i64 0, .int .i64 0, .bool false]) ∧ Below w.heap.size w w') := fun w => by
  have k := iN x p hs w
  rw [h] at k
  exact k
 have hgl := hd.lt
 clear hd h
 go_enter Tryz.func72, Tryz.ntmps72
 go_wp2
 refine wp_region_held_drew (S := fun w' => w'.cell? ⟨g, 0, none⟩ = some (.string x) ∧ w'.cell? ⟨g, 1, none⟩ = some (.int .i64 p)) (by kernel_rfl) ⟨HD.out.c0, HD.out.c1⟩ (fun hHeld => ?_)
 (refine tk 0 ?_ rfl (Or.inl ⟨by rfl, ?_⟩) ?_; rotate_left; (focus (intro w h; (try dsimp only at h); go_simp; (try with_reducible rfl))); simp only [Act.put, tA, tB, tD, tE, tF])
 (refine tk 1 ?_ rfl (Or.inl ⟨by rfl, ?_⟩) ?_; rotate_left; (focus (intro w h; (try dsimp only at h); go_simp; (try with_reducible rfl))); simp only [Act.put, tA, tB, tC, tD, tE, tF])
 (refine tk 2 ?_ rfl (Or.inl ⟨by rfl, ?_⟩) ?_; rotate_left; (focus (intro w h; (try dsimp only at h); go_simp; (try with_reducible rfl))); simp only [Act.put, tA, tB, tC, tD, tE, tF])
 (refine tk 3 ?_ rfl (Or.inl ⟨by rfl, ?_⟩) ?_; rotate_left; (focus (intro w h; (try dsimp only at h); go_simp; (try with_reducible rfl))); simp only [Act.put, tA, tB, tC, tD, tE, tF])
 (refine tk 4 ?_ rfl (Or.inl ⟨by rfl, ?_⟩) ?_; rotate_left; (focus (intro w h; (try dsimp only at h); go_simp; (try with_reducible rfl))); simp only [Act.put, tA, tB, tC, tD, tE, tF])
 (refine tk 5 ?_ rfl (Or.inl ⟨by rfl, ?_⟩) ?_; rotate_left; (focus (intro w h; (try dsimp only at h); go_simp; (try with_reducible rfl))); simp only [Act.put, tA, tB, tC, tD, tE, tF])
 (refine tk 6 ?_ rfl (Or.inl ⟨by rfl, ?_⟩) ?_; rotate_left; (focus (intro w h; (try dsimp only at h); go_simp; (try with_reducible rfl))); simp only [Act.put, tA, tB, tC, tD, tE, tF])
 (refine tk 7 ?_ rfl (Or.inl ⟨by rfl, ?_⟩) ?_; rotate_left; (focus (intro w h; (try dsimp only at h); go_simp; (try with_reducible rfl))); simp only [Act.put, tA, tB, tC, tD, tE, tF])
 refine wpAnyH_ready (rs := [8]) (by kernel_rfl) (by simp) ?_
 refine AllReadyH.cons rfl (fun K hK => ?_) AllReadyH.nil
 go_simp
 go_wp2_with fail
 refine (C.out _).mono ?_
 rintro e w1 ⟨rfl, hb⟩
 have hbu := undrew hb
 have HD1 := hide (HD.out.below hbu)
 have HG1 : Hid (w.grownBy w1 (some g)) := grown_below _ hbu
 clear hb hbu C
 go_wp2_with fail
 refine hK.out _ _ ⟨HD1.out.c0, HD1.out.c1⟩ (fun hHeld2 => ?_)
 clear hK K
 (refine tk 9 ?_ rfl (Or.inl ⟨by rfl, ?_⟩) ?_; rotate_left; (focus (intro w h; (try dsimp only at h); go_simp; (try with_reducible rfl))); simp only [Act.put, tA, tB, tC, tD, tE, tF])
 (refine tk 10 ?_ rfl (Or.inl ⟨by rfl, ?_⟩) ?_; rotate_left; (focus (intro w h; (try dsimp only at h); go_simp; (try with_reducible rfl))); simp only [Act.put, tA, tB, tC, tD, tE, tF])
 (refine tk 11 ?_ rfl (Or.inl ⟨by rfl, ?_⟩) ?_; rotate_left; (focus (intro w h; (try dsimp only at h); go_simp; (try with_reducible rfl))); simp only [Act.put, tA, tB, tC, tD, tE, tF])
 (refine tk 12 ?_ rfl (Or.inl ⟨by rfl, ?_⟩) ?_; rotate_left; (focus (intro w h; (try dsimp only at h); go_simp; (try with_reducible rfl))); simp only [Act.put, tA, tB, tC, tD, tE, tF])
 (refine tk 13 ?_ rfl (Or.inl ⟨by rfl, ?_⟩) ?_; rotate_left; (focus (intro w h; (try dsimp only at h); go_simp; (try with_reducible rfl))); simp only [Act.put, tA, tB, tC, tD, tE, tF])
 (refine tk 14 ?_ rfl (Or.inl ⟨by rfl, ?_⟩) ?_; rotate_left; (focus (intro w h; (try dsimp only at h); go_simp; (try with_reducible rfl))); simp only [Act.put, tA, tB, tC, tD, tE, tF])
 (refine tk 15 ?_ rfl (Or.inl ⟨by rfl, ?_⟩) ?_; rotate_left; (focus (intro w h; (try dsimp only at h); go_simp; (try with_reducible rfl))); simp only [Act.put, tA, tB, tC, tD, tE, tF])
 refine wpAnyH_done (by kernel_rfl) ?_ _
 go_wp2
 exact ⟨rfl, rfl, HG1.out⟩

set_option maxRecDepth 100000 in
set_option maxHeartbeats 2000000 in
theorem inum_yes (x : ByteArray) (g : Nat) (p : Int) (hs : x.size ≤ 1048576) (n : Nat) (q : Nat) (h : rN x p = some (n, q)) (w : World) (hd : Rd w g x p) :
  Calls Tryz.prog 72 #[.pointer (some ⟨g, 0, none⟩)] w fun e w' => e = .returned (.int .i64 (n : Int)) ∧ Rd w' g x (q : Int) ∧ w.grownBy w' (some g) := by
 have HD : Hid (Rd w g x p) := hd
 have C : Hid (∀ w, Calls Tryz.prog 103 #[.string x, .int .i64 p] w fun e w' => e = .returned (.tuple #[.int .i64 (n : Int), .int .i64 (q : Int), .bool true]) ∧ Below w.heap.size w w') := fun w => by
  have k := iN x p hs w
  rw [h] at k
  exact k
 have hgl := hd.lt
 clear hd h
 go_enter Tryz.func72, Tryz.ntmps72
 go_wp2
 refine wp_region_held_drew (S := fun w' => w'.cell? ⟨g, 0, none⟩ = some (.string x) ∧ w'.cell? ⟨g, 1, none⟩ = some (.int .i64 p)) (by kernel_rfl) ⟨HD.out.c0, HD.out.c1⟩ (fun hHeld => ?_)
 (refine tk 0 ?_ rfl (Or.inl ⟨by rfl, ?_⟩) ?_; rotate_left; (focus (intro w h; (try dsimp only at h); go_simp; (try with_reducible rfl))); simp only [Act.put, tA, tB, tD, tE, tF])
 (refine tk 1 ?_ rfl (Or.inl ⟨by rfl, ?_⟩) ?_; rotate_left; (focus (intro w h; (try dsimp only at h); go_simp; (try with_reducible rfl))); simp only [Act.put, tA, tB, tC, tD, tE, tF])
 (refine tk 2 ?_ rfl (Or.inl ⟨by rfl, ?_⟩) ?_; rotate_left; (focus (intro w h; (try dsimp only at h); go_simp; (try with_reducible rfl))); simp only [Act.put, tA, tB, tC, tD, tE, tF])
 (refine tk 3 ?_ rfl (Or.inl ⟨by rfl, ?_⟩) ?_; rotate_left; (focus (intro w h; (try dsimp only at h); go_simp; (try with_reducible rfl))); simp only [Act.put, tA, tB, tC, tD, tE, tF])
 (refine tk 4 ?_ rfl (Or.inl ⟨by rfl, ?_⟩) ?_; rotate_left; (focus (intro w h; (try dsimp only at h); go_simp; (try with_reducible rfl))); simp only [Act.put, tA, tB, tC, tD, tE, tF])
 (refine tk 5 ?_ rfl (Or.inl ⟨by rfl, ?_⟩) ?_; rotate_left; (focus (intro w h; (try dsimp only at h); go_simp; (try with_reducible rfl))); simp only [Act.put, tA, tB, tC, tD, tE, tF])
 (refine tk 6 ?_ rfl (Or.inl ⟨by rfl, ?_⟩) ?_; rotate_left; (focus (intro w h; (try dsimp only at h); go_simp; (try with_reducible rfl))); simp only [Act.put, tA, tB, tC, tD, tE, tF])
 (refine tk 7 ?_ rfl (Or.inl ⟨by rfl, ?_⟩) ?_; rotate_left; (focus (intro w h; (try dsimp only at h); go_simp; (try with_reducible rfl))); simp only [Act.put, tA, tB, tC, tD, tE, tF])
 refine wpAnyH_ready (rs := [8]) (by kernel_rfl) (by simp) ?_
 refine AllReadyH.cons rfl (fun K hK => ?_) AllReadyH.nil
 go_simp
 go_wp2_with fail
 refine (C.out _).mono ?_
 rintro e w1 ⟨rfl, hb⟩
 have hbu := undrew hb
 have HD1 := hide (HD.out.below hbu)
 have HG1 : Hid (w.grownBy w1 (some g)) := grown_below _ hbu
 clear hb hbu C
 go_wp2_with fail
 refine hK.out _ _ ⟨HD1.out.c0, HD1.out.c1⟩ (fun hHeld2 => ?_)
 clear hK K
 (refine tk 9 ?_ rfl (Or.inl ⟨by rfl, ?_⟩) ?_; rotate_left; (focus (intro w h; (try dsimp only at h); go_simp; (try with_reducible rfl))); simp only [Act.put, tA, tB, tC, tD, tE, tF])
 (refine tk 10 ?_ rfl (Or.inl ⟨by rfl, ?_⟩) ?_; rotate_left; (focus (intro w h; (try dsimp only at h); go_simp; (try with_reducible rfl))); simp only [Act.put, tA, tB, tC, tD, tE, tF])
 (refine tk 11 ?_ rfl (Or.inl ⟨by rfl, ?_⟩) ?_; rotate_left; (focus (intro w h; (try dsimp only at h); go_simp; (try with_reducible rfl))); simp only [Act.put, tA, tB, tC, tD, tE, tF])
 (refine tk 12 ?_ rfl (Or.inl ⟨by rfl, ?_⟩) ?_; rotate_left; (focus (intro w h; (try dsimp only at h); go_simp; (try with_reducible rfl))); simp only [Act.put, tA, tB, tC, tD, tE, tF])
 (refine tk 13 ?_ rfl (Or.inl ⟨by rfl, ?_⟩) ?_; rotate_left; (focus (intro w h; (try dsimp only at h); go_simp; (try with_reducible rfl))); simp only [Act.put, tA, tB, tC, tD, tE, tF])
 (refine tk 14 ?_ rfl (Or.inl ⟨by rfl, ?_⟩) ?_; rotate_left; (focus (intro w h; (try dsimp only at h); go_simp; (try with_reducible rfl))); simp only [Act.put, tA, tB, tC, tD, tE, tF])
 (refine tk 15 ?_ rfl (Or.inl ⟨by rfl, ?_⟩) ?_; rotate_left; (focus (intro w h; (try dsimp only at h); go_simp; (try with_reducible rfl))); simp only [Act.put, tA, tB, tC, tD, tE, tF])
 refine wpAnyH_done (by kernel_rfl) ?_ _
 have c0 := HD1.out.c0
 have c1 := HD1.out.c1
 have fz := HD1.out.fz
 go_wp2
 go_ret
 exact ⟨rfl, HD1.out.set 1 _, grown_trans HG1.out (grown_set _ g 1 _)⟩

set_option maxRecDepth 100000 in
set_option maxHeartbeats 2000000 in
theorem ishrt_no (x : ByteArray) (g : Nat) (p : Int) (hs : x.size ≤ 1048576) (h : rS x p = none) (w : World) (hd : Rd w g x p) :
  Calls Tryz.prog 76 #[.pointer (some ⟨g, 0, none⟩)] w fun e w' => e = .panicked PAN ∧ w.grownBy w' (some g) := by
 have HD : Hid (Rd w g x p) := hd
 have C : Hid (∀ w, Calls Tryz.prog 104 #[.string x, .int .i64 p] w fun e w' => e = .returned (.tuple #[.string ⟨#[]⟩, .int .i64 0, .bool false]) ∧ Below w.heap.size w w') := fun w => by
  have k := iS x p hs w
  rw [h] at k
  exact k
 have hgl := hd.lt
 clear hd h
 go_enter Tryz.func76, Tryz.ntmps76
 go_wp2
 refine wp_region_held_drew (S := fun w' => w'.cell? ⟨g, 0, none⟩ = some (.string x) ∧ w'.cell? ⟨g, 1, none⟩ = some (.int .i64 p)) (by kernel_rfl) ⟨HD.out.c0, HD.out.c1⟩ (fun hHeld => ?_)
 (refine tk 0 ?_ rfl (Or.inl ⟨by rfl, ?_⟩) ?_; rotate_left; (focus (intro w h; (try dsimp only at h); go_simp; (try with_reducible rfl))); simp only [Act.put, tA, tB, tD, tE, tF])
 (refine tk 1 ?_ rfl (Or.inl ⟨by rfl, ?_⟩) ?_; rotate_left; (focus (intro w h; (try dsimp only at h); go_simp; (try with_reducible rfl))); simp only [Act.put, tA, tB, tC, tD, tE, tF])
 (refine tk 2 ?_ rfl (Or.inl ⟨by rfl, ?_⟩) ?_; rotate_left; (focus (intro w h; (try dsimp only at h); go_simp; (try with_reducible rfl))); simp only [Act.put, tA, tB, tC, tD, tE, tF])
 (refine tk 3 ?_ rfl (Or.inl ⟨by rfl, ?_⟩) ?_; rotate_left; (focus (intro w h; (try dsimp only at h); go_simp; (try with_reducible rfl))); simp only [Act.put, tA, tB, tC, tD, tE, tF])
 (refine tk 4 ?_ rfl (Or.inl ⟨by rfl, ?_⟩) ?_; rotate_left; (focus (intro w h; (try dsimp only at h); go_simp; (try with_reducible rfl))); simp only [Act.put, tA, tB, tC, tD, tE, tF])
 (refine tk 5 ?_ rfl (Or.inl ⟨by rfl, ?_⟩) ?_; rotate_left; (focus (intro w h; (try dsimp only at h); go_simp; (try with_reducible rfl))); simp only [Act.put, tA, tB, tC, tD, tE, tF])
 (refine tk 6 ?_ rfl (Or.inl ⟨by rfl, ?_⟩) ?_; rotate_left; (focus (intro w h; (try dsimp only at h); go_simp; (try with_reducible rfl))); simp only [Act.put, tA, tB, tC, tD, tE, tF])
 (refine tk 7 ?_ rfl (Or.inl ⟨by rfl, ?_⟩) ?_; rotate_left; (focus (intro w h; (try dsimp only at h); go_simp; (try with_reducible rfl))); simp only [Act.put, tA, tB, tC, tD, tE, tF])
 refine wpAnyH_ready (rs := [8]) (by kernel_rfl) (by simp) ?_
 refine AllReadyH.cons rfl (fun K hK => ?_) AllReadyH.nil
 go_simp
 go_wp2_with fail
 refine (C.out _).mono ?_
 rintro e w1 ⟨rfl, hb⟩
 have hbu := undrew hb
 have HD1 := hide (HD.out.below hbu)
 have HG1 : Hid (w.grownBy w1 (some g)) := grown_below _ hbu
 clear hb hbu C
 go_wp2_with fail
 refine hK.out _ _ ⟨HD1.out.c0, HD1.out.c1⟩ (fun hHeld2 => ?_)
 clear hK K
 (refine tk 9 ?_ rfl (Or.inl ⟨by rfl, ?_⟩) ?_; rotate_left; (focus (intro w h; (try dsimp only at h); go_simp; (try with_reducible rfl))); simp only [Act.put, tA, tB, tC, tD, tE, tF])
 (refine tk 10 ?_ rfl (Or.inl ⟨by rfl, ?_⟩) ?_; rotate_left; (focus (intro w h; (try dsimp only at h); go_simp; (try with_reducible rfl))); simp only [Act.put, tA, tB, tC, tD, tE, tF])
 (refine tk 11 ?_ rfl (Or.inl ⟨by rfl, ?_⟩) ?_; rotate_left; (focus (intro w h; (try dsimp only at h); go_simp; (try with_reducible rfl))); simp only [Act.put, tA, tB, tC, tD, tE, tF])
 (refine tk 12 ?_ rfl (Or.inl ⟨by rfl, ?_⟩) ?_; rotate_left; (focus (intro w h; (try dsimp only at h); go_simp; (try with_reducible rfl))); simp only [Act.put, tA, tB, tC, tD, tE, tF])
 (refine tk 13 ?_ rfl (Or.inl ⟨by rfl, ?_⟩) ?_; rotate_left; (focus (intro w h; (try dsimp only at h); go_simp; (try with_reducible rfl))); simp only [Act.put, tA, tB, tC, tD, tE, tF])
 (refine tk 14 ?_ rfl (Or.inl ⟨by rfl, ?_⟩) ?_; rotate_left; (focus (intro w h; (try dsimp only at h); go_simp; (try with_reducible rfl))); simp only [Act.put, tA, tB, tC, tD, tE, tF])
 (refine tk 15 ?_ rfl (Or.inl ⟨by rfl, ?_⟩) ?_; rotate_left; (focus (intro w h; (try dsimp only at h); go_simp; (try with_reducible rfl))); simp only [Act.put, tA, tB, tC, tD, tE, tF])
 refine wpAnyH_done (by kernel_rfl) ?_ _
 go_wp2
 exact ⟨rfl, rfl, HG1.out⟩

set_option maxRecDepth 100000 in
set_option maxHeartbeats 2000000 in
theorem ishrt_yes (x : ByteArray) (g : Nat) (p : Int) (hs : x.size ≤ 1048576) (n : ByteArray) (q : Nat) (h : rS x p = some (n, q)) (w : World) (hd : Rd w g x p) :
  Calls Tryz.prog 76 #[.pointer (some ⟨g, 0, none⟩)] w fun e w' => e = .returned (.string n) ∧ Rd w' g x (q : Int) ∧ w.grownBy w' (some g) := by
 have HD : Hid (Rd w g x p) := hd
 have C : Hid (∀ w, Calls Tryz.prog 104 #[.string x, .int .i64 p] w fun e w' => e = .returned (.tuple #[.string n, .int .i64 (q : Int), .bool true]) ∧ Below w.heap.size w w') := fun w => by
  have k := iS x p hs w
  rw [h] at k
  exact k
 have hgl := hd.lt
 clear hd h
 go_enter Tryz.func76, Tryz.ntmps76
 go_wp2
 refine wp_region_held_drew (S := fun w' => w'.cell? ⟨g, 0, none⟩ = some (.string x) ∧ w'.cell? ⟨g, 1, none⟩ = some (.int .i64 p)) (by kernel_rfl) ⟨HD.out.c0, HD.out.c1⟩ (fun hHeld => ?_)
 (refine tk 0 ?_ rfl (Or.inl ⟨by rfl, ?_⟩) ?_; rotate_left; (focus (intro w h; (try dsimp only at h); go_simp; (try with_reducible rfl))); simp only [Act.put, tA, tB, tD, tE, tF])
 (refine tk 1 ?_ rfl (Or.inl ⟨by rfl, ?_⟩) ?_; rotate_left; (focus (intro w h; (try dsimp only at h); go_simp; (try with_reducible rfl))); simp only [Act.put, tA, tB, tC, tD, tE, tF])
 (refine tk 2 ?_ rfl (Or.inl ⟨by rfl, ?_⟩) ?_; rotate_left; (focus (intro w h; (try dsimp only at h); go_simp; (try with_reducible rfl))); simp only [Act.put, tA, tB, tC, tD, tE, tF])
 (refine tk 3 ?_ rfl (Or.inl ⟨by rfl, ?_⟩) ?_; rotate_left; (focus (intro w h; (try dsimp only at h); go_simp; (try with_reducible rfl))); simp only [Act.put, tA, tB, tC, tD, tE, tF])
 (refine tk 4 ?_ rfl (Or.inl ⟨by rfl, ?_⟩) ?_; rotate_left; (focus (intro w h; (try dsimp only at h); go_simp; (try with_reducible rfl))); simp only [Act.put, tA, tB, tC, tD, tE, tF])
 (refine tk 5 ?_ rfl (Or.inl ⟨by rfl, ?_⟩) ?_; rotate_left; (focus (intro w h; (try dsimp only at h); go_simp; (try with_reducible rfl))); simp only [Act.put, tA, tB, tC, tD, tE, tF])
 (refine tk 6 ?_ rfl (Or.inl ⟨by rfl, ?_⟩) ?_; rotate_left; (focus (intro w h; (try dsimp only at h); go_simp; (try with_reducible rfl))); simp only [Act.put, tA, tB, tC, tD, tE, tF])
 (refine tk 7 ?_ rfl (Or.inl ⟨by rfl, ?_⟩) ?_; rotate_left; (focus (intro w h; (try dsimp only at h); go_simp; (try with_reducible rfl))); simp only [Act.put, tA, tB, tC, tD, tE, tF])
 refine wpAnyH_ready (rs := [8]) (by kernel_rfl) (by simp) ?_
 refine AllReadyH.cons rfl (fun K hK => ?_) AllReadyH.nil
 go_simp
 go_wp2_with fail
 refine (C.out _).mono ?_
 rintro e w1 ⟨rfl, hb⟩
 have hbu := undrew hb
 have HD1 := hide (HD.out.below hbu)
 have HG1 : Hid (w.grownBy w1 (some g)) := grown_below _ hbu
 clear hb hbu C
 go_wp2_with fail
 refine hK.out _ _ ⟨HD1.out.c0, HD1.out.c1⟩ (fun hHeld2 => ?_)
 clear hK K
 (refine tk 9 ?_ rfl (Or.inl ⟨by rfl, ?_⟩) ?_; rotate_left; (focus (intro w h; (try dsimp only at h); go_simp; (try with_reducible rfl))); simp only [Act.put, tA, tB, tC, tD, tE, tF])
 (refine tk 10 ?_ rfl (Or.inl ⟨by rfl, ?_⟩) ?_; rotate_left; (focus (intro w h; (try dsimp only at h); go_simp; (try with_reducible rfl))); simp only [Act.put, tA, tB, tC, tD, tE, tF])
 (refine tk 11 ?_ rfl (Or.inl ⟨by rfl, ?_⟩) ?_; rotate_left; (focus (intro w h; (try dsimp only at h); go_simp; (try with_reducible rfl))); simp only [Act.put, tA, tB, tC, tD, tE, tF])
 (refine tk 12 ?_ rfl (Or.inl ⟨by rfl, ?_⟩) ?_; rotate_left; (focus (intro w h; (try dsimp only at h); go_simp; (try with_reducible rfl))); simp only [Act.put, tA, tB, tC, tD, tE, tF])
 (refine tk 13 ?_ rfl (Or.inl ⟨by rfl, ?_⟩) ?_; rotate_left; (focus (intro w h; (try dsimp only at h); go_simp; (try with_reducible rfl))); simp only [Act.put, tA, tB, tC, tD, tE, tF])
 (refine tk 14 ?_ rfl (Or.inl ⟨by rfl, ?_⟩) ?_; rotate_left; (focus (intro w h; (try dsimp only at h); go_simp; (try with_reducible rfl))); simp only [Act.put, tA, tB, tC, tD, tE, tF])
 (refine tk 15 ?_ rfl (Or.inl ⟨by rfl, ?_⟩) ?_; rotate_left; (focus (intro w h; (try dsimp only at h); go_simp; (try with_reducible rfl))); simp only [Act.put, tA, tB, tC, tD, tE, tF])
 refine wpAnyH_done (by kernel_rfl) ?_ _
 have c0 := HD1.out.c0
 have c1 := HD1.out.c1
 have fz := HD1.out.fz
 go_wp2
 go_ret
 exact ⟨rfl, HD1.out.set 1 _, grown_trans HG1.out (grown_set _ g 1 _)⟩

set_option maxRecDepth 100000 in
set_option maxHeartbeats 2000000 in
theorem iflag_no (x : ByteArray) (g : Nat) (p : Int) (hs : x.size ≤ 1048576) (h : rF x p = none) (w : World) (hd : Rd w g x p) :
  Calls Tryz.prog 75 #[.pointer (some ⟨g, 0, none⟩)] w fun e w' => e = .panicked PAN ∧ w.grownBy w' (some g) := by
 have HD : Hid (Rd w g x p) := hd
 have HR : Hid (rF x p = none) := h
 clear hd h
 cases hn : rN x p with
 | none =>
  have HN := hide hn
  clear hn
  go_enter Tryz.func75, Tryz.ntmps75
  go_wp2_with (go_at_call 72; refine (inum_no x g p hs HN.out _ HD.out).mono ?_; rintro e w' ⟨rfl, hg⟩)
  exact ⟨rfl, rfl, hg⟩
 | some r =>
  obtain ⟨n, q⟩ := r
  have hb : 1 < n := by
   have := HR.out
   unfold rF at this
   rw [hn] at this
   dsimp only at this
   split at this
   ·cases this
   ·omega
  have hb' : (1 : Int) < (n : Int) := by omega
  have HN := hide hn
  clear hn HR
  go_enter Tryz.func75, Tryz.ntmps75
  go_wp2_with (go_at_call 72; refine (inum_yes x g p hs n q HN.out _ HD.out).mono ?_; rintro e w' ⟨rfl, hd, hg⟩)
  exact ⟨rfl, rfl, hg⟩

set_option maxRecDepth 100000 in
set_option maxHeartbeats 2000000 in
theorem iflag_yes (x : ByteArray) (g : Nat) (p : Int) (hs : x.size ≤ 1048576) (f : Bool) (q : Nat) (h : rF x p = some (f, q)) (w : World) (hd : Rd w g x p) :
  Calls Tryz.prog 75 #[.pointer (some ⟨g, 0, none⟩)] w fun e w' => e = .returned (.bool f) ∧ Rd w' g x (q : Int) ∧ w.grownBy w' (some g) := by
 have HD : Hid (Rd w g x p) := hd
 clear hd
 unfold rF at h
 cases hn : rN x p with
 | none => rw [hn] at h; cases h
 | some r =>
  obtain ⟨n, k⟩ := r
  rw [hn] at h
  dsimp only at h
  split at h
  ·rename_i hle
   cases h
   have hb' : ¬ (1 : Int) < (n : Int) := by omega
   have HN := hide hn
   clear hn
   rcases (by omega : n = 0 ∨ n = 1) with rfl | rfl
   ·go_enter Tryz.func75, Tryz.ntmps75
    go_wp2_with (go_at_call 72; refine (inum_yes x g p hs 0 _ HN.out _ HD.out).mono ?_; rintro e w' ⟨rfl, hd, hg⟩)
    go_ret
    exact ⟨rfl, hd, hg⟩
   ·go_enter Tryz.func75, Tryz.ntmps75
    go_wp2_with (go_at_call 72; refine (inum_yes x g p hs 1 _ HN.out _ HD.out).mono ?_; rintro e w' ⟨rfl, hd, hg⟩)
    go_ret
    exact ⟨rfl, hd, hg⟩
  ·cases h

end Go.Proofs.YtnljmdodpffmoaaGreat
